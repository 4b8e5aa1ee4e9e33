/- What the laws on grids ask of a good grid and of the least sheet, in numbers. No program is named here. -/
import Derived.Test.YthepfejoneeaeaaPrMa2
namespace Go.Proofs.Ythepfejoneeaeaa
namespace Pr
/-- A row of pages that fits, and one more that doesn't, in the products that the law reckons. -/
theorem row_facts {m s e f X : Int} (hs : 1 ≤ s ∧ s ≤ 20000) (he : 0 ≤ e ∧ e ≤ 20000) (hf : 0 ≤ f ∧ f ≤ 20000) (hm : m ≤ 20000) (hX : ct m s e f = X) (h1 : ¬ X = 0) :
    ∃ x y, X * s = x ∧ (X - 1) * f = y ∧ (X + 1) * s = x + s ∧ X * f = y + f ∧ (1 ≤ X ∧ X ≤ 20000) ∧ (0 ≤ x ∧ x ≤ 20000) ∧ (0 ≤ y ∧ y ≤ 20000) ∧ x + y + 2 * e ≤ m ∧ m < x + s + (y + f) + 2 * e := by
  have q1 := ct_bd (m := m) (s := s) (e := e) (f := f) hs.1 he.1 hf.1 hm
  have n1 := need_fits (m := m) (s := s) (e := e) (f := f) hs.1 hf.1 (by omega)
  rw [hX] at q1 n1
  unfold need at n1
  have x0 := Int.mul_nonneg (show 0 ≤ X by omega) (show 0 ≤ s by omega)
  have y0 := Int.mul_nonneg (show 0 ≤ X - 1 by omega) hf.1
  have e1 : (X + 1) * s = X * s + s := by rw [Int.add_mul]; omega
  have e2 : X * f = (X - 1) * f + f := by rw [Int.sub_mul]; omega
  rw [e1, show X + 1 - 1 = X by omega, e2] at n1
  exact ⟨_, _, rfl, rfl, e1, e2, by omega, ⟨x0, by omega⟩, ⟨y0, by omega⟩, by omega, by omega⟩
theorem k_cases (a b g c d e f : Int) {X Y K W : Int} (hX : gdR a b g c d e f = X) (hY : gdS a b g c d e f = Y) (hK : gdC a b g c d e f = K) (hW : wsR a b g c d e f = W) :
    (K = 0 ∧ (shB a b g = true ∧ tmB c d e f = true) ∧ ct a c e f = X ∧ ct (b - g) d e f = Y ∧ ¬ X = 0 ∧ ¬ Y = 0 ∧ a * b - X * Y * c * d = W) ∨ (¬ K = 0) := by
  rcases gd_cases a b g c d e f with ⟨h0, h1, h2, n1, n2, h3, h4, h5, _⟩ | ⟨_, _, _, _, _, _, h5, _⟩ | ⟨_, _, _, _, h5⟩
  · left
    have e1 := h3.symm.trans hX
    have e2 := h4.symm.trans hY
    refine ⟨hK.symm.trans h5, ⟨h1, h2⟩, e1, e2, by rw [← e1]; exact n1, by rw [← e2]; exact n2, ?_⟩
    rw [← hW]
    unfold wsR
    rw [if_pos h0, e1, e2]
  · right; omega
  · right; omega
theorem c_cases (a b g c d e f i j : Int) {X Y K : Int} (hX : crX a b g c d e f i j = X) (hY : crY a b g c d e f i j = Y) (hK : crC a b g c d e f i j = K) :
    (K = 0 ∧ ((1 ≤ a ∧ a ≤ 20000) ∧ (1 ≤ b ∧ b ≤ 20000) ∧ 0 ≤ g ∧ g < b) ∧ ((1 ≤ c ∧ c ≤ 20000) ∧ (1 ≤ d ∧ d ≤ 20000) ∧ (0 ≤ e ∧ e ≤ 20000) ∧ 0 ≤ f ∧ f ≤ 20000) ∧ (e ≤ X ∧ X + c + e ≤ a) ∧ (e ≤ Y ∧ Y + d + e ≤ b - g)) ∨ (¬ K = 0) := by
  rcases cr_cases a b g c d e f i j with ⟨X', Y', u, v, _, ⟨_, hp, ht⟩, _, _, _, _, _, ⟨_, u0, u1⟩, ⟨_, v0, v1⟩, q1, q2, q3⟩ | ⟨_, _, _, _, _, q3⟩ | ⟨_, _, _, _, q3⟩
  · left
    exact ⟨hK.symm.trans q3, sh_out hp, tm_out ht, by omega, by omega⟩
  · right; omega
  · right; omega
theorem need_mono {n z s e f : Int} (hs : 0 ≤ s) (hf : 0 ≤ f) (h : n ≤ z) : need n s e f ≤ need z s e f := by
  unfold need
  have h1 := Int.mul_le_mul_of_nonneg_right h hs
  have h2 := Int.mul_le_mul_of_nonneg_right (show n - 1 ≤ z - 1 by omega) hf
  omega
/-- A grid of valid parts: what it counts, as one product. -/
theorem gd_up {a b g c d e f U : Int} (hp : shB a b g = true) (ht : tmB c d e f = true) (hU : up a b g c d e f = U) :
    ∃ X Y K, gdR a b g c d e f = X ∧ gdS a b g c d e f = Y ∧ gdC a b g c d e f = K ∧ X * Y = U ∧ (K = 0 ∨ (K = 4 ∧ X = 0 ∧ Y = 0)) := by
  rcases gd_cases a b g c d e f with ⟨_, _, _, _, _, h3, h4, h5, _⟩ | ⟨_, _, _, hz, h3, h4, h5, _⟩ | ⟨_, hb, _⟩
  · exact ⟨_, _, _, h3, h4, h5, hU, .inl rfl⟩
  · refine ⟨_, _, _, h3, h4, h5, ?_, .inr ⟨rfl, rfl, rfl⟩⟩
    rw [← hU]
    unfold up
    rcases hz with hz | hz <;> rw [hz] <;> simp
  · unfold bothB at hb; rw [hp, ht] at hb; cases hb
/-- The least sheet: its grid is the one asked for, and on a narrower one there are fewer columns. -/
theorem ls_grid {c d e f n m t p q s : Int} {z : Bool} {k : Int} (h : lsP c d e f n m t p q s z k) :
    (¬ k = 0) ∨ (k = 0 ∧ gdR p q s c d e f = n ∧ gdS p q s c d e f = m ∧ gdC p q s c d e f = 0 ∧ (1 ≤ p ∧ p ≤ 20000) ∧ ∀ Z K, gdR (p - 1) q s c d e f = Z → gdC (p - 1) q s c d e f = K → K = 0 → Z < n) := by
  rcases h with ⟨_, _, _, _, _, hk⟩ | ⟨_, _, _, _, _, _, hk⟩ | ⟨_, _, _, _, _, _, _, hk⟩ | ⟨ht, ⟨hn, hm, hg⟩, hs, hp, hq, hss, _, hk⟩
  · left; omega
  · left; omega
  · left; omega
  · right
    rw [← hp, ← hq, ← hss] at hs
    obtain ⟨⟨hp1, hp2⟩, _⟩ := sh_out hs
    obtain ⟨c1, d1, e1, f1⟩ := tm_out ht
    have hX : ct p c e f = n := ct_need c1.1 f1.1 hn.1 (by rw [← hp]; omega) (by
      rw [hp]
      have : need (n + 1) c e f = need n c e f + (c + f) := by unfold need; rw [show n + 1 - 1 = n - 1 + 1 by omega, Int.add_mul, Int.add_mul]; omega
      omega)
    have hY : ct (q - s) d e f = m := ct_need d1.1 f1.1 hm.1 (by rw [hq, hss]; omega) (by
      rw [hq, hss]
      have : need (m + 1) d e f = need m d e f + (d + f) := by unfold need; rw [show m + 1 - 1 = m - 1 + 1 by omega, Int.add_mul, Int.add_mul]; omega
      omega)
    refine ⟨hk, ?_⟩
    have hgd : gdR p q s c d e f = n ∧ gdS p q s c d e f = m ∧ gdC p q s c d e f = 0 := by
      rcases gd_cases p q s c d e f with ⟨_, _, _, _, _, h3, h4, h5, _⟩ | ⟨_, _, _, hz, _⟩ | ⟨_, hb, _⟩
      · exact ⟨h3.trans hX, h4.trans hY, h5⟩
      · rw [hX, hY] at hz; omega
      · unfold bothB at hb; rw [hs, ht] at hb; cases hb
    refine ⟨hgd.1, hgd.2.1, hgd.2.2, ⟨hp1, hp2⟩, fun Z K hZ hK hK0 => ?_⟩
    rcases gd_cases (p - 1) q s c d e f with ⟨_, hs2, _, n1, _, h3, _⟩ | ⟨_, _, _, _, _, _, h5, _⟩ | ⟨_, _, _, _, h5⟩
    · have hz : ct (p - 1) c e f = Z := h3.symm.trans hZ
      have hb := ct_bd (m := p - 1) (s := c) (e := e) (f := f) c1.1 e1.1 f1.1 (by omega)
      have hf := need_fits (m := p - 1) (s := c) (e := e) (f := f) c1.1 f1.1 (by omega)
      rw [hz] at hb hf
      by_cases hle : n ≤ Z
      · have := need_mono (e := e) (show 0 ≤ c by omega) f1.1 hle
        omega
      · omega
    · omega
    · omega
/-- The better grid, where there is one. -/
theorem bg_grid {a b g : Int} {r : Bool} {c d e f : Int} {o z : Bool} {x k : Int} (h : bgP a b g r c d e f o z x k) :
    (¬ k = 0) ∨ (k = 0 ∧ ∃ U V, (shB a b g = true ∧ tmB c d e f = true) ∧ (up a b g c d e f = U ∧ 0 ≤ U ∧ U ≤ 400000000) ∧ (up a b g d c e f = V ∧ 0 ≤ V ∧ V ≤ 400000000) ∧
      ((o = false ∧ z = true ∧ x = V ∧ U < V) ∨ (o = false ∧ z = false ∧ x = U ∧ V ≤ U) ∨ (o = true ∧ r = true ∧ z = false ∧ x = U) ∨ (o = true ∧ r = false ∧ z = true ∧ x = V))) := by
  rcases bg_ways h with ⟨_, _, _, hk⟩ | ⟨U, V, hv, hU, hV, h⟩
  · left; omega
  · rcases h with ⟨ho, h⟩ | ⟨ho, hr, h⟩ | ⟨ho, hr, h⟩
    · rcases h with ⟨_, _, _, _, hk⟩ | ⟨q, hz, hx, hk⟩ | ⟨q, q2, hz, hx, hk⟩ | ⟨q, hz, hx, hk⟩
      · left; omega
      · right; exact ⟨hk, U, V, hv, hU, hV, .inl ⟨ho, hz, hx, q⟩⟩
      · right; exact ⟨hk, U, V, hv, hU, hV, .inr (.inl ⟨ho, hz, hx, by omega⟩)⟩
      · right; exact ⟨hk, U, V, hv, hU, hV, .inr (.inl ⟨ho, hz, hx, by omega⟩)⟩
    · rcases h with ⟨_, _, _, hk⟩ | ⟨q, hz, hx, hk⟩
      · left; omega
      · right; exact ⟨hk, U, V, hv, hU, hV, .inr (.inr (.inl ⟨ho, hr, hz, hx⟩))⟩
    · rcases h with ⟨_, _, _, hk⟩ | ⟨q, hz, hx, hk⟩
      · left; omega
      · right; exact ⟨hk, U, V, hv, hU, hV, .inr (.inr (.inr ⟨ho, hr, hz, hx⟩))⟩
end Pr
end Go.Proofs.Ythepfejoneeaeaa
