/- Mathematics of chapter 12: the best plan. -/
import Derived.Test.YtbhofhobnbhhhaaDoorBcPl
namespace Go.Proofs.YtbhofhobnbhhhaaDoor
open Go.RowKit
set_option linter.unusedVariables false
namespace Bc
/-- The kind has its place on the sheet, and the best value. -/
def hitK (ks : List Kd) (W H k : Nat) : Prop := ∃ x, ks[k]? = some x ∧ x.w ≤ (W : Int) ∧ x.h ≤ (H : Int) ∧ x.v = V ks W H
def hitX (ks : List Kd) (W H x : Nat) : Prop := V ks x H + V ks (W - x) H = V ks W H
def hitY (ks : List Kd) (W H y : Nat) : Prop := V ks W y + V ks W (H - y) = V ks W H
/-- Best plans. -/
inductive BP (ks : List Kd) : Nat → Nat → List UInt8 → Prop
  | dot (W H : Nat) (h0 : V ks W H = 0) : BP ks W H [46]
  | one (W H k : Nat) (h0 : V ks W H ≠ 0) (hk : hitK ks W H k) (hf : ∀ j, j < k → ¬ hitK ks W H j) : BP ks W H [ltr k]
  | ver (W H x : Nat) (a b : List UInt8) (h0 : V ks W H ≠ 0) (hn : ∀ j, ¬ hitK ks W H j) (h1 : 1 ≤ x) (h2 : x < W) (hx : hitX ks W H x) (hf : ∀ j, 1 ≤ j → j < x → ¬ hitX ks W H j) (ha : BP ks x H a) (hb : BP ks (W - x) H b) : BP ks W H (cutL 124 x a b)
  | hor (W H y : Nat) (a b : List UInt8) (h0 : V ks W H ≠ 0) (hn : ∀ j, ¬ hitK ks W H j) (hm : ∀ j, 1 ≤ j → j < W → ¬ hitX ks W H j) (h1 : 1 ≤ y) (h2 : y < H) (hy : hitY ks W H y) (hf : ∀ j, 1 ≤ j → j < y → ¬ hitY ks W H j) (ha : BP ks W y a) (hb : BP ks W (H - y) b) : BP ks W H (cutL 45 y a b)
theorem first_same {p : Nat → Prop} {i j : Nat} (hi : p i) (hj : p j) (fi : ∀ k, k < i → ¬ p k) (fj : ∀ k, k < j → ¬ p k) : i = j := by
  rcases Nat.lt_trichotomy i j with h | h | h
  · exact absurd hi (fj i h)
  · exact h
  · exact absurd hj (fi j h)
theorem first_same1 {p : Nat → Prop} {i j : Nat} (hi : p i) (hj : p j) (h1 : 1 ≤ i) (h2 : 1 ≤ j) (fi : ∀ k, 1 ≤ k → k < i → ¬ p k) (fj : ∀ k, 1 ≤ k → k < j → ¬ p k) : i = j := by
  rcases Nat.lt_trichotomy i j with h | h | h
  · exact absurd hi (fj i h1 h)
  · exact h
  · exact absurd hj (fi j h2 h)
theorem BP.same {ks : List Kd} {W H : Nat} {s : List UInt8} (h : BP ks W H s) : ∀ {t : List UInt8}, BP ks W H t → s = t := by
  induction h with
  | dot W H h0 =>
    intro t ht
    cases ht with
    | dot => rfl
    | one _ _ _ h1 => exact absurd h0 h1
    | ver _ _ _ _ _ h1 => exact absurd h0 h1
    | hor _ _ _ _ _ h1 => exact absurd h0 h1
  | one W H k h0 hk hf =>
    intro t ht
    cases ht with
    | dot _ _ h1 => exact absurd h1 h0
    | one _ _ k2 _ hk2 hf2 => rw [first_same hk hk2 hf hf2]
    | ver _ _ _ _ _ _ hn => exact absurd hk (hn k)
    | hor _ _ _ _ _ _ hn => exact absurd hk (hn k)
  | ver W H x a b h0 hn h1 h2 hx hf ha hb iha ihb =>
    intro t ht
    cases ht with
    | dot _ _ h3 => exact absurd h3 h0
    | one _ _ k2 _ hk2 => exact absurd hk2 (hn k2)
    | ver _ _ x2 a2 b2 _ _ g1 g2 gx gf ga gb =>
      obtain rfl := first_same1 hx gx h1 g1 hf gf
      rw [iha ga, ihb gb]
    | hor _ _ _ _ _ _ _ hm => exact absurd hx (hm x h1 h2)
  | hor W H y a b h0 hn hm h1 h2 hy hf ha hb iha ihb =>
    intro t ht
    cases ht with
    | dot _ _ h3 => exact absurd h3 h0
    | one _ _ k2 _ hk2 => exact absurd hk2 (hn k2)
    | ver _ _ x2 a2 b2 _ _ g1 g2 gx => exact absurd gx (hm x2 g1 g2)
    | hor _ _ y2 a2 b2 _ _ _ g1 g2 gy gf ga gb =>
      obtain rfl := first_same1 hy gy h1 g1 hf gf
      rw [iha ga, ihb gb]
theorem dec_two {x : Nat} (h : x < 100) : (Lib.decDigits x).length ≤ 2 := by
  have := dec_size 2 x h (by omega)
  exact this
/-- A best plan is not long. -/
theorem BP.len {ks : List Kd} {W H : Nat} {s : List UInt8} (h : BP ks W H s) : 1 ≤ W → 1 ≤ H → W ≤ 40 → H ≤ 40 → s.length + 7 ≤ 8 * (W * H) := by
  induction h with
  | dot W H h0 =>
    intro hW hH _ _
    have : 1 ≤ W * H := Nat.mul_le_mul hW hH
    simp only [List.length_cons, List.length_nil]
    omega
  | one W H k h0 hk hf =>
    intro hW hH _ _
    have : 1 ≤ W * H := Nat.mul_le_mul hW hH
    simp only [List.length_cons, List.length_nil]
    omega
  | ver W H x a b h0 hn h1 h2 hx hf ha hb iha ihb =>
    intro hW hH h3 h4
    have i1 := iha h1 hH (by omega) h4
    have i2 := ihb (by omega) hH (by omega) h4
    have h5 : x * H + (W - x) * H = W * H := by rw [← Nat.add_mul]; congr 1; omega
    have h6 := dec_two (x := x) (by omega)
    unfold cutL
    simp only [List.length_cons, List.length_append, List.length_nil]
    omega
  | hor W H x a b h0 hn hm h1 h2 hx hf ha hb iha ihb =>
    intro hW hH h3 h4
    have i1 := iha hW h1 h3 (by omega)
    have i2 := ihb hW (by omega) h3 (by omega)
    have h5 : W * x + W * (H - x) = W * H := by rw [← Nat.mul_add]; congr 1; omega
    have h6 := dec_two (x := x) (by omega)
    unfold cutL
    simp only [List.length_cons, List.length_append, List.length_nil]
    omega
theorem BP.small {ks : List Kd} {W H : Nat} {s : List UInt8} (h : BP ks W H s) (h1 : 1 ≤ W) (h2 : 1 ≤ H) (h3 : W ≤ 40) (h4 : H ≤ 40) : s.length ≤ 12800 := by
  have a := h.len h1 h2 h3 h4
  have b : W * H ≤ 40 * 40 := Nat.mul_le_mul h3 h4
  omega
/-- A best plan is a plan, worth the best value. -/
theorem BP.plan {ks : List Kd} (hl : ∀ k ∈ ks, okK k = true) {W H : Nat} {s : List UInt8} (h : BP ks W H s) : 1 ≤ W → 1 ≤ H → ∃ p, PL ks W H s p ∧ worth ks p = V ks W H := by
  induction h with
  | dot W H h0 => exact fun _ _ => ⟨[], PL.dot W H, h0.symm⟩
  | one W H k h0 hk hf =>
    intro _ _
    obtain ⟨x, hx, hw, hh, hv⟩ := hk
    refine ⟨[k], PL.one W H k x hx hw hh, ?_⟩
    unfold worth
    simp only [List.map_cons, List.map_nil, List.foldr_cons, List.foldr_nil]
    rw [getD_some hx]
    omega
  | ver W H x a b h0 hn h1 h2 hx hf ha hb iha ihb =>
    intro hW hH
    obtain ⟨p, hp, wp⟩ := iha h1 hH
    obtain ⟨q, hq, wq⟩ := ihb (by omega) hH
    refine ⟨p ++ q, PL.ver W H x a b p q h1 h2 hp hq, ?_⟩
    rw [worth_append, wp, wq]
    exact hx
  | hor W H x a b h0 hn hm h1 h2 hx hf ha hb iha ihb =>
    intro hW hH
    obtain ⟨p, hp, wp⟩ := iha hW h1
    obtain ⟨q, hq, wq⟩ := ihb hW (by omega)
    refine ⟨p ++ q, PL.hor W H x a b p q h1 h2 hp hq, ?_⟩
    rw [worth_append, wp, wq]
    exact hx
theorem fitT_hit {ks : List Kd} {W H : Int} : ∀ n, n ≤ ks.length → fitT ks W H n = 0 ∨ ∃ k x, k < n ∧ ks[k]? = some x ∧ x.w ≤ W ∧ x.h ≤ H ∧ x.v = fitT ks W H n
  | 0, _ => .inl rfl
  | n + 1, hn => by
    have hx : ks[n]? = some ks[n] := List.getElem?_eq_getElem (by omega)
    rw [fitT_next hx]
    rcases Int.le_total (fitT ks W H n) (fitV W H ks[n]) with h | h
    · by_cases hf : ks[n].w ≤ W ∧ ks[n].h ≤ H
      · have e : fitV W H ks[n] = ks[n].v := by unfold fitV; rw [if_pos hf]
        exact .inr ⟨n, ks[n], by omega, hx, hf.1, hf.2, by omega⟩
      · have e : fitV W H ks[n] = 0 := by unfold fitV; rw [if_neg hf]
        exact .inl (by omega)
    · rcases fitT_hit (ks := ks) (W := W) (H := H) n (by omega) with h1 | ⟨k, x, h1, h2, h3, h4, h5⟩
      · exact .inl (by omega)
      · exact .inr ⟨k, x, by omega, h2, h3, h4, by omega⟩
/-- A value other than 0 comes from a kind or from a cut. -/
theorem V_from {ks : List Kd} {W H : Nat} (h0 : V ks W H ≠ 0) : (∃ k, hitK ks W H k) ∨ (∃ x, 1 ≤ x ∧ x < W ∧ hitX ks W H x) ∨ ∃ y, 1 ≤ y ∧ y < H ∧ hitY ks W H y := by
  have hz : ¬ (W = 0 ∨ H = 0) := fun h => h0 (V_zero ks h)
  have he := V_eq ks hz
  rcases mxT_is (g := fun y => V ks W y + V ks W (H - y)) (s := VX ks W H (W - 1)) (n := H - 1) with h1 | ⟨y, h1, h2, h3⟩
  · have e1 : V ks W H = VX ks W H (W - 1) := he.trans h1
    rcases mxT_is (g := fun x => V ks x H + V ks (W - x) H) (s := fitT ks W H ks.length) (n := W - 1) with h2 | ⟨x, h2, h3, h4⟩
    · have e2 : V ks W H = fitT ks W H ks.length := e1.trans h2
      rcases fitT_hit (ks := ks) (W := W) (H := H) ks.length (Nat.le_refl _) with h3 | ⟨k, x, _, h3, h4, h5, h6⟩
      · exact absurd (e2.trans h3) h0
      · exact .inl ⟨k, x, h3, h4, h5, h6.trans e2.symm⟩
    · exact .inr (.inl ⟨x, h2, by omega, (e1.trans h4).symm⟩)
  · exact .inr (.inr ⟨y, h1, by omega, (he.trans h3).symm⟩)
end Bc
end Go.Proofs.YtbhofhobnbhhhaaDoor
