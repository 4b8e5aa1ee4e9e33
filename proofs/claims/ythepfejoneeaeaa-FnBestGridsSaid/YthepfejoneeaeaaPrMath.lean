/- The mathematics of press sheets: valid sheets and trims, how many pages a row has, the two grids, the better one, the waste, the least sheet. No program is named here. -/
import Derived.Test.YthepfejoneeaeaaOrd2
namespace Go.Proofs.Ythepfejoneeaeaa
namespace Pr
set_option linter.unusedVariables false
def sideP (x : Int) : Prop := 1 ≤ x ∧ x ≤ 20000
def margP (x : Int) : Prop := 0 ≤ x ∧ x ≤ 20000
instance (x : Int) : Decidable (sideP x) := by unfold sideP; infer_instance
instance (x : Int) : Decidable (margP x) := by unfold margP; infer_instance
/-- A valid press sheet, a valid trim. -/
def shP (a b g : Int) : Prop := (1 ≤ a ∧ a ≤ 20000) ∧ (1 ≤ b ∧ b ≤ 20000) ∧ 0 ≤ g ∧ g < b
def tmP (c d e f : Int) : Prop := (1 ≤ c ∧ c ≤ 20000) ∧ (1 ≤ d ∧ d ≤ 20000) ∧ (0 ≤ e ∧ e ≤ 20000) ∧ 0 ≤ f ∧ f ≤ 20000
instance (a b g : Int) : Decidable (shP a b g) := by unfold shP; infer_instance
instance (c d e f : Int) : Decidable (tmP c d e f) := by unfold tmP; infer_instance
def shB (a b g : Int) : Bool := decide (shP a b g)
def tmB (c d e f : Int) : Bool := decide (tmP c d e f)
def bothB (a b g c d e f : Int) : Bool := shB a b g && tmB c d e f
theorem sh_out {a b g : Int} (h : shB a b g = true) : shP a b g := of_decide_eq_true h
theorem tm_out {c d e f : Int} (h : tmB c d e f = true) : tmP c d e f := of_decide_eq_true h
theorem sh_cases {a b g : Int} (h : shB a b g = false) : (a < 1 ∨ 20000 < a) ∨ ((1 ≤ a ∧ a ≤ 20000) ∧ (b < 1 ∨ 20000 < b)) ∨ ((1 ≤ a ∧ a ≤ 20000) ∧ (1 ≤ b ∧ b ≤ 20000) ∧ (g < 0 ∨ b - 1 < g)) := by
  have h' := of_decide_eq_false h
  unfold shP at h'
  omega
theorem tm_cases {c d e f : Int} (h : tmB c d e f = false) : (c < 1 ∨ 20000 < c) ∨ ((1 ≤ c ∧ c ≤ 20000) ∧ (d < 1 ∨ 20000 < d)) ∨ ((1 ≤ c ∧ c ≤ 20000) ∧ (1 ≤ d ∧ d ≤ 20000) ∧ (e < 0 ∨ 20000 < e)) ∨
    ((1 ≤ c ∧ c ≤ 20000) ∧ (1 ≤ d ∧ d ≤ 20000) ∧ (0 ≤ e ∧ e ≤ 20000) ∧ (f < 0 ∨ 20000 < f)) := by
  have h' := of_decide_eq_false h
  unfold tmP at h'
  omega
theorem tm_turn (c d e f : Int) : tmB d c e f = tmB c d e f := by
  unfold tmB tmP
  exact decide_eq_decide.2 (by constructor <;> (rintro ⟨h1, h2, h3⟩; exact ⟨h2, h1, h3⟩))
theorem both_out {a b g c d e f : Int} (h : bothB a b g c d e f = true) : shB a b g = true ∧ tmB c d e f = true := by
  unfold bothB at h
  rwa [Bool.and_eq_true] at h
theorem both_no {a b g c d e f : Int} (h : bothB a b g c d e f = false) : shB a b g = false ∨ (shB a b g = true ∧ tmB c d e f = false) := by
  unfold bothB at h
  cases h1 : shB a b g
  · exact .inl rfl
  · rw [h1] at h
    exact .inr ⟨rfl, by simpa using h⟩

/-- How many pages of a side fit in a room, with a bleed and a gutter. -/
def ct (m s e f : Int) : Int := if m - 2 * e - s < 0 then 0 else 1 + (m - 2 * e - s) / (s + f)
theorem ct_no {m s e f : Int} (h : m - 2 * e - s < 0) : ct m s e f = 0 := if_pos h
theorem ct_yes {m s e f : Int} (h : ¬ m - 2 * e - s < 0) : ct m s e f = 1 + (m - 2 * e - s) / (s + f) := if_neg h
/-- The whole of it: n pages and their gutters fit, one more doesn't. -/
theorem ct_fits {m s e f : Int} (hs : 1 ≤ s) (hf : 0 ≤ f) (h : ¬ m - 2 * e - s < 0) : ∃ n k, ct m s e f = n ∧ n = 1 + k ∧ 0 ≤ k ∧ k * (s + f) ≤ m - 2 * e - s ∧ m - 2 * e - s < k * (s + f) + (s + f) ∧ k ≤ m - 2 * e - s := by
  refine ⟨_, (m - 2 * e - s) / (s + f), ct_yes h, rfl, Int.ediv_nonneg (by omega) (by omega), ?_, ?_, Int.ediv_le_self _ (by omega)⟩
  · exact Int.ediv_mul_le _ (by omega)
  · have := Int.lt_ediv_add_one_mul_self (m - 2 * e - s) (show 0 < s + f by omega)
    rw [Int.add_mul] at this
    omega
theorem ct_bd {m s e f : Int} (hs : 1 ≤ s) (he : 0 ≤ e) (hf : 0 ≤ f) (hm : m ≤ 20000) : 0 ≤ ct m s e f ∧ ct m s e f ≤ 20000 := by
  by_cases h : m - 2 * e - s < 0
  · rw [ct_no h]; omega
  · obtain ⟨n, k, hn, h1, h2, _, _, h5⟩ := ct_fits (e := e) hs hf h
    rw [hn]; omega
/-- What the program reckons: one quotient, and nothing below 0. -/
theorem ct_quot {m s e f : Int} (hs : 1 ≤ s) (hf : 0 ≤ f) : max 0 ((m - (2 * e - f)).tdiv (s + f)) = ct m s e f := by
  by_cases h : m - 2 * e - s < 0
  · rw [ct_no h]
    have : (m - (2 * e - f)).tdiv (s + f) ≤ 0 := by
      by_cases h0 : 0 ≤ m - (2 * e - f)
      · rw [Int.tdiv_eq_ediv_of_nonneg h0, Int.ediv_eq_zero_of_lt h0 (by omega)]
        omega
      · have h1 : m - (2 * e - f) = -(-(m - (2 * e - f))) := by omega
        rw [h1, Int.neg_tdiv, Int.tdiv_eq_ediv_of_nonneg (by omega)]
        have := Int.ediv_nonneg (a := -(m - (2 * e - f))) (b := s + f) (by omega) (by omega)
        omega
    omega
  · rw [ct_yes h, Int.tdiv_eq_ediv_of_nonneg (by omega)]
    have h1 : m - (2 * e - f) = (m - 2 * e - s) + 1 * (s + f) := by omega
    rw [h1, Int.add_mul_ediv_right _ _ (by omega)]
    have := Int.ediv_nonneg (a := m - 2 * e - s) (b := s + f) (by omega) (by omega)
    omega
theorem quot_bd {x q : Int} (hq : 1 ≤ q) (h0 : -100000 ≤ x) (h1 : x ≤ 100000) : -100000 ≤ x.tdiv q ∧ x.tdiv q ≤ 100000 := by
  by_cases h : 0 ≤ x
  · rw [Int.tdiv_eq_ediv_of_nonneg h]
    have a1 := Int.ediv_nonneg (a := x) (b := q) h (by omega)
    have a2 := Int.ediv_le_self q h
    omega
  · have e : x = -(-x) := by omega
    rw [e, Int.neg_tdiv, Int.tdiv_eq_ediv_of_nonneg (by omega)]
    have a1 := Int.ediv_nonneg (a := -x) (b := q) (by omega) (by omega)
    have a2 := Int.ediv_le_self (a := -x) q (by omega)
    omega
/-- What a row of pages needs. -/
def need (n s e f : Int) : Int := n * s + (n - 1) * f + 2 * e
theorem need_fits {m s e f : Int} (hs : 1 ≤ s) (hf : 0 ≤ f) (h : 1 ≤ ct m s e f) : need (ct m s e f) s e f ≤ m ∧ m < need (ct m s e f + 1) s e f := by
  have h0 : ¬ m - 2 * e - s < 0 := fun hc => by rw [ct_no hc] at h; omega
  obtain ⟨n, k, hn, rfl, _, h1, h2, _⟩ := ct_fits (e := e) hs hf h0
  rw [hn]
  unfold need
  rw [Int.mul_add] at h1 h2
  have e1 : (1 + k) * s = s + k * s := by rw [Int.add_mul]; omega
  have e2 : (1 + k - 1) * f = k * f := by rw [show 1 + k - 1 = k by omega]
  have e3 : (1 + k + 1) * s = s + k * s + s := by rw [Int.add_mul, e1]; omega
  have e4 : (1 + k + 1 - 1) * f = f + k * f := by rw [show 1 + k + 1 - 1 = 1 + k by omega, Int.add_mul]; omega
  rw [e1, e2, e3, e4]
  omega
/-- The count of pages is the one number that is needed exactly. -/
theorem ct_need {m n s e f : Int} (hs : 1 ≤ s) (hf : 0 ≤ f) (hn : 1 ≤ n) (h1 : need n s e f ≤ m) (h2 : m < need (n + 1) s e f) : ct m s e f = n := by
  have e1 : n * s + (n - 1) * f = (n - 1) * (s + f) + s := by
    rw [Int.mul_add, show n * s = (n - 1) * s + s by rw [Int.sub_mul]; omega]; omega
  have e2 : (n + 1) * s + (n + 1 - 1) * f = (n - 1) * (s + f) + (s + f) + s := by
    rw [show n + 1 - 1 = n by omega, Int.mul_add, show (n + 1) * s = (n - 1) * s + s + s by rw [Int.sub_mul, Int.add_mul]; omega, show n * f = (n - 1) * f + f by rw [Int.sub_mul]; omega]; omega
  unfold need at h1 h2
  rw [e1] at h1
  rw [e2] at h2
  have h0 : 0 ≤ (n - 1) * (s + f) := Int.mul_nonneg (by omega) (by omega)
  rw [ct_yes (by omega)]
  have : (m - 2 * e - s) / (s + f) = n - 1 := by
    have hp : 0 < s + f := by omega
    have a1 : n - 1 ≤ (m - 2 * e - s) / (s + f) := (Int.le_ediv_iff_mul_le hp).2 (by omega)
    have a2 : (m - 2 * e - s) / (s + f) < n - 1 + 1 := (Int.ediv_lt_iff_lt_mul hp).2 (by rw [Int.add_mul]; omega)
    omega
  omega
/-- The last page of a row and what stands around it lie on the sheet. -/
theorem corner_fits {m s e f i : Int} (hs : 1 ≤ s) (he : 0 ≤ e) (hf : 0 ≤ f) (hm : m ≤ 20000) (h0 : 0 ≤ i) (h1 : i < ct m s e f) : 0 ≤ i * (s + f) ∧ i * (s + f) + 2 * e + s ≤ m := by
  have hc : ¬ m - 2 * e - s < 0 := fun hc => by rw [ct_no hc] at h1; omega
  obtain ⟨n, k, hn, rfl, _, h2, _, _⟩ := ct_fits (e := e) hs hf hc
  rw [hn] at h1
  have h3 : i * (s + f) ≤ k * (s + f) := Int.mul_le_mul_of_nonneg_right (by omega) (by omega)
  exact ⟨Int.mul_nonneg h0 (by omega), by omega⟩

/-- The two counts of the upright grid. -/
def gd (a b g c d e f : Int) : Bool := bothB a b g c d e f && !(ct a c e f == 0 || ct (b - g) d e f == 0)
def gdR (a b g c d e f : Int) : Int := if gd a b g c d e f = true then ct a c e f else 0
def gdS (a b g c d e f : Int) : Int := if gd a b g c d e f = true then ct (b - g) d e f else 0
def gdC (a b g c d e f : Int) : Int := if gd a b g c d e f = true then 0 else if bothB a b g c d e f = true then 4 else 1
/-- What the program's grid counts: both or none. -/
def cnR (a b g c d e f : Int) : Int := if ct a c e f = 0 ∨ ct (b - g) d e f = 0 then 0 else ct a c e f
def cnS (a b g c d e f : Int) : Int := if ct a c e f = 0 ∨ ct (b - g) d e f = 0 then 0 else ct (b - g) d e f
def up (a b g c d e f : Int) : Int := ct a c e f * ct (b - g) d e f
theorem cn_mul (a b g c d e f : Int) : cnR a b g c d e f * cnS a b g c d e f = up a b g c d e f := by
  unfold cnR cnS up
  by_cases h : ct a c e f = 0 ∨ ct (b - g) d e f = 0
  · rw [if_pos h, if_pos h]
    rcases h with h | h <;> rw [h] <;> simp
  · rw [if_neg h, if_neg h]
theorem up_bd {a b g c d e f : Int} (hp : shB a b g = true) (ht : tmB c d e f = true) : 0 ≤ up a b g c d e f ∧ up a b g c d e f ≤ 400000000 := by
  obtain ⟨⟨a1, a2⟩, ⟨b1, b2⟩, g1, g2⟩ := sh_out hp
  obtain ⟨⟨c1, c2⟩, ⟨d1, d2⟩, ⟨e1, e2⟩, f1, f2⟩ := tm_out ht
  have h1 := ct_bd (m := a) (s := c) (e := e) (f := f) c1 e1 f1 a2
  have h2 := ct_bd (m := b - g) (s := d) (e := e) (f := f) d1 e1 f1 (by omega)
  unfold up
  exact ⟨Int.mul_nonneg h1.1 h2.1, Int.le_trans (Int.mul_le_mul h1.2 h2.2 h2.1 (by omega)) (by omega)⟩
theorem cn_bd {a b g c d e f : Int} (hp : shB a b g = true) (ht : tmB c d e f = true) : (0 ≤ cnR a b g c d e f ∧ cnR a b g c d e f ≤ 20000) ∧ 0 ≤ cnS a b g c d e f ∧ cnS a b g c d e f ≤ 20000 := by
  obtain ⟨⟨a1, a2⟩, ⟨b1, b2⟩, g1, g2⟩ := sh_out hp
  obtain ⟨⟨c1, c2⟩, ⟨d1, d2⟩, ⟨e1, e2⟩, f1, f2⟩ := tm_out ht
  have h1 := ct_bd (m := a) (s := c) (e := e) (f := f) c1 e1 f1 a2
  have h2 := ct_bd (m := b - g) (s := d) (e := e) (f := f) d1 e1 f1 (by omega)
  unfold cnR cnS
  constructor <;> split <;> omega
theorem cn_zero {a b g c d e f : Int} : cnR a b g c d e f = 0 ↔ (ct a c e f = 0 ∨ ct (b - g) d e f = 0) := by
  unfold cnR
  by_cases h : ct a c e f = 0 ∨ ct (b - g) d e f = 0
  · rw [if_pos h]; simp [h]
  · rw [if_neg h]
    constructor
    · intro hh; exact .inl hh
    · intro hh; exact absurd hh h
theorem gd_cases (a b g c d e f : Int) : (gd a b g c d e f = true ∧ shB a b g = true ∧ tmB c d e f = true ∧ ¬ ct a c e f = 0 ∧ ¬ ct (b - g) d e f = 0 ∧ gdR a b g c d e f = ct a c e f ∧ gdS a b g c d e f = ct (b - g) d e f ∧ gdC a b g c d e f = 0 ∧ cnR a b g c d e f = ct a c e f ∧ cnS a b g c d e f = ct (b - g) d e f) ∨
    (gd a b g c d e f = false ∧ shB a b g = true ∧ tmB c d e f = true ∧ (ct a c e f = 0 ∨ ct (b - g) d e f = 0) ∧ gdR a b g c d e f = 0 ∧ gdS a b g c d e f = 0 ∧ gdC a b g c d e f = 4 ∧ cnR a b g c d e f = 0 ∧ cnS a b g c d e f = 0) ∨
    (gd a b g c d e f = false ∧ bothB a b g c d e f = false ∧ gdR a b g c d e f = 0 ∧ gdS a b g c d e f = 0 ∧ gdC a b g c d e f = 1) := by
  cases hb : bothB a b g c d e f
  · right; right
    have h : gd a b g c d e f = false := by unfold gd; rw [hb]; rfl
    refine ⟨h, rfl, ?_, ?_, ?_⟩
    · unfold gdR; rw [h]; rfl
    · unfold gdS; rw [h]; rfl
    · unfold gdC; rw [h, hb]; rfl
  · obtain ⟨h1, h2⟩ := both_out hb
    by_cases hz : ct a c e f = 0 ∨ ct (b - g) d e f = 0
    · right; left
      have h : gd a b g c d e f = false := by
        unfold gd
        rw [hb]
        rcases hz with hz | hz <;> rw [hz] <;> simp
      refine ⟨h, h1, h2, hz, ?_, ?_, ?_, if_pos hz, if_pos hz⟩
      · unfold gdR; rw [h]; rfl
      · unfold gdS; rw [h]; rfl
      · unfold gdC; rw [h, hb]; rfl
    · left
      have hn : ¬ ct a c e f = 0 ∧ ¬ ct (b - g) d e f = 0 := by omega
      have h : gd a b g c d e f = true := by
        unfold gd
        rw [hb]
        simp [hn.1, hn.2]
      refine ⟨h, h1, h2, hn.1, hn.2, ?_, ?_, ?_, if_neg hz, if_neg hz⟩
      · unfold gdR; rw [h]; rfl
      · unfold gdS; rw [h]; rfl
      · unfold gdC; rw [h]; rfl
theorem gd_both {a b g c d e f : Int} (h : bothB a b g c d e f = true) : gdC a b g c d e f = 0 ∨ gdC a b g c d e f = 4 := by
  rcases gd_cases a b g c d e f with ⟨_, _, _, _, _, _, _, hc, _⟩ | ⟨_, _, _, _, _, _, hc, _⟩ | ⟨_, hb, _⟩
  · exact .inl hc
  · exact .inr hc
  · rw [hb] at h; cases h
/-- The corner of a page. -/
def crB (a b g c d e f i j : Int) : Bool := bothB a b g c d e f && decide (0 ≤ i ∧ i < gdR a b g c d e f ∧ 0 ≤ j ∧ j < gdS a b g c d e f)
def crX (a b g c d e f i j : Int) : Int := if crB a b g c d e f i j = true then e + i * (c + f) else 0
def crY (a b g c d e f i j : Int) : Int := if crB a b g c d e f i j = true then e + j * (d + f) else 0
def crC (a b g c d e f i j : Int) : Int := if crB a b g c d e f i j = true then 0 else if bothB a b g c d e f = true then 2 else 1
theorem cr_cases (a b g c d e f i j : Int) :
    (∃ X Y u v, crB a b g c d e f i j = true ∧ (gd a b g c d e f = true ∧ shB a b g = true ∧ tmB c d e f = true) ∧ (ct a c e f = X ∧ ct (b - g) d e f = Y) ∧ (gdR a b g c d e f = X ∧ gdS a b g c d e f = Y ∧ gdC a b g c d e f = 0) ∧ (¬ X = 0 ∧ ¬ Y = 0) ∧ (0 ≤ i ∧ i < X ∧ X ≤ 20000) ∧ (0 ≤ j ∧ j < Y ∧ Y ≤ 20000) ∧
      (i * (c + f) = u ∧ 0 ≤ u ∧ u + 2 * e + c ≤ a) ∧ (j * (d + f) = v ∧ 0 ≤ v ∧ v + 2 * e + d ≤ b - g) ∧ crX a b g c d e f i j = e + u ∧ crY a b g c d e f i j = e + v ∧ crC a b g c d e f i j = 0) ∨
    (crB a b g c d e f i j = false ∧ (shB a b g = true ∧ tmB c d e f = true) ∧ (i < 0 ∨ gdR a b g c d e f ≤ i ∨ j < 0 ∨ gdS a b g c d e f ≤ j) ∧ crX a b g c d e f i j = 0 ∧ crY a b g c d e f i j = 0 ∧ crC a b g c d e f i j = 2) ∨
    (crB a b g c d e f i j = false ∧ bothB a b g c d e f = false ∧ crX a b g c d e f i j = 0 ∧ crY a b g c d e f i j = 0 ∧ crC a b g c d e f i j = 1) := by
  cases hb : bothB a b g c d e f
  · right; right
    have h : crB a b g c d e f i j = false := by unfold crB; rw [hb]; rfl
    refine ⟨h, rfl, ?_, ?_, ?_⟩
    · unfold crX; rw [h]; rfl
    · unfold crY; rw [h]; rfl
    · unfold crC; rw [h, hb]; rfl
  · obtain ⟨h1, h2⟩ := both_out hb
    by_cases hin : 0 ≤ i ∧ i < gdR a b g c d e f ∧ 0 ≤ j ∧ j < gdS a b g c d e f
    · left
      have h : crB a b g c d e f i j = true := by unfold crB; rw [hb, decide_eq_true hin]; rfl
      rcases gd_cases a b g c d e f with ⟨k0, _, _, k1, k2, k3, k4, k5, _⟩ | ⟨_, _, _, _, k3, _⟩ | ⟨_, k, _⟩
      · obtain ⟨⟨a1, a2⟩, ⟨b1, b2⟩, g1, g2⟩ := sh_out h1
        obtain ⟨⟨c1, c2⟩, ⟨d1, d2⟩, ⟨e1, e2⟩, f1, f2⟩ := tm_out h2
        have q1 := ct_bd (m := a) (s := c) (e := e) (f := f) c1 e1 f1 a2
        have q2 := ct_bd (m := b - g) (s := d) (e := e) (f := f) d1 e1 f1 (by omega)
        rw [k3, k4] at hin
        have p1 := corner_fits (m := a) (s := c) (e := e) (f := f) (i := i) c1 e1 f1 a2 hin.1 hin.2.1
        have p2 := corner_fits (m := b - g) (s := d) (e := e) (f := f) (i := j) d1 e1 f1 (by omega) hin.2.2.1 hin.2.2.2
        exact ⟨_, _, _, _, h, ⟨k0, h1, h2⟩, ⟨rfl, rfl⟩, ⟨k3, k4, k5⟩, ⟨k1, k2⟩, ⟨hin.1, hin.2.1, q1.2⟩, ⟨hin.2.2.1, hin.2.2.2, q2.2⟩, ⟨rfl, p1⟩, ⟨rfl, p2⟩, if_pos h, if_pos h, if_pos h⟩
      · rw [k3] at hin; omega
      · rw [hb] at k; cases k
    · right; left
      have h : crB a b g c d e f i j = false := by unfold crB; rw [hb, decide_eq_false hin]; rfl
      refine ⟨h, ⟨h1, h2⟩, by omega, ?_, ?_, ?_⟩
      · unfold crX; rw [h]; rfl
      · unfold crY; rw [h]; rfl
      · unfold crC; rw [h, hb]; rfl
/-- The area that is wasted. -/
def wsR (a b g c d e f : Int) : Int := if gd a b g c d e f = true then a * b - ct a c e f * ct (b - g) d e f * c * d else 0
theorem ws_bd {a b g c d e f X Y : Int} (hp : shB a b g = true) (ht : tmB c d e f = true) (hX : ct a c e f = X) (hY : ct (b - g) d e f = Y) (h1 : ¬ X = 0) (h2 : ¬ Y = 0) :
    ∃ p q r s, X * Y = p ∧ p * c = q ∧ q * d = r ∧ a * b = s ∧ (0 ≤ p ∧ p ≤ 400000000) ∧ (0 ≤ q ∧ q ≤ 400000000) ∧ (0 ≤ r ∧ r ≤ s) ∧ 1 ≤ s ∧ s ≤ 400000000 := by
  obtain ⟨⟨a1, a2⟩, ⟨b1, b2⟩, g1, g2⟩ := sh_out hp
  obtain ⟨⟨c1, c2⟩, ⟨d1, d2⟩, ⟨e1, e2⟩, f1, f2⟩ := tm_out ht
  have q1 := ct_bd (m := a) (s := c) (e := e) (f := f) c1 e1 f1 a2
  have q2 := ct_bd (m := b - g) (s := d) (e := e) (f := f) d1 e1 f1 (by omega)
  have n1 := need_fits (m := a) (s := c) (e := e) (f := f) c1 f1 (by omega)
  have n2 := need_fits (m := b - g) (s := d) (e := e) (f := f) d1 f1 (by omega)
  rw [hX] at q1 n1
  rw [hY] at q2 n2
  unfold need at n1 n2
  have x1 := Int.mul_nonneg (show 0 ≤ X - 1 by omega) f1
  have y1 := Int.mul_nonneg (show 0 ≤ Y - 1 by omega) f1
  have x2 : X * c ≤ a := by omega
  have y2 : Y * d ≤ b - g := by omega
  have x3 : 0 ≤ X * c := Int.mul_nonneg q1.1 (by omega)
  have y3 : 0 ≤ Y * d := Int.mul_nonneg q2.1 (by omega)
  have p0 : 0 ≤ X * Y := Int.mul_nonneg q1.1 q2.1
  have p1 : X * Y ≤ 20000 * 20000 := Int.mul_le_mul q1.2 q2.2 q2.1 (by omega)
  have eq1 : X * Y * c = X * c * Y := by rw [Int.mul_assoc, Int.mul_comm Y c, ← Int.mul_assoc]
  have eq2 : X * Y * c * d = X * c * (Y * d) := by rw [eq1, Int.mul_assoc]
  have r1 : X * c * Y ≤ 20000 * 20000 := Int.mul_le_mul (by omega) q2.2 q2.1 (by omega)
  have r2 : X * c * (Y * d) ≤ a * b := Int.mul_le_mul x2 (by omega) y3 (by omega)
  have s1 : a * b ≤ 20000 * 20000 := Int.mul_le_mul a2 b2 (by omega) (by omega)
  have s2 : 1 * 1 ≤ a * b := Int.mul_le_mul a1 b1 (by omega) (by omega)
  refine ⟨_, _, _, _, rfl, rfl, rfl, rfl, ⟨p0, by omega⟩, ⟨by rw [eq1]; exact Int.mul_nonneg x3 q2.1, by rw [eq1]; omega⟩, ⟨by rw [eq2]; exact Int.mul_nonneg x3 y3, by rw [eq2]; exact r2⟩, by omega, by omega⟩
/-- A trim turned, and its code. -/
def ttP (c d e f p q s u k : Int) : Prop := (tmB c d e f = true ∧ p = d ∧ q = c ∧ s = e ∧ u = f ∧ k = 0) ∨ (tmB c d e f = false ∧ p = 0 ∧ q = 0 ∧ s = 0 ∧ u = 0 ∧ k = 1)
theorem tt_ex (c d e f : Int) : ∃ p q s u k, ttP c d e f p q s u k := by
  cases h : tmB c d e f
  · exact ⟨0, 0, 0, 0, 1, .inr ⟨h, rfl, rfl, rfl, rfl, rfl⟩⟩
  · exact ⟨d, c, e, f, 0, .inl ⟨h, rfl, rfl, rfl, rfl, rfl⟩⟩
/-- The least sheet, and its code. -/
def lsP (c d e f n m t p q s : Int) (z : Bool) (k : Int) : Prop :=
  (tmB c d e f = false ∧ p = 0 ∧ q = 0 ∧ s = 0 ∧ z = false ∧ k = 1) ∨
  (tmB c d e f = true ∧ ((n < 1 ∨ 20000 < n) ∨ (m < 1 ∨ 20000 < m) ∨ (t < 0 ∨ 20000 < t)) ∧ p = 0 ∧ q = 0 ∧ s = 0 ∧ z = false ∧ k = 2) ∨
  (tmB c d e f = true ∧ ((1 ≤ n ∧ n ≤ 20000) ∧ (1 ≤ m ∧ m ≤ 20000) ∧ (0 ≤ t ∧ t ≤ 20000)) ∧ shB (need n c e f) (need m d e f + t) t = false ∧ p = 0 ∧ q = 0 ∧ s = 0 ∧ z = false ∧ k = 3) ∨
  (tmB c d e f = true ∧ ((1 ≤ n ∧ n ≤ 20000) ∧ (1 ≤ m ∧ m ≤ 20000) ∧ (0 ≤ t ∧ t ≤ 20000)) ∧ shB (need n c e f) (need m d e f + t) t = true ∧ p = need n c e f ∧ q = need m d e f + t ∧ s = t ∧ z = true ∧ k = 0)
theorem ls_ex (c d e f n m t : Int) : ∃ p q s z k, lsP c d e f n m t p q s z k := by
  cases h : tmB c d e f
  · exact ⟨0, 0, 0, false, 1, .inl ⟨h, rfl, rfl, rfl, rfl, rfl⟩⟩
  · by_cases hr : (1 ≤ n ∧ n ≤ 20000) ∧ (1 ≤ m ∧ m ≤ 20000) ∧ (0 ≤ t ∧ t ≤ 20000)
    · cases h2 : shB (need n c e f) (need m d e f + t) t
      · exact ⟨0, 0, 0, false, 3, .inr (.inr (.inl ⟨h, hr, h2, rfl, rfl, rfl, rfl, rfl⟩))⟩
      · exact ⟨_, _, _, true, 0, .inr (.inr (.inr ⟨h, hr, h2, rfl, rfl, rfl, rfl, rfl⟩))⟩
    · exact ⟨0, 0, 0, false, 2, .inr (.inl ⟨h, by omega, rfl, rfl, rfl, rfl, rfl⟩)⟩
theorem need_parts {n s e f : Int} (hn : 1 ≤ n ∧ n ≤ 20000) (hs : 1 ≤ s ∧ s ≤ 20000) (he : 0 ≤ e ∧ e ≤ 20000) (hf : 0 ≤ f ∧ f ≤ 20000) :
    ∃ x y z, n * s = x ∧ (n - 1) * f = y ∧ n * (s + f) = z ∧ need n s e f = x + y + 2 * e ∧ e + z - f + e = need n s e f ∧ (0 ≤ x ∧ x ≤ 400000000) ∧ (0 ≤ y ∧ y ≤ 400000000) ∧ 0 ≤ z ∧ z ≤ 800000000 := by
  have x0 := Int.mul_nonneg (show 0 ≤ n by omega) (show 0 ≤ s by omega)
  have x1 : n * s ≤ 20000 * 20000 := Int.mul_le_mul hn.2 hs.2 (by omega) (by omega)
  have y0 := Int.mul_nonneg (show 0 ≤ n - 1 by omega) hf.1
  have y1 : (n - 1) * f ≤ 20000 * 20000 := Int.mul_le_mul (by omega) hf.2 hf.1 (by omega)
  have z0 : n * (s + f) = n * s + ((n - 1) * f + f) := by rw [Int.mul_add, Int.sub_mul]; omega
  have z1 : n * (s + f) ≤ 20000 * 40000 := Int.mul_le_mul hn.2 (by omega) (by omega) (by omega)
  refine ⟨_, _, _, rfl, rfl, rfl, rfl, ?_, ⟨x0, by omega⟩, ⟨y0, by omega⟩, by omega, by omega⟩
  unfold need
  omega
end Pr
end Go.Proofs.Ythepfejoneeaeaa
