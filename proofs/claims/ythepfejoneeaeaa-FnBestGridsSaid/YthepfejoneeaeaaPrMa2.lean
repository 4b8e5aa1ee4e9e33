/- The mathematics of the better grid. No program is named here. -/
import Derived.Test.YthepfejoneeaeaaPrMath
namespace Go.Proofs.Ythepfejoneeaeaa
namespace Pr
/-- How many pages the upright and the turned grid have, as far as they are considered. -/
def bgU (a b g : Int) (r : Bool) (c d e f : Int) (o : Bool) : Int := if (o && !r) = true then 0 else up a b g c d e f
def bgV (a b g : Int) (r : Bool) (c d e f : Int) (o : Bool) : Int := if (o && r) = true then 0 else up a b g d c e f
/-- The better grid, and the code. -/
def bgP (a b g : Int) (r : Bool) (c d e f : Int) (o : Bool) (z : Bool) (x k : Int) : Prop :=
  (bothB a b g c d e f = false ∧ z = false ∧ x = 0 ∧ k = 1) ∨
  (bothB a b g c d e f = true ∧ bgU a b g r c d e f o = 0 ∧ bgV a b g r c d e f o = 0 ∧ z = false ∧ x = 0 ∧ k = 4) ∨
  (bothB a b g c d e f = true ∧ 0 < max (bgU a b g r c d e f o) (bgV a b g r c d e f o) ∧ z = decide (bgU a b g r c d e f o < bgV a b g r c d e f o) ∧ x = max (bgU a b g r c d e f o) (bgV a b g r c d e f o) ∧ k = 0)
theorem bg_bd {a b g : Int} {r : Bool} {c d e f : Int} {o : Bool} (h : bothB a b g c d e f = true) : (0 ≤ bgU a b g r c d e f o ∧ bgU a b g r c d e f o ≤ 400000000) ∧ 0 ≤ bgV a b g r c d e f o ∧ bgV a b g r c d e f o ≤ 400000000 := by
  obtain ⟨h1, h2⟩ := both_out h
  have u := up_bd h1 h2
  have v := up_bd (c := d) (d := c) h1 (by rw [tm_turn]; exact h2)
  unfold bgU bgV
  constructor <;> split <;> omega
theorem bg_ex (a b g : Int) (r : Bool) (c d e f : Int) (o : Bool) : ∃ z x k, bgP a b g r c d e f o z x k := by
  cases h : bothB a b g c d e f
  · exact ⟨false, 0, 1, .inl ⟨h, rfl, rfl, rfl⟩⟩
  · have hb := bg_bd (r := r) (o := o) h
    by_cases h0 : bgU a b g r c d e f o = 0 ∧ bgV a b g r c d e f o = 0
    · exact ⟨false, 0, 4, .inr (.inl ⟨h, h0.1, h0.2, rfl, rfl, rfl⟩)⟩
    · exact ⟨_, _, 0, .inr (.inr ⟨h, by omega, rfl, rfl, rfl⟩)⟩
/-- The ways that a walk can take: which grids are considered, and how they compare. U, V: the pages of both grids. -/
theorem bg_ways {a b g : Int} {r : Bool} {c d e f : Int} {o : Bool} {z : Bool} {x k : Int} (h : bgP a b g r c d e f o z x k) :
    (bothB a b g c d e f = false ∧ z = false ∧ x = 0 ∧ k = 1) ∨
    ∃ U V, (shB a b g = true ∧ tmB c d e f = true) ∧ (up a b g c d e f = U ∧ 0 ≤ U ∧ U ≤ 400000000) ∧ (up a b g d c e f = V ∧ 0 ≤ V ∧ V ≤ 400000000) ∧
      ((o = false ∧ ((U = 0 ∧ V = 0 ∧ z = false ∧ x = 0 ∧ k = 4) ∨ (U < V ∧ z = true ∧ x = V ∧ k = 0) ∨ (0 < U ∧ U = V ∧ z = false ∧ x = U ∧ k = 0) ∨ (V < U ∧ z = false ∧ x = U ∧ k = 0))) ∨
       (o = true ∧ r = true ∧ ((U = 0 ∧ z = false ∧ x = 0 ∧ k = 4) ∨ (0 < U ∧ z = false ∧ x = U ∧ k = 0))) ∨
       (o = true ∧ r = false ∧ ((V = 0 ∧ z = false ∧ x = 0 ∧ k = 4) ∨ (0 < V ∧ z = true ∧ x = V ∧ k = 0)))) := by
  rcases h with h | h
  · exact .inl h
  · right
    have hb : bothB a b g c d e f = true := by rcases h with h | h <;> exact h.1
    obtain ⟨h1, h2⟩ := both_out hb
    have u := up_bd h1 h2
    have v := up_bd (c := d) (d := c) h1 (by rw [tm_turn]; exact h2)
    refine ⟨_, _, ⟨h1, h2⟩, ⟨rfl, u⟩, ⟨rfl, v⟩, ?_⟩
    unfold bgU bgV at h
    generalize up a b g c d e f = U at *
    generalize up a b g d c e f = V at *
    cases o
    · left
      refine ⟨rfl, ?_⟩
      simp at h
      rcases h with ⟨_, h3, h4, h5, h6, h7⟩ | ⟨_, h3, h4, h5, h6⟩
      · exact .inl ⟨h3, h4, h5, h6, h7⟩
      · right
        rcases Int.lt_trichotomy U V with q | q | q
        · exact .inl ⟨q, by rw [h4]; exact decide_eq_true q, by omega, h6⟩
        · exact .inr (.inl ⟨by omega, q, by rw [h4]; exact decide_eq_false (by omega), by omega, h6⟩)
        · exact .inr (.inr ⟨q, by rw [h4]; exact decide_eq_false (by omega), by omega, h6⟩)
    · right
      cases r
      · right
        refine ⟨rfl, rfl, ?_⟩
        simp at h
        rcases h with ⟨_, h4, h5, h6, h7⟩ | ⟨_, h3, h4, h5, h6⟩
        · exact .inl ⟨h4, h5, h6, h7⟩
        · exact .inr ⟨by omega, by rw [h4]; exact decide_eq_true (by omega), by omega, h6⟩
      · left
        refine ⟨rfl, rfl, ?_⟩
        simp at h
        rcases h with ⟨_, h3, h5, h6, h7⟩ | ⟨_, h3, h4, h5, h6⟩
        · exact .inl ⟨h3, h5, h6, h7⟩
        · exact .inr ⟨by omega, by rw [h4]; exact decide_eq_false (by omega), by omega, h6⟩
end Pr
end Go.Proofs.Ythepfejoneeaeaa
