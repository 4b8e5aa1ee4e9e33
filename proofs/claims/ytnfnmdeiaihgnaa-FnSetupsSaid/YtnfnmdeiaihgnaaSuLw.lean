/- Mathematics of the laws of chapter 13: the triangle inequality, a scheme is found from its set-up, the last folded size, the layers. -/
import Derived.Test.YtnfnmdeiaihgnaaSuEm
namespace Go.Proofs.Ytnfnmdeiaihgnaa
open Go.RowKit
set_option linter.unusedVariables false
namespace Su
theorem chR_comm (a b : List Un) : chR a b = chR b a := by
  unfold chR
  rw [Nat.max_comm, chT_comm]
theorem chT_nil (a : List Un) (k : Nat) (h : k ≤ a.length) : chT a [] k = k := by
  induction k with
  | zero => rfl
  | succ k ih =>
    have h1 : a[k]? ≠ ([] : List Un)[k]? := by
      rw [List.getElem?_eq_getElem (show k < a.length by omega)]
      simp
    rw [chT_diff h1, ih (by omega)]
    omega
theorem chR_nil (a : List Un) : chR a [] = a.length := by
  unfold chR
  rw [show max a.length ([] : List Un).length = a.length from by simp]
  exact chT_nil a _ (Nat.le_refl _)
theorem chR_le (a b : List Un) : chR a b ≤ chR a [] + chR [] b := by
  rw [chR_comm [] b, chR_nil, chR_nil]
  have := chT_bd a b (max a.length b.length)
  unfold chR
  omega
theorem suT_map (w h : Int) (c : Pc) (s : List UInt8) (hs : Fo.ok s = true) : ∀ k, k ≤ s.length → (suT w h c s k).map ltU = s.take k := by
  intro k
  induction k with
  | zero => intro _; rfl
  | succ k ih =>
    intro hk
    have hx : s[k]? = some s[k] := List.getElem?_eq_getElem (by omega)
    have hm : Fo.isX s[k] = true ∨ Fo.isY s[k] = true := by
      have := List.all_eq_true.1 hs s[k] (List.getElem_mem (by omega))
      simpa using this
    rw [suT_next hx, List.map_append, ih (by omega), List.take_add_one, hx]
    simp [ltU_unit hm]
theorem unit_ok {p : Pc} (hp : small p) (x : UInt8) : okG (unit p x) = true := by
  unfold small at hp
  unfold okG unit
  apply decide_eq_true
  show 0 ≤ (if Fo.isX x = true then p.w / 2 else p.h / 2) ∧ (if Fo.isX x = true then p.w / 2 else p.h / 2) ≤ 1000000000
  split <;> omega
theorem suT_ok {w h : Int} {c : Pc} (hw : 1 ≤ w ∧ w ≤ 8) (hh : 1 ≤ h ∧ h ≤ 8) (hc : Gu.okP c = true) (s : List UInt8) : ∀ k, ∀ u ∈ suT w h c s k, okG u = true
  | 0, u, hu => by cases hu
  | k + 1, u, hu => by
    have hu' : u ∈ suT w h c s k ++ [unit (sz w h c s k) (s.getD k 0)] := hu
    rcases List.mem_append.1 hu' with h1 | h1
    · exact suT_ok hw hh hc s k u h1
    · rw [List.mem_singleton] at h1
      subst h1
      exact unit_ok (sz_small hw hh hc s k) _
/-- The set-up of a scheme is one, and the scheme is found from it. -/
theorem su_back {w h : Int} {c : Pc} {s : List UInt8} (hc : code w h c s = 0) : okU (suR w h c s) = true ∧ (suR w h c s).map ltU = s ∧ (suR w h c s).length = s.length := by
  obtain ⟨h1, h2⟩ := code0 hc
  obtain ⟨hw, hh, h6, hok⟩ := scheme_facts h2
  have e : suR w h c s = suT w h c s s.length := by unfold suR; rw [if_pos hc]
  rw [e]
  refine ⟨?_, ?_, suT_len _ _ _ _ _⟩
  · unfold okU
    simp only [Bool.and_eq_true, decide_eq_true_eq, List.all_eq_true]
    exact ⟨by rw [suT_len]; exact h6, suT_ok hw hh h1 s _⟩
  · rw [suT_map w h c s hok _ (Nat.le_refl _), List.take_length]
theorem fold_last (c : Pc) : ∀ (l : List UInt8) (p : Pc), p.w = c.w * ((2 ^ Fo.nX l : Nat) : Int) → p.h = c.h * ((2 ^ Fo.nY l : Nat) : Int) → l.foldl stp p = c
  | [], p, hw, hh => by
    obtain ⟨a, b⟩ := p
    obtain ⟨a', b'⟩ := c
    simp [Fo.nX, Fo.nY] at hw hh
    show (⟨a, b⟩ : Pc) = ⟨a', b'⟩
    rw [hw, hh]
  | x :: l, p, hw, hh => by
    rw [List.foldl_cons]
    rw [Fo.nX_cons] at hw
    rw [Fo.nY_cons] at hh
    refine fold_last c l (stp p x) ?_ ?_
    · unfold stp
      by_cases hx : Fo.isX x = true
      · rw [if_pos hx]
        rw [if_pos hx, Nat.pow_succ, Int.natCast_mul, ← Int.mul_assoc] at hw
        show p.w / 2 = _
        rw [hw]
        exact Int.mul_ediv_cancel _ (by decide)
      · rw [if_neg hx]
        rw [if_neg hx] at hw
        exact hw
    · unfold stp
      by_cases hx : Fo.isX x = true
      · rw [if_pos hx]
        rw [if_pos hx] at hh
        exact hh
      · rw [if_neg hx]
        rw [if_neg hx, Nat.pow_succ, Int.natCast_mul, ← Int.mul_assoc] at hh
        show p.h / 2 = _
        rw [hh]
        exact Int.mul_ediv_cancel _ (by decide)
theorem scheme_pows {w h : Int} {s : List UInt8} (hs : Fo.scheme w h s = true) : w = ((2 ^ Fo.nX s : Nat) : Int) ∧ h = ((2 ^ Fo.nY s : Nat) : Int) := by
  unfold Fo.scheme Fo.sheet at hs
  simp only [Bool.and_eq_true, beq_iff_eq] at hs
  obtain ⟨⟨⟨⟨h1, h2⟩, h3⟩, h4⟩, h5⟩ := hs
  rw [h4, h5]
  exact ⟨(Fo.side_pow h1).1, (Fo.side_pow h2).1⟩
/-- After all folds the sheet is as great as a cell. -/
theorem sz_last {w h : Int} {c : Pc} {s : List UInt8} (hc : code w h c s = 0) : sz w h c s s.length = c := by
  obtain ⟨h1, h2⟩ := scheme_pows (code0 hc).2
  unfold sz
  rw [List.take_length]
  exact fold_last c s _ (by show w * c.w = _; rw [← h1, Int.mul_comm]) (by show h * c.h = _; rw [← h2, Int.mul_comm])
/-- All layers are all cells. -/
theorem layers {w h : Int} {c : Pc} {s : List UInt8} (hc : code w h c s = 0) : ((2 ^ s.length : Nat) : Int) = w * h := by
  obtain ⟨h1, h2⟩ := scheme_pows (code0 hc).2
  rw [h1, h2, ← Int.natCast_mul, ← Nat.pow_add, Fo.nX_add_nY]
end Su
end Go.Proofs.Ytnfnmdeiaihgnaa
