/- Contracts of the tests of chapter 9: a piece, a list of pieces, a possible cut; the program's and the model's. -/
import Derived.Test.YtbhofhobnbhhhaaDoorGuMath
import Derived.Deep.RegionHeld3
import Derived.OwnWalk
namespace Go.Proofs.YtbhofhobnbhhhaaDoor
open Go.RowKit
set_option linter.unusedVariables false

theorem below_new9 (w : World) (o : Obj) : Below w.heap.size w (w.alloc o) := (Below.refl _ _).alloc (Nat.le_refl _) _
def Gu.sd (x : Int) : Bool := decide (1 ≤ x ∧ x ≤ 20000)
theorem Gu.sdT {x : Int} (h1 : 1 ≤ x) (h2 : x ≤ 20000) : Gu.sd x = true := decide_eq_true ⟨h1, h2⟩
theorem Gu.sdF {x : Int} (h : x < 1 ∨ 20000 < x) : Gu.sd x = false := decide_eq_false (by omega)
theorem Gu.ok_cases (x : Pc) : (Gu.okP x = false ∧ Gu.sd x.w = false) ∨ (Gu.okP x = false ∧ Gu.sd x.w = true ∧ Gu.sd x.h = false) ∨ (Gu.okP x = true ∧ Gu.sd x.w = true ∧ Gu.sd x.h = true) := by
  unfold Gu.okP Gu.sd
  by_cases h1 : 1 ≤ x.w ∧ x.w ≤ 20000
  · by_cases h2 : 1 ≤ x.h ∧ x.h ≤ 20000
    · right; right
      simp [h1, h2]
    · right; left
      refine ⟨decide_eq_false (by omega), decide_eq_true h1, decide_eq_false h2⟩
  · left
    exact ⟨decide_eq_false (by omega), decide_eq_false h1⟩

theorem specSd_any (x : Int) (B : Bool) (w : World) (h : Gu.sd x = B) :
    Calls Tryd.prog 60 #[.int .i64 x, .int .i64 1, .int .i64 20000] w fun e w' => e = .returned (.bool B) ∧ w = w' := by
  cases B
  · exact l01In_no x 1 20000 w (by have := of_decide_eq_false h; omega)
  · exact l01In_yes x 1 20000 w (of_decide_eq_true h).1 (of_decide_eq_true h).2

/-- How far a list is right. -/
theorem Gu.okL_at {l : List Pc} {k : Nat} {x : Pc} (hx : l[k]? = some x) (h : Gu.okP x = false) : Gu.okL l = false := by
  unfold Gu.okL
  rw [Bool.and_eq_false_iff]
  right
  rw [List.all_eq_false]
  exact ⟨x, List.mem_of_getElem? hx, by simp [h]⟩
theorem Gu.okL_end {l : List Pc} {n : Nat} (hl : l.length = n) (h : ∀ j y, j < n → l[j]? = some y → Gu.okP y = true) : Gu.okL l = decide (n ≤ 80) := by
  unfold Gu.okL
  rw [hl]
  have : l.all Gu.okP = true := by
    rw [List.all_eq_true]
    intro x hx
    obtain ⟨j, hj⟩ := List.getElem?_of_mem hx
    exact h j x (by have := (List.getElem?_eq_some_iff.1 hj).1; omega) hj
  rw [this, Bool.and_true]

end Go.Proofs.YtbhofhobnbhhhaaDoor
