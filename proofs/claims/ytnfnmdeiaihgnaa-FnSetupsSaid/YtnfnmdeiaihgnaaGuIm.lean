/- Contracts of the tests of chapter 9: a piece, a list of pieces, a possible cut; the program's and the model's. -/
import Derived.Test.YtnfnmdeiaihgnaaGuMath
import Derived.Deep.RegionHeld3
import Derived.OwnWalk
namespace Go.Proofs.Ytnfnmdeiaihgnaa
open Go.RowKit
set_option linter.unusedVariables false

theorem below_new9 (w : World) (o : Obj) : Below w.heap.size w (w.alloc o) := (Below.refl _ _).alloc (Nat.le_refl _) _
def Gu.sd (x : Int) : Bool := decide (1 ≤ x ∧ x ≤ 20000)
theorem Gu.sdT {x : Int} (h1 : 1 ≤ x) (h2 : x ≤ 20000) : Gu.sd x = true := decide_eq_true ⟨h1, h2⟩
theorem Gu.sdF {x : Int} (h : x < 1 ∨ 20000 < x) : Gu.sd x = false := decide_eq_false (by omega)
theorem Gu.ok_cases (x : Pc) : (Gu.okP x = false ∧ Gu.sd x.w = false) ∨ (Gu.okP x = false ∧ Gu.sd x.w = true ∧ Gu.sd x.h = false) ∨ (Gu.okP x = true ∧ Gu.sd x.w = true ∧ Gu.sd x.h = true) := by
  unfold Gu.okP Gu.sd
  by_cases h1 : 1 ≤ x.w ∧ x.w ≤ 20000
  · by_cases h2 : 1 ≤ x.h ∧ x.h ≤ 20000
    · right; right
      simp [h1, h2]
    · right; left
      refine ⟨decide_eq_false (by omega), decide_eq_true h1, decide_eq_false h2⟩
  · left
    exact ⟨decide_eq_false (by omega), decide_eq_false h1⟩

theorem implSd_any (x : Int) (B : Bool) (w : World) (h : Gu.sd x = B) :
    Calls Try.prog 86 #[.int .i64 x] w fun e w' => e = .returned (.bool B) ∧ w = w' := by
  have H := Lib.hid h
  clear h
  by_cases h1 : 1 ≤ x
  · go_enter Try.func86, Try.ntmps86
    go_wp2
    go_ret
    exact ⟨ret_b (by rw [← H.out]; simp [Gu.sd, h1]), rfl⟩
  · have h1' : x < 1 := by omega
    go_enter Try.func86, Try.ntmps86
    go_wp2
    go_ret
    exact ⟨ret_b (by rw [← H.out]; exact (decide_eq_false (by omega)).symm), rfl⟩
theorem specSd_any (x : Int) (B : Bool) (w : World) (h : Gu.sd x = B) :
    Calls Try.prog 61 #[.int .i64 x, .int .i64 1, .int .i64 20000] w fun e w' => e = .returned (.bool B) ∧ w = w' := by
  cases B
  · exact l01In_no x 1 20000 w (by have := of_decide_eq_false h; omega)
  · exact l01In_yes x 1 20000 w (of_decide_eq_true h).1 (of_decide_eq_true h).2

set_option maxHeartbeats 1000000 in
theorem implPc_any (x : Pc) (B : Bool) (w : World) (h : Gu.okP x = B) :
    Calls Try.prog 52 #[x.agg] w fun e w' => e = .returned (.bool B) ∧ Below w.heap.size w w' := by
  have HB := Lib.hid (below_new9 w (.cells #[.int .i64 x.w, .int .i64 x.h] 25))
  subst h
  rcases Gu.ok_cases x with ⟨h0, h1⟩ | ⟨h0, h1, h2⟩ | ⟨h0, h1, h2⟩
  · have H1 := Lib.hid h1
    rw [h0]
    clear h0 h1
    go_enter Try.func52, Try.ntmps52
    go_wp2_with fail
    refine (implSd_any x.w false _ H1.out).mono ?_
    rintro e _ ⟨rfl, rfl⟩
    go_wp2_with fail
    go_ret
    exact ⟨rfl, HB.out⟩
  · have H1 := Lib.hid h1
    have H2 := Lib.hid h2
    rw [h0]
    clear h0 h1 h2
    go_enter Try.func52, Try.ntmps52
    go_wp2_with fail
    refine (implSd_any x.w true _ H1.out).mono ?_
    rintro e _ ⟨rfl, rfl⟩
    go_wp2_with fail
    refine (implSd_any x.h false _ H2.out).mono ?_
    rintro e _ ⟨rfl, rfl⟩
    go_wp2_with fail
    go_ret
    exact ⟨rfl, HB.out⟩
  · have H1 := Lib.hid h1
    have H2 := Lib.hid h2
    rw [h0]
    clear h0 h1 h2
    go_enter Try.func52, Try.ntmps52
    go_wp2_with fail
    refine (implSd_any x.w true _ H1.out).mono ?_
    rintro e _ ⟨rfl, rfl⟩
    go_wp2_with fail
    refine (implSd_any x.h true _ H2.out).mono ?_
    rintro e _ ⟨rfl, rfl⟩
    go_wp2_with fail
    go_ret
    exact ⟨rfl, HB.out⟩
set_option maxHeartbeats 1000000 in
theorem specPc_any (x : Pc) (B : Bool) (w : World) (h : Gu.okP x = B) :
    Calls Try.prog 95 #[x.agg] w fun e w' => e = .returned (.bool B) ∧ Below w.heap.size w w' := by
  have HB := Lib.hid (below_new9 w (.cells #[.int .i64 x.w, .int .i64 x.h] 25))
  subst h
  rcases Gu.ok_cases x with ⟨h0, h1⟩ | ⟨h0, h1, h2⟩ | ⟨h0, h1, h2⟩
  · have H1 := Lib.hid h1
    rw [h0]
    clear h0 h1
    go_enter Try.func95, Try.ntmps95
    go_wp2_with fail
    refine (specSd_any x.w false _ H1.out).mono ?_
    rintro e _ ⟨rfl, rfl⟩
    go_wp2_with fail
    go_ret
    exact ⟨rfl, HB.out⟩
  · have H1 := Lib.hid h1
    have H2 := Lib.hid h2
    rw [h0]
    clear h0 h1 h2
    go_enter Try.func95, Try.ntmps95
    go_wp2_with fail
    refine (specSd_any x.w true _ H1.out).mono ?_
    rintro e _ ⟨rfl, rfl⟩
    go_wp2_with fail
    refine (specSd_any x.h false _ H2.out).mono ?_
    rintro e _ ⟨rfl, rfl⟩
    go_wp2_with fail
    go_ret
    exact ⟨rfl, HB.out⟩
  · have H1 := Lib.hid h1
    have H2 := Lib.hid h2
    rw [h0]
    clear h0 h1 h2
    go_enter Try.func95, Try.ntmps95
    go_wp2_with fail
    refine (specSd_any x.w true _ H1.out).mono ?_
    rintro e _ ⟨rfl, rfl⟩
    go_wp2_with fail
    refine (specSd_any x.h true _ H2.out).mono ?_
    rintro e _ ⟨rfl, rfl⟩
    go_wp2_with fail
    go_ret
    exact ⟨rfl, HB.out⟩

/-- How far a list is right. -/
theorem Gu.okL_at {l : List Pc} {k : Nat} {x : Pc} (hx : l[k]? = some x) (h : Gu.okP x = false) : Gu.okL l = false := by
  unfold Gu.okL
  rw [Bool.and_eq_false_iff]
  right
  rw [List.all_eq_false]
  exact ⟨x, List.mem_of_getElem? hx, by simp [h]⟩
theorem Gu.okL_end {l : List Pc} {n : Nat} (hl : l.length = n) (h : ∀ j y, j < n → l[j]? = some y → Gu.okP y = true) : Gu.okL l = decide (n ≤ 80) := by
  unfold Gu.okL
  rw [hl]
  have : l.all Gu.okP = true := by
    rw [List.all_eq_true]
    intro x hx
    obtain ⟨j, hj⟩ := List.getElem?_of_mem hx
    exact h j x (by have := (List.getElem?_eq_some_iff.1 hj).1; omega) hj
  rw [this, Bool.and_true]

end Go.Proofs.Ytnfnmdeiaihgnaa
