/- The mathematics of mirrored strips: mirrored folds are folds and leave the mirrored stack; a stack turned over twice is the stack. No program is named here. -/
import Derived.Test.YtjpfbonnohodhaaGreatDoorStTs
import Derived.Test.YtjpfbonnohodhaaGreatDoorStMi
import Derived.Test.YtjpfbonnohodhaaGreatDoorStCrMath
import Derived.Test.YtjpfbonnohodhaaGreatDoorStFs
namespace Go.Proofs.YtjpfbonnohodhaaGreatDoor
open Go.RowKit

theorem cell_opp (x : Int) : St.cellOf (-x) = St.cellOf x := by unfold St.cellOf; omega
theorem turn_cells (l : List Int) : (St.turn l).map St.cellOf = (l.map St.cellOf).reverse := by
  unfold St.turn
  rw [List.map_map, ← List.map_reverse]
  apply List.map_congr_left
  intro x _
  exact cell_opp x
theorem turn_turn (l : List Int) : St.turn (St.turn l) = l := by
  unfold St.turn
  rw [← List.map_reverse, List.reverse_reverse, List.map_map]
  conv => rhs; rw [← List.map_id l]
  apply List.map_congr_left
  intro x _
  show - -x = x
  omega
theorem turn_mk {l : List Int} (h : isMk l = true) : isMk (St.turn l) = true := by
  unfold isMk isOrdB at h ⊢
  rw [Bool.and_eq_true, decide_eq_true_eq, decide_eq_true_eq] at h ⊢
  rw [turn_cells]
  unfold isOrd at h ⊢
  rw [List.length_reverse]
  refine ⟨fun e => h.1 ?_, h.2.1, fun x hx => h.2.2.1 x (List.mem_reverse.1 hx), ?_⟩
  · have := congrArg St.turn e
    rw [turn_turn] at this
    exact this
  · exact List.pairwise_reverse.2 (h.2.2.2.imp fun h e => h e.symm)
/-- Turned over twice. -/
theorem ts_twice {l : List Int} (h : tsC l = 0) : tsC (tsR l) = 0 ∧ tsR (tsR l) = l := by
  unfold tsC at h
  by_cases hm : isMk l = true
  · have h1 : tsR l = St.turn l := by unfold tsR; rw [if_pos hm]
    rw [h1]
    have h2 := turn_mk hm
    unfold tsC tsR
    rw [if_pos h2, if_pos h2]
    exact ⟨rfl, turn_turn l⟩
  · rw [if_neg hm] at h
    cases h

/-- The mirror image of a mark. -/
def mirM (n : Int) (x : Int) : Int := if 0 < x then n - x else -n - x
set_option maxRecDepth 100000 in
theorem mirror_marks_all : ∀ l ∈ St.allFolds, St.marksOf (l.map swB) = (St.marksOf l).map (mirM (((2 ^ l.length : Nat) : Int) + 1)) ∧ St.foldsB (l.map swB) = true := by decide +kernel
theorem mirror_folds {l : List UInt8} (hf : St.foldsB l = true) : St.foldsB (l.map swB) = true := (mirror_marks_all l (St.folds_mem hf)).2
theorem mirror_stack {l : List UInt8} (hf : St.foldsB l = true) : St.stack (l.map swB) = (St.stack l).map (mirM (((St.stack l).length : Int) + 1)) := by
  have h := mirror_marks_all l (St.folds_mem hf)
  rw [← St.marks_stack_all _ (St.folds_mem h.2), ← St.marks_stack_all _ (St.folds_mem hf), h.1]
  congr 2
  simp [St.marksOf]
theorem mirror_at {P S : List Int} {n : Nat} (h : S = P.map (mirM ((P.length : Int) + 1))) (hn : P.length = n) : ∀ (k : Nat) (x y : Int), P[k]? = some x → S[k]? = some y → y = mirM ((n : Int) + 1) x := by
  intro k x y hx hy
  rw [h, List.getElem?_map, hx, hn] at hy
  exact (Option.some.inj hy).symm
/-- No mark is 0, and all are small. -/
theorem mark_bounds {l : List UInt8} (hf : St.foldsB l = true) : ∀ x ∈ St.stack l, x ≠ 0 ∧ -64 ≤ x ∧ x ≤ 64 := by
  intro x hx
  have h := (St.cr_facts hf).range x hx
  have h6 : 2 ^ l.length ≤ 64 := pow_le6 (St.folds_len hf)
  unfold St.cellOf at h
  omega
end Go.Proofs.YtjpfbonnohodhaaGreatDoor
