/- Contracts of PlaceOf, the model's and the program's: both answer plR and plC. -/
import Derived.Test.YtjpfbonnohodhaaGreatDoorStFs
import Derived.Test.YtjpfbonnohodhaaGreatDoorStCell
namespace Go.Proofs.YtjpfbonnohodhaaGreatDoor
open Go.RowKit Go.Shelf
attribute [local go_sem] Oper.semAt_some

def plI (l : List UInt8) (cell : Int) : Option Nat := (St.stack l).findIdx? fun x => St.cellOf x == cell
def plR (l : List UInt8) (cell : Int) : Int := if St.foldsB l = true then (match plI l cell with | some i => (i : Int) | none => 0) else 0
def plC (l : List UInt8) (cell : Int) : Int := if St.foldsB l = true then (match plI l cell with | some _ => 0 | none => 2) else 1
theorem plI_some {l : List UInt8} {cell : Int} {k : Nat} {x : Int} (hx : (St.stack l)[k]? = some x) (hc : St.cellOf x = cell) (hno : ∀ y ∈ (St.stack l).take k, St.cellOf y ≠ cell) : plI l cell = some k := by
  unfold plI
  rw [List.findIdx?_eq_some_iff_getElem]
  obtain ⟨h, hg⟩ := List.getElem?_eq_some_iff.1 hx
  refine ⟨h, by rw [hg]; simpa using hc, fun j hj => ?_⟩
  have := hno ((St.stack l)[j]'(by omega)) (List.mem_of_getElem? (i := j) (by rw [List.getElem?_take, if_pos hj, List.getElem?_eq_getElem]))
  simpa using this
theorem plI_none {l : List UInt8} {cell : Int} (hno : ∀ y ∈ St.stack l, St.cellOf y ≠ cell) : plI l cell = none := by
  unfold plI
  rw [List.findIdx?_eq_none_iff]
  intro x hx
  simpa using hno x hx
theorem none_next {st : List Int} {cell : Int} {k : Nat} {x : Int} (hx : st[k]? = some x) (h : ∀ y ∈ st.take k, St.cellOf y ≠ cell) (hne : St.cellOf x ≠ cell) : ∀ y ∈ st.take (k + 1), St.cellOf y ≠ cell := by
  intro y hy
  rw [take_next st k x hx, List.mem_append, List.mem_singleton] at hy
  rcases hy with hy | rfl
  · exact h y hy
  · exact hne
theorem stack_sm {l : List UInt8} (hf : St.foldsB l = true) : inSm (St.stack l) := by
  intro x hx
  rw [← marks_map l hf, List.mem_map] at hx
  obtain ⟨p, _, rfl⟩ := hx
  have := mkB_small l p (St.folds_len hf)
  omega

end Go.Proofs.YtjpfbonnohodhaaGreatDoor
