/- Contracts of CountFaces, the model's and the program's: both answer cfU, cfD and fsC. -/
import Derived.Test.YtjpfbonnohodhaaGreatDoorStFs
namespace Go.Proofs.YtjpfbonnohodhaaGreatDoor
open Go.RowKit Go.Shelf
attribute [local go_sem] Oper.semAt_some

def cntUp (l : List Int) : Nat := (l.filter fun x => decide (0 < x)).length
theorem cntUp_hit (l : List Int) {x : Int} (h : 0 < x) : cntUp (l ++ [x]) = cntUp l + 1 := by simp [cntUp, h]
theorem cntUp_miss (l : List Int) {x : Int} (h : ¬ 0 < x) : cntUp (l ++ [x]) = cntUp l := by simp [cntUp, h]
theorem cntUp_le (l : List Int) : cntUp l ≤ l.length := List.length_filter_le _ _
def cfU (l : List UInt8) : Int := if St.foldsB l = true then (cntUp (St.stack l) : Int) else 0
def cfD (l : List UInt8) : Int := if St.foldsB l = true then ((St.stack l).length : Int) - (cntUp (St.stack l) : Int) else 0

end Go.Proofs.YtjpfbonnohodhaaGreatDoor
