/- Contracts of FindFolds, the model's and the program's. -/
import Derived.Test.YtjpfbonnohodhaaGreatDoorStFf
namespace Go.Proofs.YtjpfbonnohodhaaGreatDoor
open Go.RowKit Go.Shelf

def ffR (l : List Int) : ByteArray := if isMk l = true then (match St.ans l with | some r => ⟨r.toArray⟩ | none => ⟨#[]⟩) else ⟨#[]⟩
def ffC (l : List Int) : Int := if isMk l = true then (match St.ans l with | some _ => 0 | none => 4) else 1

theorem and_small : ∀ z : Nat, z < 64 → bits .and .i64 (z : Int) 1 = ((z % 2 : Nat) : Int) := by decide +kernel
end Go.Proofs.YtjpfbonnohodhaaGreatDoor
