/- The contract of the program's inverse of an order. -/
import Derived.Test.YtjpfbonnohodhaaGreatDoorOrd2
import Derived.Test.YtjpfbonnohodhaaGreatDoorStCrMath
namespace Go.Proofs.YtjpfbonnohodhaaGreatDoor
open Go.RowKit

theorem ord_at (l : List Int) (h : isOrd l) (k : Nat) (x : Int) (hx : l[k]? = some x) : 0 ≤ x ∧ x < l.length := h.2.1 x (List.mem_of_getElem? hx)
end Go.Proofs.YtjpfbonnohodhaaGreatDoor
