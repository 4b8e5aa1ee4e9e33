/- Contract of the model's l12Close: the bracket that closes one. -/
import Derived.Test.YtbhofhobnbhhhaaStr
import Derived.Test.YtbhofhobnbhhhaaBcIm
namespace Go.Proofs.Ytbhofhobnbhhhaa
open Go.RowKit
set_option linter.unusedVariables false
namespace Bc
/-- The depth behind a byte. -/
def dep (c : Nat) (d : Int) : Int := if c = 40 then d + 1 else if c = 41 then d - 1 else d
/-- The place of the first byte behind which the depth is 0, or -1. -/
def closeF : List UInt8 → Nat → Int → Int
  | [], _, _ => -1
  | c :: l, i, d => if dep c.toNat d = 0 then (i : Int) else closeF l (i + 1) (dep c.toNat d)
def close (l : List UInt8) (i : Nat) : Int := closeF (l.drop i) i 0
theorem closeF_at {l : List UInt8} {k : Nat} {c : UInt8} {d : Int} (hc : l[k]? = some c) : closeF (l.drop k) k d = if dep c.toNat d = 0 then (k : Int) else closeF (l.drop (k + 1)) (k + 1) (dep c.toNat d) := by
  have hlt := (List.getElem?_eq_some_iff.1 hc).1
  have hd : l.drop k = c :: l.drop (k + 1) := by
    rw [List.drop_eq_getElem_cons hlt]
    congr 1
    rw [List.getElem?_eq_getElem hlt] at hc
    injection hc
  rw [hd]
  rfl
theorem closeF_end {l : List UInt8} {k : Nat} {d : Int} (h : l.length ≤ k) : closeF (l.drop k) k d = -1 := by
  rw [List.drop_of_length_le h]
  rfl
end Bc

end Go.Proofs.Ytbhofhobnbhhhaa
