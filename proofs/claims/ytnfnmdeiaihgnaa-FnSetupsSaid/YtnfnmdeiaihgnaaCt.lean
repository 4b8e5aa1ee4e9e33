/- Rows of cuts in memory: 3 cells each. -/
import Derived.Test.YtnfnmdeiaihgnaaIn
import Derived.Test.YtnfnmdeiaihgnaaRow
import Derived.Deep.Slices
import Derived.Deep.Fields
import Derived.OpenShut
namespace Go.Proofs.Ytnfnmdeiaihgnaa
open Go.RowKit Go.Deep Go.ChangeShapes Go.WideShapes
set_option linter.unusedVariables false

structure Ct where
  i : Int
  a : Bool
  t : Int
deriving DecidableEq
def Ct.enc (x : Ct) : List Value := [.int .i64 x.i, .bool x.a, .int .i64 x.t]
abbrev Ct.agg (x : Ct) : Value := .agg #[.int .i64 x.i, .bool x.a, .int .i64 x.t]
abbrev Ct.zero : Ct := ⟨0, false, 0⟩
def Ct.cl (w : World) (b o : Nat) (x : Ct) : Prop := w.cell? ⟨b, o, none⟩ = some (.int .i64 x.i) ∧ w.cell? ⟨b, o + 1, none⟩ = some (.bool x.a) ∧ w.cell? ⟨b, o + 2, none⟩ = some (.int .i64 x.t)
section
variable {w w' : World} {B lo hi n : Nat} {A : Option Addr} {l : List Ct}
end
theorem cellsCt_b : Try.prog.cellsOf 4 = 1 := by kernel_rfl
theorem cellsCt_i : Try.prog.cellsOf 2 = 1 := by kernel_rfl
/-- The bounds of a value of the type. -/
def Ct.inB (x : Ct) : Prop := (-9223372036854775808 ≤ x.i ∧ x.i ≤ 9223372036854775807) ∧ (True) ∧ (-9223372036854775808 ≤ x.t ∧ x.t ≤ 9223372036854775807)
end Go.Proofs.Ytnfnmdeiaihgnaa
