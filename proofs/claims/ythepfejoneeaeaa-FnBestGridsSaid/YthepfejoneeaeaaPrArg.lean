/- A press sheet and a trim as values, and among a law's arguments, opened to their cells. -/
import Derived.Test.YthepfejoneeaeaaBase
import Derived.Test.YthepfejoneeaeaaPrMath
import Derived.Deep.Slices
import Derived.Deep.Fields
import Derived.OpenShut
namespace Go.Proofs.Ythepfejoneeaeaa
open Go.RowKit Go.Deep Go.ChangeShapes Go.WideShapes
set_option linter.unusedVariables false

/-- A press sheet and a trim as values. -/
abbrev PV (a b g : Int) (r : Bool) : Value := .agg #[.int .i64 a, .int .i64 b, .int .i64 g, .bool r]
abbrev TV (c d e f : Int) : Value := .agg #[.int .i64 c, .int .i64 d, .int .i64 e, .int .i64 f]

theorem cellsPr4 : Try.prog.cellsOf 49 = 4 := by kernel_rfl
theorem cellsTm4 : Try.prog.cellsOf 52 = 4 := by kernel_rfl
theorem cellsPrI : Try.prog.cellsOf 2 = 1 := by kernel_rfl
theorem cellsPrB : Try.prog.cellsOf 4 = 1 := by kernel_rfl
theorem four_cs {α : Type} {cs : Array α} (h : cs.size = 4) : ∃ c0 c1 c2 c3, cs = #[c0, c1, c2, c3] := by
  obtain ⟨l⟩ := cs
  match l, h with
  | [c0, c1, c2, c3], _ => exact ⟨c0, c1, c2, c3, rfl⟩
def inI (x : Int) : Prop := -9223372036854775808 ≤ x ∧ x ≤ 9223372036854775807
set_option maxRecDepth 100000 in
theorem open_press {H : Type} {enc : TypeId × Value → H} {W : World} {r : Reach} {b0 : Nat} {v : Value} {d : DataW H} {p : List MemPlace} (hv : Value.okWide Try.prog W r b0 49 v)
    (h : DataW.Trod enc Try.prog W 0 (fun _ => true) true 49 v d p) : ∃ (a b g : Int) (q : Bool), v = PV a b g q ∧ inI a ∧ inI b ∧ inI g := by
  obtain ⟨cs, rfl, hsz⟩ := okWide_struct Try.underlying49 hv
  obtain ⟨c0, c1, c2, c3, rfl⟩ := four_cs (hsz.trans cellsPr4)
  obtain ⟨fuel, hf⟩ := h
  obtain ⟨xs, n, _, _, _, hxl, hg⟩ := DataW.trod_struct Try.underlying49 hf
  match xs, hxl with
  | [x0, x1, x2, x3], _ =>
    have g0 := hg 0 _ rfl
    have g1 := hg 1 _ rfl
    have g2 := hg 2 _ rfl
    have g3 := hg 3 _ rfl
    rw [show Try.prog.cellsOf (Field.type _) = 1 from cellsPrI] at g0 g1 g2
    rw [show Try.prog.cellsOf (Field.type _) = 1 from cellsPrB] at g3
    obtain ⟨z0, e0, _, w0⟩ := DataW.trod_int Try.underlying2 (show DataW.trod enc Try.prog W 0 (fun _ => true) true n 2 [c0] = some x0 from g0)
    obtain ⟨z1, e1, _, w1⟩ := DataW.trod_int Try.underlying2 (show DataW.trod enc Try.prog W 0 (fun _ => true) true n 2 [c1] = some x1 from g1)
    obtain ⟨z2, e2, _, w2⟩ := DataW.trod_int Try.underlying2 (show DataW.trod enc Try.prog W 0 (fun _ => true) true n 2 [c2] = some x2 from g2)
    obtain ⟨z3, e3, _⟩ := DataW.trod_bool Try.underlying4 (show DataW.trod enc Try.prog W 0 (fun _ => true) true n 4 [c3] = some x3 from g3)
    injection e0 with e0
    injection e1 with e1
    injection e2 with e2
    injection e3 with e3
    subst e0 e1 e2 e3
    exact ⟨z0, z1, z2, z3, rfl, bounds_i64 w0, bounds_i64 w1, bounds_i64 w2⟩
set_option maxRecDepth 100000 in
theorem open_trim {H : Type} {enc : TypeId × Value → H} {W : World} {r : Reach} {b0 : Nat} {v : Value} {d : DataW H} {p : List MemPlace} (hv : Value.okWide Try.prog W r b0 52 v)
    (h : DataW.Trod enc Try.prog W 0 (fun _ => true) true 52 v d p) : ∃ (c d e f : Int), v = TV c d e f ∧ inI c ∧ inI d ∧ inI e ∧ inI f := by
  obtain ⟨cs, rfl, hsz⟩ := okWide_struct Try.underlying52 hv
  obtain ⟨c0, c1, c2, c3, rfl⟩ := four_cs (hsz.trans cellsTm4)
  obtain ⟨fuel, hf⟩ := h
  obtain ⟨xs, n, _, _, _, hxl, hg⟩ := DataW.trod_struct Try.underlying52 hf
  match xs, hxl with
  | [x0, x1, x2, x3], _ =>
    have g0 := hg 0 _ rfl
    have g1 := hg 1 _ rfl
    have g2 := hg 2 _ rfl
    have g3 := hg 3 _ rfl
    rw [show Try.prog.cellsOf (Field.type _) = 1 from cellsPrI] at g0 g1 g2 g3
    obtain ⟨z0, e0, _, w0⟩ := DataW.trod_int Try.underlying2 (show DataW.trod enc Try.prog W 0 (fun _ => true) true n 2 [c0] = some x0 from g0)
    obtain ⟨z1, e1, _, w1⟩ := DataW.trod_int Try.underlying2 (show DataW.trod enc Try.prog W 0 (fun _ => true) true n 2 [c1] = some x1 from g1)
    obtain ⟨z2, e2, _, w2⟩ := DataW.trod_int Try.underlying2 (show DataW.trod enc Try.prog W 0 (fun _ => true) true n 2 [c2] = some x2 from g2)
    obtain ⟨z3, e3, _, w3⟩ := DataW.trod_int Try.underlying2 (show DataW.trod enc Try.prog W 0 (fun _ => true) true n 2 [c3] = some x3 from g3)
    injection e0 with e0
    injection e1 with e1
    injection e2 with e2
    injection e3 with e3
    subst e0 e1 e2 e3
    exact ⟨z0, z1, z2, z3, rfl, bounds_i64 w0, bounds_i64 w1, bounds_i64 w2, bounds_i64 w3⟩
end Go.Proofs.Ythepfejoneeaeaa
