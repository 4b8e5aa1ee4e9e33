/- A form among a law's arguments, opened to its cells. -/
import Derived.Test.YtgplciodddfpbaaFmLaw
import Derived.Deep.Slices
import Derived.Deep.Fields
import Derived.OpenShut
namespace Go.Proofs.Ytgplciodddfpbaa
open Go.RowKit Go.Deep Go.ChangeShapes Go.WideShapes

theorem cells51 : Try.prog.cellsOf 51 = 5 := by kernel_rfl
theorem five {α : Type} {cs : Array α} (h : cs.size = 5) : ∃ c0 c1 c2 c3 c4, cs = #[c0, c1, c2, c3, c4] := by
  obtain ⟨l⟩ := cs
  match l, h with
  | [c0, c1, c2, c3, c4], _ => exact ⟨c0, c1, c2, c3, c4, rfl⟩
theorem cellsFI : Try.prog.cellsOf 2 = 1 := by kernel_rfl
theorem cellsFS : Try.prog.cellsOf 26 = 1 := by kernel_rfl
theorem b64 {n : Int} (h : (Lit.int .i64 n).wf = true) : -9223372036854775808 ≤ n ∧ n ≤ 9223372036854775807 := bounds_i64 h
/-- A list of integers that is one cell, opened. -/
theorem ints_at {H : Type} {enc : TypeId × Value → H} {W : World} {fuel : Nat} {u : Value} {x : DataW H × List MemPlace}
    (h : DataW.trod enc Try.prog W 0 (fun _ => true) true fuel 26 [u] = some x) : ∃ A n c L, u = .slice A n c ∧ Rd I W W.heap.size A n L ∧ n ≤ 9223372036854775807 ∧ i64s L := by
  rcases open_ints Try.underlying26 Try.underlying2 (by kernel_rfl) h with ⟨hcs, _⟩ | ⟨x, l, c, zs, hcs, _, hl, hm, hz, _, hcell, hwz⟩
  · simp at hcs
    exact ⟨none, 0, 0, [], hcs, Rd.none_, by omega, fun x hx => by simp at hx⟩
  · simp at hcs
    obtain ⟨r1, r2, r3⟩ := Rd.of_row (k := .i64) (w := W) (a := some x) (len := l) (cap := c) (zs := zs) (.inr ⟨_, rfl, hl, hm, by simpa using hz, hcell, hwz⟩)
    exact ⟨_, _, _, _, hcs, r1, by unfold maxLen at hm; omega, fun y hy => b64 (r3 y hy)⟩
set_option maxRecDepth 100000 in
theorem open_form {H : Type} {enc : TypeId × Value → H} {W : World} {r : Reach} {b0 : Nat} {v : Value} {d : DataW H} {p : List MemPlace} (hv : Value.okWide Try.prog W r b0 51 v)
    (h : DataW.Trod enc Try.prog W 0 (fun _ => true) true 51 v d p) :
    ∃ (f : Fv) (F G L : List Int), v = f.v ∧ RF W W.heap.size f F G L ∧ (f.n1 ≤ 9223372036854775807 ∧ f.n2 ≤ 9223372036854775807 ∧ f.n3 ≤ 9223372036854775807) ∧
      ((i64s F ∧ i64s G) ∧ (-9223372036854775808 ≤ f.a ∧ f.a ≤ 9223372036854775807) ∧ -9223372036854775808 ≤ f.b ∧ f.b ≤ 9223372036854775807) := by
  obtain ⟨cs, rfl, hsz⟩ := okWide_struct Try.underlying51 hv
  obtain ⟨c0, c1, c2, c3, c4, rfl⟩ := five (hsz.trans cells51)
  obtain ⟨fuel, hf⟩ := h
  obtain ⟨xs, n, _, _, _, hxl, hg⟩ := DataW.trod_struct Try.underlying51 hf
  match xs, hxl with
  | [x0, x1, x2, x3, x4], _ =>
    have g0 := hg 0 _ rfl
    have g1 := hg 1 _ rfl
    have g2 := hg 2 _ rfl
    have g3 := hg 3 _ rfl
    have g4 := hg 4 _ rfl
    rw [show Try.prog.cellsOf (Field.type _) = 1 from cellsFI] at g0 g1
    rw [show Try.prog.cellsOf (Field.type _) = 1 from cellsFS] at g2 g3 g4
    obtain ⟨z0, e0, _, w0⟩ := DataW.trod_int Try.underlying2 (show DataW.trod enc Try.prog W 0 (fun _ => true) true n 2 [c0] = some x0 from g0)
    obtain ⟨z1, e1, _, w1⟩ := DataW.trod_int Try.underlying2 (show DataW.trod enc Try.prog W 0 (fun _ => true) true n 2 [c1] = some x1 from g1)
    obtain ⟨A1, n1, k1, L1, e2, r1, m1, i1⟩ := ints_at (show DataW.trod enc Try.prog W 0 (fun _ => true) true n 26 [c2] = some x2 from g2)
    obtain ⟨A2, n2, k2, L2, e3, r2, m2, i2⟩ := ints_at (show DataW.trod enc Try.prog W 0 (fun _ => true) true n 26 [c3] = some x3 from g3)
    obtain ⟨A3, n3, k3, L3, e4, r3, m3, _⟩ := ints_at (show DataW.trod enc Try.prog W 0 (fun _ => true) true n 26 [c4] = some x4 from g4)
    injection e0 with e0
    injection e1 with e1
    subst e0 e1 e2 e3 e4
    exact ⟨⟨z0, z1, A1, n1, k1, A2, n2, k2, A3, n3, k3⟩, L1, L2, L3, rfl, ⟨r1, r2, r3⟩, ⟨m1, m2, m3⟩, ⟨i1, i2⟩, b64 w0, b64 w1⟩
end Go.Proofs.Ytgplciodddfpbaa
