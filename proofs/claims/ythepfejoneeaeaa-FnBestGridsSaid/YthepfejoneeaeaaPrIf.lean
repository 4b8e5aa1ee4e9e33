/- Contracts of the helpers that take a grid behind its interface: whether it follows the grain, how many pages it has. -/
import Derived.Test.YthepfejoneeaeaaPrCn
import Derived.Handy
namespace Go.Proofs.Ythepfejoneeaeaa
open Go.RowKit

abbrev UG (v : Value) : Value := .iface 65 v
abbrev TG (v : Value) : Value := .iface 74 v
abbrev GZ : Value := .agg #[.int .i64 0, .int .i64 0, .int .i64 0, .bool false, .int .i64 0, .int .i64 0, .int .i64 0, .int .i64 0]
theorem asUU (v : Value) (w : World) : (Instr.typeAssert (UG v) 73 65 true).run Try.prog w = .ok (.tuple #[v, .bool true]) w := by kernel_rfl
theorem asUT (v : Value) (w : World) : (Instr.typeAssert (UG v) 73 74 true).run Try.prog w = .ok (.tuple #[GZ, .bool false]) w := by kernel_rfl
theorem asTU (v : Value) (w : World) : (Instr.typeAssert (TG v) 73 65 true).run Try.prog w = .ok (.tuple #[GZ, .bool false]) w := by kernel_rfl
theorem asTT (v : Value) (w : World) : (Instr.typeAssert (TG v) 73 74 true).run Try.prog w = .ok (.tuple #[v, .bool true]) w := by kernel_rfl

set_option maxRecDepth 100000 in
set_option maxHeartbeats 2000000 in
theorem follU_any (a b g c d e f : Int) (r : Bool) (w : World) :
    Calls Try.prog 48 #[UG (GV a b g r c d e f)] w fun e' w' => e' = .returned (.bool r) ∧ Below w.heap.size w w' := by
  have q1 := asUU (GV a b g r c d e f)
  have q2 := asUT (GV a b g r c d e f)
  go_enter Try.func48, Try.ntmps48
  go_wp2
  go_ret
  exact ⟨rfl, below_new w _⟩

set_option maxRecDepth 100000 in
set_option maxHeartbeats 2000000 in
theorem follT_any (a b g c d e f : Int) (r : Bool) (w : World) :
    Calls Try.prog 48 #[TG (GV a b g r c d e f)] w fun e' w' => e' = .returned (.bool (!r)) ∧ Below w.heap.size w w' := by
  have q1 := asTU (GV a b g r c d e f)
  have q2 := asTT (GV a b g r c d e f)
  go_enter Try.func48, Try.ntmps48
  go_wp2
  go_ret
  exact ⟨rfl, below_new w _⟩

set_option maxRecDepth 100000 in
set_option maxHeartbeats 2000000 in
theorem pagesU_any (a b g c d e f x : Int) (r : Bool) (w : World) (hp : Pr.shB a b g = true) (ht : Pr.tmB c d e f = true) (hx : Pr.up a b g c d e f = x) :
    Calls Try.prog 49 #[UG (GV a b g r c d e f)] w fun e' w' => e' = .returned (.int .i64 x) ∧ Below w.heap.size w w' := by
  obtain ⟨X, hX⟩ : ∃ X, Pr.cnR a b g c d e f = X := ⟨_, rfl⟩
  obtain ⟨Y, hY⟩ : ∃ Y, Pr.cnS a b g c d e f = Y := ⟨_, rfl⟩
  have hm : X * Y = x := by rw [← hX, ← hY, Pr.cn_mul]; exact hx
  have hb := Pr.up_bd (a := a) (b := b) (g := g) (c := c) (d := d) (e := e) (f := f) hp ht
  rw [hx] at hb
  have e1 : IntKind.i64.wrap (X * Y) = x := by rw [hm]; exact IntWalk.i64_in _ (by omega)
  have HC := fun (V : World) => counts_any a b g c d e f X Y r V hp ht hX hY
  clear hx hm hX hY hp ht
  go_enter Try.func49, Try.ntmps49
  go_wp2_with fail
  refine (HC _).mono ?_
  rintro e' w1 ⟨rfl, hb1⟩
  go_wp2_with fail
  go_ret
  exact ⟨rfl, hb1⟩

set_option maxRecDepth 100000 in
set_option maxHeartbeats 2000000 in
theorem pagesT_any (a b g c d e f x : Int) (r : Bool) (w : World) (hp : Pr.shB a b g = true) (ht : Pr.tmB c d e f = true) (hx : Pr.up a b g d c e f = x) :
    Calls Try.prog 49 #[TG (GV a b g r c d e f)] w fun e' w' => e' = .returned (.int .i64 x) ∧ Below w.heap.size w w' := by
  obtain ⟨X, hX⟩ : ∃ X, Pr.cnR a b g d c e f = X := ⟨_, rfl⟩
  obtain ⟨Y, hY⟩ : ∃ Y, Pr.cnS a b g d c e f = Y := ⟨_, rfl⟩
  have hm : X * Y = x := by rw [← hX, ← hY, Pr.cn_mul]; exact hx
  have hb := Pr.up_bd (a := a) (b := b) (g := g) (c := d) (d := c) (e := e) (f := f) hp (by rw [Pr.tm_turn]; exact ht)
  rw [hx] at hb
  have e1 : IntKind.i64.wrap (X * Y) = x := by rw [hm]; exact IntWalk.i64_in _ (by omega)
  have HC := fun (V : World) => countsT_any a b g c d e f X Y r V hp ht hX hY
  clear hx hm hX hY hp ht
  go_enter Try.func49, Try.ntmps49
  go_wp2_with fail
  refine (HC _).mono ?_
  rintro e' w1 ⟨rfl, hb1⟩
  go_wp2_with fail
  go_ret
  exact ⟨rfl, hb1⟩
end Go.Proofs.Ythepfejoneeaeaa
