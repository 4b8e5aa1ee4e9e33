/- Contracts of the laws' helpers at a press sheet and a trim: a copy of either, two equal ones. -/
import Derived.Test.YthepfejoneeaeaaPrCo
namespace Go.Proofs.Ythepfejoneeaeaa
open Go.RowKit

set_option maxHeartbeats 1000000 in
theorem toPress_any (a b g : Int) (r : Bool) (w : World) : Calls Try.prog 34 #[PV a b g r] w fun e' w' => e' = .returned (PV a b g r) ∧ Below w.heap.size w w' := by
  go_enter Try.func34, Try.ntmps34
  go_wp2
  exact bodyPost_ret (v := PV a b g r) (by simp [results, Try.results34, go_sem]) rfl ⟨rfl, (((below_new w _).alloc (by simp) _).alloc (by simp; omega) _)⟩
set_option maxHeartbeats 1000000 in
theorem eqPress_true (a b g : Int) (r : Bool) (w : World) : Calls Try.prog 37 #[PV a b g r, PV a b g r] w fun e' w' => e' = .returned (.bool true) ∧ Below w.heap.size w w' := by
  have HB := Lib.hid ((below_new w (.cells #[.int .i64 a, .int .i64 b, .int .i64 g, .bool r] 25)).alloc (by simp) (.cells #[.int .i64 a, .int .i64 b, .int .i64 g, .bool r] 25))
  go_enter Try.func37, Try.ntmps37
  go_wp2
  go_ret
  exact ⟨rfl, HB.out⟩
set_option maxHeartbeats 1000000 in
theorem toTrim_any (c d e f : Int) (w : World) : Calls Try.prog 35 #[TV c d e f] w fun e' w' => e' = .returned (TV c d e f) ∧ Below w.heap.size w w' := by
  go_enter Try.func35, Try.ntmps35
  go_wp2
  exact bodyPost_ret (v := TV c d e f) (by simp [results, Try.results35, go_sem]) rfl ⟨rfl, (((below_new w _).alloc (by simp) _).alloc (by simp; omega) _)⟩
set_option maxHeartbeats 1000000 in
theorem eqTrim_true (c d e f : Int) (w : World) : Calls Try.prog 36 #[TV c d e f, TV c d e f] w fun e' w' => e' = .returned (.bool true) ∧ Below w.heap.size w w' := by
  have HB := Lib.hid ((below_new w (.cells #[.int .i64 c, .int .i64 d, .int .i64 e, .int .i64 f] 27)).alloc (by simp) (.cells #[.int .i64 c, .int .i64 d, .int .i64 e, .int .i64 f] 27))
  go_enter Try.func36, Try.ntmps36
  go_wp2
  go_ret
  exact ⟨rfl, HB.out⟩
end Go.Proofs.Ythepfejoneeaeaa
