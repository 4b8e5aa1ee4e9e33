/- The contract of the program's cell of a mark. -/
import Derived.Test.YtjpfbonnohodhaaDoorBase
import Derived.Test.YtjpfbonnohodhaaDoorStMath
namespace Go.Proofs.YtjpfbonnohodhaaDoor
open Go.RowKit

theorem cell_neg {x : Int} (h : x < 0) : St.cellOf x = -x - 1 := by unfold St.cellOf; omega
theorem cell_pos {x : Int} (h : ¬ x < 0) : St.cellOf x = x - 1 := by unfold St.cellOf; omega

theorem markedCell_any (x : Int) (w : World) (hx : -9223372036854775808 ≤ x ∧ x ≤ 9223372036854775807) :
    Calls Tryd.prog 40 #[.int .i64 x] w fun e w' => e = .returned (.int .i64 (St.cellOf x)) ∧ w = w' := by
  by_cases h : x < 0
  · have HC := Lib.hid (cell_neg h)
    have e1 : IntKind.i64.wrap (x + 1) = x + 1 := IntWalk.i64_in _ (by omega)
    have e2 : IntKind.i64.wrap (-(x + 1)) = -(x + 1) := IntWalk.i64_in _ (by omega)
    go_enter Tryd.func40, Tryd.ntmps40
    go_wp2_with fail
    go_ret
    exact ⟨ret_i (by rw [HC.out]; omega), rfl⟩
  · have HC := Lib.hid (cell_pos h)
    have e1 : IntKind.i64.wrap (x - 1) = x - 1 := IntWalk.i64_in _ (by omega)
    go_enter Tryd.func40, Tryd.ntmps40
    go_wp2_with fail
    go_ret
    exact ⟨ret_i (by rw [HC.out]), rfl⟩

end Go.Proofs.YtjpfbonnohodhaaDoor
