/- The walk of the exact law of PaddedCount, out of the contracts. -/
import Derived.Test.YtoanopgafihjiaaPad
namespace Go.Proofs.Ytoanopgafihjiaa
open Go.RowKit

set_option maxHeartbeats 1000000 in
theorem w_FnExactPaddedCount (n u : Int) (w : World) (hn : -9223372036854775808 ≤ n ∧ n ≤ 9223372036854775807) (hu : -9223372036854775808 ≤ u ∧ u ≤ 9223372036854775807) :
    Calls Try.prog 8 #[.int .i64 n, .int .i64 u] w fun e w' => e = .returned (.bool true) ∧ Below w.heap.size w w' := by
  go_enter Try.func8, Try.ntmps8
  go_wp2_with fail
  refine (specPad_any n u _).mono ?_
  rintro e _ ⟨rfl, rfl⟩
  go_wp2_with fail
  refine (implPad_any n u _ hn hu).mono ?_
  rintro e _ ⟨rfl, rfl⟩
  go_wp2_with fail
  go_ret
  exact ⟨rfl, Below.refl _ _⟩
end Go.Proofs.Ytoanopgafihjiaa
