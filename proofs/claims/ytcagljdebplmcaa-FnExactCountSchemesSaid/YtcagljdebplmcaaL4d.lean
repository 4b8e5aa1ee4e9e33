/- The walk of the exact law of CountSchemes, out of the contracts. -/
import Derived.Test.YtcagljdebplmcaaFoSo
namespace Go.Proofs.Ytcagljdebplmcaa
open Go.RowKit

set_option maxRecDepth 100000 in
set_option maxHeartbeats 2000000 in
theorem w_FnExactCountSchemes (a0 a1 : Int) (w : World) (_w0 : -9223372036854775808 ≤ a0 ∧ a0 ≤ 9223372036854775807) (_w1 : -9223372036854775808 ≤ a1 ∧ a1 ≤ 9223372036854775807) :
    Calls Try.prog 9 #[.int .i64 a0, .int .i64 a1] w fun e w' => e = .returned (.bool true) ∧ Below w.heap.size w w' := by
  obtain ⟨v0, hv0⟩ : ∃ v, ((soR a0 a1).length : Int) = v := ⟨_, rfl⟩
  have HV0 := Lib.hid hv0
  clear hv0
  obtain ⟨v1, hv1⟩ : ∃ v, soC a0 a1 = v := ⟨_, rfl⟩
  have HV1 := Lib.hid hv1
  clear hv1
  go_enter Try.func9, Try.ntmps9
  go_wp2_with fail
  refine (specCs_any a0 a1 _).mono ?_
  rintro e w1 ⟨rfl, hb1⟩
  rw [HV0.out, HV1.out]
  go_wp2_with fail
  refine (implCs_any a0 a1 _).mono ?_
  rintro e w2 ⟨rfl, hb2⟩
  rw [HV0.out, HV1.out]
  have HB := Lib.hid (hb1.trans (hb2.mono hb1.size))
  go_wp2_with fail
  all_goals go_ret
  all_goals exact ⟨rfl, HB.out⟩
end Go.Proofs.Ytcagljdebplmcaa
