/- The walk of the exact law of SignatureCount, out of the contracts. -/
import Derived.Test.YtamnhbambklmkaaSgSc
import Derived.Test.YtamnhbambklmkaaMark
namespace Go.Proofs.Ytamnhbambklmkaa
open Go.RowKit
set_option linter.unusedVariables false

set_option maxRecDepth 100000 in
set_option maxHeartbeats 1000000 in
theorem w_FnExactSignatureCount (a0 : Int) (a1 : Int) (w : World) (w0_ : -9223372036854775808 ≤ a0 ∧ a0 ≤ 9223372036854775807) (w1_ : -9223372036854775808 ≤ a1 ∧ a1 ≤ 9223372036854775807) :
    Calls Try.prog 7 #[.int .i64 a0, .int .i64 a1] w fun e w' => e = .returned (.bool true) ∧ Below w.heap.size w w' := by
  go_enter Try.func7, Try.ntmps7
  go_wp2_with fail
  refine (specSc_any a0 a1 _ _ _ rfl rfl).mono ?_
  rintro e w1 ⟨rfl, hb1⟩
  have hz1 := hb1.size
  have hB1 : Below w.heap.size w w1 := (Below.refl _ _).trans (hb1.mono (by omega))
  go_wp2_with fail
  refine (implSc_any a0 a1 _ _ _ rfl rfl w0_ w1_).mono ?_
  rintro e w2 ⟨rfl, hb2⟩
  have hz2 := hb2.size
  have hB2 : Below w.heap.size w w2 := (hB1).trans (hb2.mono (by omega))
  go_wp2_with fail
  go_ret
  exact ⟨rfl, hB2⟩
end Go.Proofs.Ytamnhbambklmkaa
