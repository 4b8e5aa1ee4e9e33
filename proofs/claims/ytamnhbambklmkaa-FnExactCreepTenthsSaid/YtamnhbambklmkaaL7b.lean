/- The walk of the exact law of CreepTenths, out of the contracts. -/
import Derived.Test.YtamnhbambklmkaaTkCt
import Derived.Test.YtamnhbambklmkaaMark
namespace Go.Proofs.Ytamnhbambklmkaa
open Go.RowKit
set_option linter.unusedVariables false

set_option maxRecDepth 100000 in
set_option maxHeartbeats 1000000 in
theorem w_FnExactCreepTenths (a0 : Int) (a1 : Int) (w : World) (w0_ : -9223372036854775808 ≤ a0 ∧ a0 ≤ 9223372036854775807) (w1_ : -9223372036854775808 ≤ a1 ∧ a1 ≤ 9223372036854775807) :
    Calls Try.prog 12 #[.int .i64 a0, .int .i64 a1] w fun e w' => e = .returned (.bool true) ∧ Below w.heap.size w w' := by
  go_enter Try.func12, Try.ntmps12
  go_wp2_with fail
  refine (specCt_any a0 a1 _ _ _ rfl rfl).mono ?_
  rintro e w1 ⟨AW, nW, cW, rfl, hW_1, hnW, hb1⟩
  have hz1 := hb1.size
  have hB1 : Below w.heap.size w w1 := (Below.refl _ _).trans (hb1.mono (by omega))
  go_wp2_with fail
  refine (implCt_any a0 a1 _ _ _ rfl rfl).mono ?_
  rintro e w2 ⟨AG, nG, cG, rfl, hG_2, hnG, hb2⟩
  have hz2 := hb2.size
  have hB2 : Below w.heap.size w w2 := (hB1).trans (hb2.mono (by omega))
  have hW_2 := hW_1.below hb2 (by omega)
  obtain rfl : nG = nW := hG_2.rd.1.symm.trans hW_2.rd.1
  go_wp2_with fail
  refine (eqInt64S_true _ _ _ _ _ _ _ _ _ hG_2.rd hW_2.rd hnG).mono ?_
  rintro e w3 ⟨rfl, hq3⟩
  have hz3 := hq3.le
  have hB3 : Below w.heap.size w w3 := (hB2).trans (hq3.below _)
  have hW_3 := hW_2.q hq3
  have hG_3 := hG_2.q hq3
  go_wp2_with fail
  refine (markInt64S_any _ _ _ _ _ 1 _ _ hG_3 hnG (by omega) (by omega)).mono ?_
  rintro e w4 ⟨rfl, hMG, hm4⟩
  have hz4 := hm4.size
  have hB4 : Below w.heap.size w w4 := (hB3).trans (hm4.below (by omega) (by omega))
  have hW_4 := hW_3.only hm4 (by omega)
  go_wp2_with fail
  refine (heldInt64S_any _ _ _ _ 1 _ hMG.rd hnG (by omega) (by omega)).mono ?_
  rintro e _ ⟨rfl, rfl⟩
  go_wp2_with fail
  refine (implCt_any a0 a1 _ _ _ rfl rfl).mono ?_
  rintro e w5 ⟨AH, nH, cH, rfl, hH_5, hnH, hb5⟩
  have hz5 := hb5.size
  have hB5 : Below w.heap.size w w5 := (hB4).trans (hb5.mono (by omega))
  have hW_5 := hW_4.below hb5 (by omega)
  have hG_5 := hMG.below hb5 (by omega)
  obtain rfl : nH = nG := hH_5.rd.1.symm.trans hW_5.rd.1
  go_wp2_with fail
  refine (eqInt64S_true _ _ _ _ _ _ _ _ _ hH_5.rd hW_5.rd hnG).mono ?_
  rintro e w6 ⟨rfl, hq6⟩
  have hz6 := hq6.le
  have hB6 : Below w.heap.size w w6 := (hB5).trans (hq6.below _)
  have hW_6 := hW_5.q hq6
  have hG_6 := hG_5.q hq6
  have hH_6 := hH_5.q hq6
  go_wp2_with fail
  refine (heldInt64S_any _ _ _ _ 1 _ hG_6.rd hnG (by omega) (by omega)).mono ?_
  rintro e _ ⟨rfl, rfl⟩
  go_wp2_with fail
  go_ret
  exact ⟨rfl, hB6⟩
end Go.Proofs.Ytamnhbambklmkaa
