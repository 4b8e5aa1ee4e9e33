/- The walk of the exact law of SchemesOf, out of the contracts. -/
import Derived.Test.YtcagljdebplmcaaFoSo
import Derived.Test.YtcagljdebplmcaaFoTx
namespace Go.Proofs.Ytcagljdebplmcaa
open Go.RowKit

set_option maxRecDepth 100000 in
set_option maxHeartbeats 1000000 in
theorem w_FnExactSchemesOf (a0 a1 : Int) (w : World) (_w0 : -9223372036854775808 ≤ a0 ∧ a0 ≤ 9223372036854775807) (_w1 : -9223372036854775808 ≤ a1 ∧ a1 ≤ 9223372036854775807) :
    Calls Try.prog 8 #[.int .i64 a0, .int .i64 a1] w fun e w' => e = .returned (.bool true) ∧ Below w.heap.size w w' := by
  obtain ⟨C, hC⟩ : ∃ C, soC a0 a1 = C := ⟨_, rfl⟩
  have HC := Lib.hid hC
  clear hC
  go_enter Try.func8, Try.ntmps8
  go_wp2_with fail
  refine (specSo_any a0 a1 _).mono ?_
  rintro e w1 ⟨AW, nW, cW, rfl, hW_1, hnW, hb1⟩
  rw [HC.out]
  have hz1 := hb1.size
  have hB1 : Below w.heap.size w w1 := (Below.refl _ _).trans (hb1.mono (by omega))
  go_wp2_with fail
  refine (implSo_any a0 a1 _).mono ?_
  rintro e w2 ⟨AG, nG, cG, rfl, hG_2, hnG, hb2⟩
  rw [HC.out]
  have hz2 := hb2.size
  have hB2 : Below w.heap.size w w2 := (hB1).trans (hb2.mono (by omega))
  have hW_2 := hW_1.below hb2 (by omega)
  obtain rfl : nG = nW := hG_2.rd.1.symm.trans hW_2.rd.1
  go_wp2_with fail
  refine (eqStringS_true _ _ _ _ _ _ _ _ _ hG_2.rd hW_2.rd (by omega)).mono ?_
  rintro e w3 ⟨rfl, hq3⟩
  have hz3 := hq3.le
  have hB3 : Below w.heap.size w w3 := (hB2).trans (hq3.below _)
  have hW_3 := hW_2.q hq3
  have hG_3 := hG_2.q hq3
  go_wp2_with fail
  refine (markStringS_any _ _ _ _ _ 1 _ _ hG_3 (by omega) (by omega) (by omega) (by omega)).mono ?_
  rintro e w4 ⟨rfl, hMG, hm4⟩
  have hz4 := hm4.size
  have hB4 : Below w.heap.size w w4 := (hB3).trans (hm4.below (by omega) (by omega))
  have hW_4 := hW_3.only hm4 (by omega)
  go_wp2_with fail
  refine (heldStringS_any _ _ _ _ 1 _ hMG.rd (by omega) (by omega) (by omega) (by omega)).mono ?_
  rintro e w4b ⟨rfl, hd4⟩
  have hz4b := hd4.size
  have hB4b : Below w.heap.size w w4b := hB4.trans (hd4.mono (by omega))
  have hW_4b := hW_4.below hd4 (by omega)
  have hMG2 := hMG.below hd4 (by omega)
  go_wp2_with fail
  refine (implSo_any a0 a1 _).mono ?_
  rintro e w5 ⟨AH, nH, cH, rfl, hH_5, hnH, hb5⟩
  rw [HC.out]
  have hz5 := hb5.size
  have hB5 : Below w.heap.size w w5 := (hB4b).trans (hb5.mono (by omega))
  have hW_5 := hW_4b.below hb5 (by omega)
  have hG_5 := hMG2.below hb5 (by omega)
  obtain rfl : nH = nG := hH_5.rd.1.symm.trans hW_5.rd.1
  go_wp2_with fail
  refine (eqStringS_true _ _ _ _ _ _ _ _ _ hH_5.rd hW_5.rd (by omega)).mono ?_
  rintro e w6 ⟨rfl, hq6⟩
  have hB6 : Below w.heap.size w w6 := (hB5).trans (hq6.below _)
  have hG_6 := hG_5.q hq6
  go_wp2_with fail
  refine (heldStringS_any _ _ _ _ 1 _ hG_6.rd (by have := hq6.le; omega) (by omega) (by omega) (by omega)).mono ?_
  rintro e w7 ⟨rfl, hd7⟩
  have hB7 : Below w.heap.size w w7 := hB6.trans (hd7.mono hB6.size)
  go_wp2_with fail
  go_ret
  exact ⟨rfl, hB7⟩
end Go.Proofs.Ytcagljdebplmcaa
