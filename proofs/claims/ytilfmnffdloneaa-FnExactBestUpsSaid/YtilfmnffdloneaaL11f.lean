/- The walk of the exact law of BestUps, out of the contracts. -/
import Derived.Test.YtilfmnffdloneaaGaIg
import Derived.Test.YtilfmnffdloneaaMark
namespace Go.Proofs.Ytilfmnffdloneaa
open Go.RowKit
set_option linter.unusedVariables false

set_option maxRecDepth 100000 in
set_option maxHeartbeats 1000000 in
theorem w_FnExactBestUps (a0 : Int) (A1 : Option Addr) (n1 c1 : Nat) (l1 : List Int) (w : World) (w0_ : -9223372036854775808 ≤ a0 ∧ a0 ≤ 9223372036854775807) (h1 : Rd I w w.heap.size A1 n1 l1) :
    Calls Try.prog 10 #[.int .i64 a0, .slice A1 n1 c1] w fun e w' => e = .returned (.bool true) ∧ Below w.heap.size w w' := by
  by_cases hn1 : n1 ≤ 1048576
  · go_enter Try.func10, Try.ntmps10
    go_wp2_with fail
    refine (toInt64S_any A1 n1 c1 w.heap.size l1 _ (h1.below (Below.refl _ _) (Nat.le_refl _)) (by omega) hn1).mono ?_
    rintro e w1 ⟨gS1, rfl, hS1_1, hb1⟩
    have hz1 := hb1.size
    have hB1 : Below w.heap.size w w1 := (Below.refl _ _).trans (hb1.mono (by omega))
    go_wp2_with fail
    refine (specGaBu_any a0 _ n1 n1 _ l1 _ _ _ hS1_1.rd (by omega) hn1 rfl rfl).mono ?_
    rintro e w2 ⟨AW, nW, cW, rfl, hW_2, hnW, hb2⟩
    have hz2 := hb2.size
    have hB2 : Below w.heap.size w w2 := (hB1).trans (hb2.mono (by omega))
    have hS1_2 := hS1_1.below hb2 (by omega)
    go_wp2_with fail
    refine (toInt64S_any A1 n1 c1 w.heap.size l1 _ (h1.below (hB2) (Nat.le_refl _)) (by omega) hn1).mono ?_
    rintro e w3 ⟨gX1, rfl, hX1_3, hb3⟩
    have hz3 := hb3.size
    have hB3 : Below w.heap.size w w3 := (hB2).trans (hb3.mono (by omega))
    have hW_3 := hW_2.below hb3 (by omega)
    go_wp2_with fail
    refine (implGaBu_any a0 _ n1 n1 _ l1 _ _ _ hX1_3.rd (by omega) hn1 (Nat.le_refl _) w0_ rfl rfl).mono ?_
    rintro e w4 ⟨AG, nG, cG, rfl, hG_4, hnG, hb4⟩
    have hz4 := hb4.size
    have hB4 : Below w.heap.size w w4 := (hB3).trans (hb4.mono (by omega))
    have hW_4 := hW_3.below hb4 (by omega)
    have hX1_4 := hX1_3.below hb4 (by omega)
    obtain rfl : nG = nW := hG_4.rd.1.symm.trans hW_4.rd.1
    go_wp2_with fail
    refine (eqInt64S_true _ _ _ _ _ _ _ _ _ hG_4.rd hW_4.rd hnG).mono ?_
    rintro e w5 ⟨rfl, hq5⟩
    have hz5 := hq5.le
    have hB5 : Below w.heap.size w w5 := (hB4).trans (hq5.below _)
    have hW_5 := hW_4.q hq5
    have hX1_5 := hX1_4.q hq5
    have hG_5 := hG_4.q hq5
    go_wp2_with fail
    refine (toInt64S_any A1 n1 c1 w.heap.size l1 _ (h1.below (hB5) (Nat.le_refl _)) (by omega) hn1).mono ?_
    rintro e w6 ⟨gC, rfl, hC_6, hb6⟩
    have hz6 := hb6.size
    have hB6 : Below w.heap.size w w6 := (hB5).trans (hb6.mono (by omega))
    have hW_6 := hW_5.below hb6 (by omega)
    have hX1_6 := hX1_5.below hb6 (by omega)
    have hG_6 := hG_5.below hb6 (by omega)
    go_wp2_with fail
    refine (eqInt64S_true _ _ _ _ _ _ _ _ _ hX1_6.rd hC_6.rd hn1).mono ?_
    rintro e w7 ⟨rfl, hq7⟩
    have hz7 := hq7.le
    have hB7 : Below w.heap.size w w7 := (hB6).trans (hq7.below _)
    have hW_7 := hW_6.q hq7
    have hX1_7 := hX1_6.q hq7
    have hG_7 := hG_6.q hq7
    have hC_7 := hC_6.q hq7
    go_wp2_with fail
    refine (markInt64S_any _ _ _ _ _ 1 _ _ hX1_7 hn1 (by omega) (by omega)).mono ?_
    rintro e w8 ⟨rfl, hMX1, hm8⟩
    have hz8 := hm8.size
    have hB8 : Below w.heap.size w w8 := (hB7).trans (hm8.below (by omega) (by omega))
    have hW_8 := hW_7.only hm8 (by omega)
    have hG_8 := hG_7.only hm8 (by omega)
    go_wp2_with fail
    refine (eqInt64S_true _ _ _ _ _ _ _ _ _ hG_8.rd hW_8.rd hnG).mono ?_
    rintro e w9 ⟨rfl, hq9⟩
    have hz9 := hq9.le
    have hB9 : Below w.heap.size w w9 := (hB8).trans (hq9.below _)
    have hW_9 := hW_8.q hq9
    have hG_9 := hG_8.q hq9
    go_wp2_with fail
    refine (markInt64S_any _ _ _ _ _ 1 _ _ hG_9 hnG (by omega) (by omega)).mono ?_
    rintro e w10 ⟨rfl, hMG, hm10⟩
    have hz10 := hm10.size
    have hB10 : Below w.heap.size w w10 := (hB9).trans (hm10.below (by omega) (by omega))
    have hW_10 := hW_9.only hm10 (by omega)
    go_wp2_with fail
    refine (heldInt64S_any _ _ _ _ 1 _ hMG.rd hnG (by omega) (by omega)).mono ?_
    rintro e _ ⟨rfl, rfl⟩
    go_wp2_with fail
    refine (toInt64S_any A1 n1 c1 w.heap.size l1 _ (h1.below (hB10) (Nat.le_refl _)) (by omega) hn1).mono ?_
    rintro e w11 ⟨gY1, rfl, hY1_11, hb11⟩
    have hz11 := hb11.size
    have hB11 : Below w.heap.size w w11 := (hB10).trans (hb11.mono (by omega))
    have hW_11 := hW_10.below hb11 (by omega)
    have hG_11 := hMG.below hb11 (by omega)
    go_wp2_with fail
    refine (implGaBu_any a0 _ n1 n1 _ l1 _ _ _ hY1_11.rd (by omega) hn1 (Nat.le_refl _) w0_ rfl rfl).mono ?_
    rintro e w12 ⟨AH, nH, cH, rfl, hH_12, hnH, hb12⟩
    have hz12 := hb12.size
    have hB12 : Below w.heap.size w w12 := (hB11).trans (hb12.mono (by omega))
    have hW_12 := hW_11.below hb12 (by omega)
    have hG_12 := hG_11.below hb12 (by omega)
    have hY1_12 := hY1_11.below hb12 (by omega)
    obtain rfl : nH = nG := hH_12.rd.1.symm.trans hW_12.rd.1
    go_wp2_with fail
    refine (eqInt64S_true _ _ _ _ _ _ _ _ _ hH_12.rd hW_12.rd hnG).mono ?_
    rintro e w13 ⟨rfl, hq13⟩
    have hz13 := hq13.le
    have hB13 : Below w.heap.size w w13 := (hB12).trans (hq13.below _)
    have hW_13 := hW_12.q hq13
    have hG_13 := hG_12.q hq13
    have hH_13 := hH_12.q hq13
    go_wp2_with fail
    refine (heldInt64S_any _ _ _ _ 1 _ hG_13.rd hnG (by omega) (by omega)).mono ?_
    rintro e _ ⟨rfl, rfl⟩
    go_wp2_with fail
    go_ret
    exact ⟨rfl, hB13⟩
  · have hn1_ : 1048576 < n1 := by omega
    go_enter Try.func10, Try.ntmps10
    go_wp2
    go_ret
    exact ⟨rfl, Below.refl _ _⟩
end Go.Proofs.Ytilfmnffdloneaa
