/- The walk of the exact law of OversOf, out of the contracts. -/
import Derived.Test.YtilfmnffdloneaaGaIg
import Derived.Test.YtilfmnffdloneaaMark
namespace Go.Proofs.Ytilfmnffdloneaa
open Go.RowKit
set_option linter.unusedVariables false

set_option maxRecDepth 100000 in
set_option maxHeartbeats 1000000 in
theorem w_FnExactOversOf (a0 : Int) (A1 : Option Addr) (n1 c1 : Nat) (l1 : List Int) (A2 : Option Addr) (n2 c2 : Nat) (l2 : List Int) (w : World) (w0_ : -9223372036854775808 ≤ a0 ∧ a0 ≤ 9223372036854775807) (h1 : Rd I w w.heap.size A1 n1 l1) (h2 : Rd I w w.heap.size A2 n2 l2) :
    Calls Try.prog 7 #[.int .i64 a0, .slice A1 n1 c1, .slice A2 n2 c2] w fun e w' => e = .returned (.bool true) ∧ Below w.heap.size w w' := by
  by_cases hn1 : n1 ≤ 1048576
  · by_cases hn2 : n2 ≤ 1048576
    · go_enter Try.func7, Try.ntmps7
      go_wp2_with fail
      refine (toInt64S_any A1 n1 c1 w.heap.size l1 _ (h1.below (Below.refl _ _) (Nat.le_refl _)) (by omega) hn1).mono ?_
      rintro e w1 ⟨gS1, rfl, hS1_1, hb1⟩
      have hz1 := hb1.size
      have hB1 : Below w.heap.size w w1 := (Below.refl _ _).trans (hb1.mono (by omega))
      go_wp2_with fail
      refine (toInt64S_any A2 n2 c2 w.heap.size l2 _ (h2.below (hB1) (Nat.le_refl _)) (by omega) hn2).mono ?_
      rintro e w2 ⟨gS2, rfl, hS2_2, hb2⟩
      have hz2 := hb2.size
      have hB2 : Below w.heap.size w w2 := (hB1).trans (hb2.mono (by omega))
      have hS1_2 := hS1_1.below hb2 (by omega)
      go_wp2_with fail
      refine (specGaOv_any a0 _ _ n1 n1 _ n2 n2 _ l1 l2 _ _ _ hS1_2.rd hS2_2.rd (by omega) (by omega) hn1 hn2 rfl rfl).mono ?_
      rintro e w3 ⟨AW, nW, cW, rfl, hW_3, hnW, hb3⟩
      have hz3 := hb3.size
      have hB3 : Below w.heap.size w w3 := (hB2).trans (hb3.mono (by omega))
      have hS1_3 := hS1_2.below hb3 (by omega)
      have hS2_3 := hS2_2.below hb3 (by omega)
      go_wp2_with fail
      refine (toInt64S_any A1 n1 c1 w.heap.size l1 _ (h1.below (hB3) (Nat.le_refl _)) (by omega) hn1).mono ?_
      rintro e w4 ⟨gX1, rfl, hX1_4, hb4⟩
      have hz4 := hb4.size
      have hB4 : Below w.heap.size w w4 := (hB3).trans (hb4.mono (by omega))
      have hW_4 := hW_3.below hb4 (by omega)
      go_wp2_with fail
      refine (toInt64S_any A2 n2 c2 w.heap.size l2 _ (h2.below (hB4) (Nat.le_refl _)) (by omega) hn2).mono ?_
      rintro e w5 ⟨gX2, rfl, hX2_5, hb5⟩
      have hz5 := hb5.size
      have hB5 : Below w.heap.size w w5 := (hB4).trans (hb5.mono (by omega))
      have hW_5 := hW_4.below hb5 (by omega)
      have hX1_5 := hX1_4.below hb5 (by omega)
      go_wp2_with fail
      refine (implGaOv_any a0 _ _ n1 n1 _ n2 n2 _ l1 l2 _ _ _ hX1_5.rd hX2_5.rd (by omega) (by omega) hn1 hn2 (Nat.le_refl _) (Nat.le_refl _) w0_ rfl rfl).mono ?_
      rintro e w6 ⟨AG, nG, cG, rfl, hG_6, hnG, hb6⟩
      have hz6 := hb6.size
      have hB6 : Below w.heap.size w w6 := (hB5).trans (hb6.mono (by omega))
      have hW_6 := hW_5.below hb6 (by omega)
      have hX1_6 := hX1_5.below hb6 (by omega)
      have hX2_6 := hX2_5.below hb6 (by omega)
      obtain rfl : nG = nW := hG_6.rd.1.symm.trans hW_6.rd.1
      go_wp2_with fail
      refine (eqInt64S_true _ _ _ _ _ _ _ _ _ hG_6.rd hW_6.rd hnG).mono ?_
      rintro e w7 ⟨rfl, hq7⟩
      have hz7 := hq7.le
      have hB7 : Below w.heap.size w w7 := (hB6).trans (hq7.below _)
      have hW_7 := hW_6.q hq7
      have hX1_7 := hX1_6.q hq7
      have hX2_7 := hX2_6.q hq7
      have hG_7 := hG_6.q hq7
      go_wp2_with fail
      refine (toInt64S_any A1 n1 c1 w.heap.size l1 _ (h1.below (hB7) (Nat.le_refl _)) (by omega) hn1).mono ?_
      rintro e w8 ⟨gC, rfl, hC_8, hb8⟩
      have hz8 := hb8.size
      have hB8 : Below w.heap.size w w8 := (hB7).trans (hb8.mono (by omega))
      have hW_8 := hW_7.below hb8 (by omega)
      have hX1_8 := hX1_7.below hb8 (by omega)
      have hX2_8 := hX2_7.below hb8 (by omega)
      have hG_8 := hG_7.below hb8 (by omega)
      go_wp2_with fail
      refine (eqInt64S_true _ _ _ _ _ _ _ _ _ hX1_8.rd hC_8.rd hn1).mono ?_
      rintro e w9 ⟨rfl, hq9⟩
      have hz9 := hq9.le
      have hB9 : Below w.heap.size w w9 := (hB8).trans (hq9.below _)
      have hW_9 := hW_8.q hq9
      have hX1_9 := hX1_8.q hq9
      have hX2_9 := hX2_8.q hq9
      have hG_9 := hG_8.q hq9
      have hC_9 := hC_8.q hq9
      go_wp2_with fail
      refine (toInt64S_any A2 n2 c2 w.heap.size l2 _ (h2.below (hB9) (Nat.le_refl _)) (by omega) hn2).mono ?_
      rintro e w10 ⟨gC, rfl, hC_10, hb10⟩
      have hz10 := hb10.size
      have hB10 : Below w.heap.size w w10 := (hB9).trans (hb10.mono (by omega))
      have hW_10 := hW_9.below hb10 (by omega)
      have hX1_10 := hX1_9.below hb10 (by omega)
      have hX2_10 := hX2_9.below hb10 (by omega)
      have hG_10 := hG_9.below hb10 (by omega)
      go_wp2_with fail
      refine (eqInt64S_true _ _ _ _ _ _ _ _ _ hX2_10.rd hC_10.rd hn2).mono ?_
      rintro e w11 ⟨rfl, hq11⟩
      have hz11 := hq11.le
      have hB11 : Below w.heap.size w w11 := (hB10).trans (hq11.below _)
      have hW_11 := hW_10.q hq11
      have hX1_11 := hX1_10.q hq11
      have hX2_11 := hX2_10.q hq11
      have hG_11 := hG_10.q hq11
      have hC_11 := hC_10.q hq11
      go_wp2_with fail
      refine (markInt64S_any _ _ _ _ _ 1 _ _ hX1_11 hn1 (by omega) (by omega)).mono ?_
      rintro e w12 ⟨rfl, hMX1, hm12⟩
      have hz12 := hm12.size
      have hB12 : Below w.heap.size w w12 := (hB11).trans (hm12.below (by omega) (by omega))
      have hW_12 := hW_11.only hm12 (by omega)
      have hX2_12 := hX2_11.only hm12 (by omega)
      have hG_12 := hG_11.only hm12 (by omega)
      go_wp2_with fail
      refine (markInt64S_any _ _ _ _ _ _ _ _ hX2_12 hn2 (by omega) (by omega)).mono ?_
      rintro e w13 ⟨rfl, hMX2, hm13⟩
      have hz13 := hm13.size
      have hB13 : Below w.heap.size w w13 := (hB12).trans (hm13.below (by omega) (by omega))
      have hW_13 := hW_12.only hm13 (by omega)
      have hX1_13 := hMX1.only hm13 (by omega)
      have hG_13 := hG_12.only hm13 (by omega)
      go_wp2_with fail
      refine (eqInt64S_true _ _ _ _ _ _ _ _ _ hG_13.rd hW_13.rd hnG).mono ?_
      rintro e w14 ⟨rfl, hq14⟩
      have hz14 := hq14.le
      have hB14 : Below w.heap.size w w14 := (hB13).trans (hq14.below _)
      have hW_14 := hW_13.q hq14
      have hG_14 := hG_13.q hq14
      go_wp2_with fail
      refine (markInt64S_any _ _ _ _ _ 1 _ _ hG_14 hnG (by omega) (by omega)).mono ?_
      rintro e w15 ⟨rfl, hMG, hm15⟩
      have hz15 := hm15.size
      have hB15 : Below w.heap.size w w15 := (hB14).trans (hm15.below (by omega) (by omega))
      have hW_15 := hW_14.only hm15 (by omega)
      go_wp2_with fail
      refine (heldInt64S_any _ _ _ _ 1 _ hMG.rd hnG (by omega) (by omega)).mono ?_
      rintro e _ ⟨rfl, rfl⟩
      go_wp2_with fail
      refine (toInt64S_any A1 n1 c1 w.heap.size l1 _ (h1.below (hB15) (Nat.le_refl _)) (by omega) hn1).mono ?_
      rintro e w16 ⟨gY1, rfl, hY1_16, hb16⟩
      have hz16 := hb16.size
      have hB16 : Below w.heap.size w w16 := (hB15).trans (hb16.mono (by omega))
      have hW_16 := hW_15.below hb16 (by omega)
      have hG_16 := hMG.below hb16 (by omega)
      go_wp2_with fail
      refine (toInt64S_any A2 n2 c2 w.heap.size l2 _ (h2.below (hB16) (Nat.le_refl _)) (by omega) hn2).mono ?_
      rintro e w17 ⟨gY2, rfl, hY2_17, hb17⟩
      have hz17 := hb17.size
      have hB17 : Below w.heap.size w w17 := (hB16).trans (hb17.mono (by omega))
      have hW_17 := hW_16.below hb17 (by omega)
      have hG_17 := hG_16.below hb17 (by omega)
      have hY1_17 := hY1_16.below hb17 (by omega)
      go_wp2_with fail
      refine (implGaOv_any a0 _ _ n1 n1 _ n2 n2 _ l1 l2 _ _ _ hY1_17.rd hY2_17.rd (by omega) (by omega) hn1 hn2 (Nat.le_refl _) (Nat.le_refl _) w0_ rfl rfl).mono ?_
      rintro e w18 ⟨AH, nH, cH, rfl, hH_18, hnH, hb18⟩
      have hz18 := hb18.size
      have hB18 : Below w.heap.size w w18 := (hB17).trans (hb18.mono (by omega))
      have hW_18 := hW_17.below hb18 (by omega)
      have hG_18 := hG_17.below hb18 (by omega)
      have hY1_18 := hY1_17.below hb18 (by omega)
      have hY2_18 := hY2_17.below hb18 (by omega)
      obtain rfl : nH = nG := hH_18.rd.1.symm.trans hW_18.rd.1
      go_wp2_with fail
      refine (eqInt64S_true _ _ _ _ _ _ _ _ _ hH_18.rd hW_18.rd hnG).mono ?_
      rintro e w19 ⟨rfl, hq19⟩
      have hz19 := hq19.le
      have hB19 : Below w.heap.size w w19 := (hB18).trans (hq19.below _)
      have hW_19 := hW_18.q hq19
      have hG_19 := hG_18.q hq19
      have hH_19 := hH_18.q hq19
      go_wp2_with fail
      refine (heldInt64S_any _ _ _ _ 1 _ hG_19.rd hnG (by omega) (by omega)).mono ?_
      rintro e _ ⟨rfl, rfl⟩
      go_wp2_with fail
      go_ret
      exact ⟨rfl, hB19⟩
    · have hn2_ : 1048576 < n2 := by omega
      go_enter Try.func7, Try.ntmps7
      go_wp2
      go_ret
      exact ⟨rfl, Below.refl _ _⟩
  · have hn1_ : 1048576 < n1 := by omega
    go_enter Try.func7, Try.ntmps7
    go_wp2
    go_ret
    exact ⟨rfl, Below.refl _ _⟩
end Go.Proofs.Ytilfmnffdloneaa
