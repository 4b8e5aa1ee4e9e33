/- The walk of the exact law of SchemesFor, out of the contracts. -/
import Derived.Test.YtgplciodddfpbaaFmSk
import Derived.Test.YtgplciodddfpbaaFmLaw
import Derived.Test.YtgplciodddfpbaaFoTx
import Derived.Deep.RegionHeld3
namespace Go.Proofs.Ytgplciodddfpbaa
open Go.RowKit

set_option maxRecDepth 100000 in
set_option maxHeartbeats 4000000 in
theorem w_FnExactSchemesFor (f : Fv) (F G H : List Int) (w : World) (h : RF w w.heap.size f F G H) (hnc : f.n1 ≤ 9223372036854775807 ∧ f.n2 ≤ 9223372036854775807 ∧ f.n3 ≤ 9223372036854775807) (hi : (i64s F ∧ i64s G) ∧ (-9223372036854775808 ≤ f.a ∧ f.a ≤ 9223372036854775807) ∧ -9223372036854775808 ≤ f.b ∧ f.b ≤ 9223372036854775807) :
    Calls Try.prog 8 #[f.v] w fun e w' => e = .returned (.bool true) ∧ Below w.heap.size w w' := by
  obtain ⟨a, b, A1, n1, c1, A2, n2, c2, A3, n3, c3⟩ := f
  obtain ⟨p1, p2, p3⟩ := hnc
  obtain ⟨⟨hi1, hi2⟩, _⟩ := hi
  simp only at p1 p2 p3 h
  have HIF := Lib.hid hi1
  have HIG := Lib.hid hi2
  clear hi1 hi2
  obtain ⟨C, h_C⟩ : ∃ v, Fm.sfC a b F G H = v := ⟨_, rfl⟩
  have H_C := Lib.hid h_C
  clear h_C
  obtain ⟨R, h_R⟩ : ∃ v, Fm.sfR a b F G H = v := ⟨_, rfl⟩
  have H_R := Lib.hid h_R
  clear h_R
  by_cases hn : (n1 : Int) + n2 + n3 ≤ 1048576
  · obtain ⟨q, hq⟩ : ∃ q, szR n1 n2 n3 = q := ⟨_, rfl⟩
    have hq0 : 0 ≤ q := by rw [← hq]; unfold szR; rw [if_pos hn]; omega
    have HQ := Lib.hid hq
    have HLE : Hid (n1 ≤ 1048576 ∧ n2 ≤ 1048576 ∧ n3 ≤ 1048576) := Lib.hid ⟨by omega, by omega, by omega⟩
    clear hq
    have bA_0 := Blk.new (w := w) (g := w.heap.size) (Fv.cs ⟨a, b, A1, n1, c1, A2, n2, c2, A3, n3, c3⟩) 51 rfl
    have hB_0 := below_alloc w (.cells (Fv.cs ⟨a, b, A1, n1, c1, A2, n2, c2, A3, n3, c3⟩) 51)
    go_enter Try.func8, Try.ntmps8
    go_wp2_with fail
    generalize hV0 : w.alloc (.cells (Fv.cs ⟨a, b, A1, n1, c1, A2, n2, c2, A3, n3, c3⟩) 51) = v0 at bA_0 hB_0 ⊢
    have hzv_0 : v0.heap.size = w.heap.size + 1 := by rw [← hV0]; simp
    clear hV0
    obtain ⟨q0_1, q1_1, q2_1, q3_1, q4_1⟩ := bA_0.lcell
    simp only at q0_1 q1_1 q2_1 q3_1 q4_1
    refine (szForm_any ⟨a, b, A1, n1, c1, A2, n2, c2, A3, n3, c3⟩ _ ⟨p1, p2, p3⟩ q HQ.out).mono ?_
    rintro e w1 ⟨rfl, hb1⟩
    have hz_1 := hb1.size
    have hB_2 : Below w.heap.size w w1 := (hB_0).trans (hb1.mono (by omega))
    have bA_3 := bA_0.below hb1 (by omega)
    obtain ⟨q0_4, q1_4, q2_4, q3_4, q4_4⟩ := bA_3.lcell
    simp only at q0_4 q1_4 q2_4 q3_4 q4_4
    clear q0_1 q1_1 q2_1 q3_1 q4_1
    go_wp2_with fail
    refine (toForm_any ⟨a, b, A1, n1, c1, A2, n2, c2, A3, n3, c3⟩ w.heap.size F G H _ (h.below (hB_2) (Nat.le_refl _)) (hB_2).size HLE.out).mono ?_
    rintro e w2 ⟨gS1, gS2, gS3, rfl, oS, hb2⟩
    simp only at oS
    have hz_2 := hb2.size
    have hB_5 : Below w.heap.size w w2 := (hB_2).trans (hb2.mono (by omega))
    have bA_6 := bA_3.below hb2 (by omega)
    obtain ⟨q0_7, q1_7, q2_7, q3_7, q4_7⟩ := bA_6.lcell
    simp only at q0_7 q1_7 q2_7 q3_7 q4_7
    clear q0_4 q1_4 q2_4 q3_4 q4_4
    go_wp2_with fail
    refine (specSf_v _ a b rfl rfl _ F G H C R H_C.out H_R.out _ oS.rf (Nat.le_refl _) HLE.out HIF.out HIG.out).mono ?_
    rintro e w3 ⟨AW, nW, cW, rfl, oW, hnW, hb3⟩
    have hz_3 := hb3.size
    have hB_8 : Below w.heap.size w w3 := (hB_5).trans (hb3.mono (by omega))
    have bA_9 := bA_6.below hb3 (by omega)
    have oS_10 := oS.below hb3 (by omega)
    obtain ⟨q0_11, q1_11, q2_11, q3_11, q4_11⟩ := bA_9.lcell
    simp only at q0_11 q1_11 q2_11 q3_11 q4_11
    clear q0_7 q1_7 q2_7 q3_7 q4_7
    go_wp2_with fail
    refine (toForm_any ⟨a, b, A1, n1, c1, A2, n2, c2, A3, n3, c3⟩ w.heap.size F G H _ (h.below (hB_8) (Nat.le_refl _)) (hB_8).size HLE.out).mono ?_
    rintro e w4 ⟨gX1, gX2, gX3, rfl, oX, hb4⟩
    simp only at oX
    have hz_4 := hb4.size
    have hB_12 : Below w.heap.size w w4 := (hB_8).trans (hb4.mono (by omega))
    have bA_13 := bA_9.below hb4 (by omega)
    have oW_14 := oW.below hb4 (by omega)
    obtain ⟨q0_15, q1_15, q2_15, q3_15, q4_15⟩ := bA_13.lcell
    simp only at q0_15 q1_15 q2_15 q3_15 q4_15
    clear q0_11 q1_11 q2_11 q3_11 q4_11
    have hz0_1 := (hB_12).size
    have bX_n := Blk.new (w := w4) (g := w4.heap.size) (Fv.cs ⟨a, b, some ⟨gX1, 0, none⟩, n1, n1, some ⟨gX2, 0, none⟩, n2, n2, some ⟨gX3, 0, none⟩, n3, n3⟩) 28 rfl
    have bA_16 := bA_13.alloc (.cells (Fv.cs ⟨a, b, some ⟨gX1, 0, none⟩, n1, n1, some ⟨gX2, 0, none⟩, n2, n2, some ⟨gX3, 0, none⟩, n3, n3⟩) 28)
    have oW_17 := oW_14.alloc (.cells (Fv.cs ⟨a, b, some ⟨gX1, 0, none⟩, n1, n1, some ⟨gX2, 0, none⟩, n2, n2, some ⟨gX3, 0, none⟩, n3, n3⟩) 28)
    have oX_18 := oX.alloc (.cells (Fv.cs ⟨a, b, some ⟨gX1, 0, none⟩, n1, n1, some ⟨gX2, 0, none⟩, n2, n2, some ⟨gX3, 0, none⟩, n3, n3⟩) 28)
    have hB_19 := (hB_12).alloc (by omega) (.cells (Fv.cs ⟨a, b, some ⟨gX1, 0, none⟩, n1, n1, some ⟨gX2, 0, none⟩, n2, n2, some ⟨gX3, 0, none⟩, n3, n3⟩) 28)
    go_wp2_with fail
    generalize hV1 : w4.alloc (.cells (Fv.cs ⟨a, b, some ⟨gX1, 0, none⟩, n1, n1, some ⟨gX2, 0, none⟩, n2, n2, some ⟨gX3, 0, none⟩, n3, n3⟩) 28) = v1 at bX_n bA_16 oW_17 oX_18 hB_19 ⊢
    have hzv_1 : v1.heap.size = w4.heap.size + 1 := by rw [← hV1]; simp
    clear hV1
    obtain ⟨q0_20, q1_20, q2_20, q3_20, q4_20⟩ := bA_16.lcell
    simp only at q0_20 q1_20 q2_20 q3_20 q4_20
    obtain ⟨q0_21, q1_21, q2_21, q3_21, q4_21⟩ := bX_n.lcell
    simp only at q0_21 q1_21 q2_21 q3_21 q4_21
    clear q0_15 q1_15 q2_15 q3_15 q4_15
    refine (implSf_v _ a b rfl rfl _ F G H C R H_C.out H_R.out _ oX_18.rf (by first | omega | simp) HLE.out HIF.out HIG.out).mono ?_
    rintro e w5 ⟨AG, nG, cG, rfl, oG, hnG, hb5⟩
    have hz_5 := hb5.size
    have hB_22 : Below w.heap.size w w5 := (hB_19).trans (hb5.mono (by omega))
    have bA_23 := bA_16.below hb5 (by omega)
    have oW_24 := oW_17.below hb5 (by omega)
    have oX_25 := oX_18.below hb5 (by omega)
    have bX_26 := bX_n.below hb5 (by omega)
    obtain ⟨q0_27, q1_27, q2_27, q3_27, q4_27⟩ := bA_23.lcell
    simp only at q0_27 q1_27 q2_27 q3_27 q4_27
    obtain ⟨q0_28, q1_28, q2_28, q3_28, q4_28⟩ := bX_26.lcell
    simp only at q0_28 q1_28 q2_28 q3_28 q4_28
    clear q0_20 q1_20 q2_20 q3_20 q4_20 q0_21 q1_21 q2_21 q3_21 q4_21
    obtain rfl : nG = nW := oG.rd.1.symm.trans oW_24.rd.1
    go_wp2_with fail
    refine (eqStringS_true _ _ _ _ _ _ _ _ _ oG.rd oW_24.rd (by omega)).mono ?_
    rintro e w6 ⟨rfl, hq6⟩
    have hz_6 := hq6.le
    have hB_29 : Below w.heap.size w w6 := (hB_22).trans (hq6.below _)
    have bA_30 := bA_23.q hq6
    have oW_31 := oW_24.q hq6
    have oX_32 := oX_25.q hq6
    have bX_33 := bX_26.q hq6
    have oG_34 := oG.q hq6
    obtain ⟨q0_35, q1_35, q2_35, q3_35, q4_35⟩ := bA_30.lcell
    simp only at q0_35 q1_35 q2_35 q3_35 q4_35
    obtain ⟨q0_36, q1_36, q2_36, q3_36, q4_36⟩ := bX_33.lcell
    simp only at q0_36 q1_36 q2_36 q3_36 q4_36
    clear q0_27 q1_27 q2_27 q3_27 q4_27 q0_28 q1_28 q2_28 q3_28 q4_28
    go_wp2_with fail
    go_region_held3 (fun W => W.cell? ⟨w.heap.size, 0, none⟩ = some (.int .i64 a) ∧ W.cell? ⟨w.heap.size, 1, none⟩ = some (.int .i64 b) ∧ W.cell? ⟨w.heap.size, 2, none⟩ = some (.slice A1 n1 c1) ∧ W.cell? ⟨w.heap.size, 3, none⟩ = some (.slice A2 n2 c2) ∧ W.cell? ⟨w.heap.size, 4, none⟩ = some (.slice A3 n3 c3) ∧ W.cell? ⟨w4.heap.size, 0, none⟩ = some (.int .i64 a) ∧ W.cell? ⟨w4.heap.size, 1, none⟩ = some (.int .i64 b) ∧ W.cell? ⟨w4.heap.size, 2, none⟩ = some (.slice (some ⟨gX1, 0, none⟩) n1 n1) ∧ W.cell? ⟨w4.heap.size, 3, none⟩ = some (.slice (some ⟨gX2, 0, none⟩) n2 n2) ∧ W.cell? ⟨w4.heap.size, 4, none⟩ = some (.slice (some ⟨gX3, 0, none⟩) n3 n3))
      (first | go_keep | (refine ⟨?_, ?_, ?_, ?_, ?_, ?_, ?_, ?_, ?_, ?_⟩ <;> (first | go_keep | (rw [hbk.cell (by first | omega | (simp; omega))]; first | assumption | go_keep))))
      (first
        | (go_at_call 37; refine (toForm_any ⟨a, b, A1, n1, c1, A2, n2, c2, A3, n3, c3⟩ w.heap.size F G H _ ((h.below (hB_29) (Nat.le_refl _)).drewN 1) (by have := (hB_29).size; simpa using this) HLE.out).mono ?_; rintro e wa ⟨gC1, gC2, gC3, rfl, oC, hbk⟩; have hzk : w6.heap.size ≤ wa.heap.size := hbk.size; have hbk5 := hbk)
        | (go_at_call 38; refine (eqForm_true ⟨a, b, some ⟨gX1, 0, none⟩, n1, n1, some ⟨gX2, 0, none⟩, n2, n2, some ⟨gX3, 0, none⟩, n3, n3⟩ ⟨a, b, some ⟨gC1, 0, none⟩, n1, n1, some ⟨gC2, 0, none⟩, n2, n2, some ⟨gC3, 0, none⟩, n3, n3⟩ rfl rfl _ _ F G H _ ((oX_32.rf.drewN 1).below hbk (by first | omega | (simp; omega))) oC.rf (by first | omega | (simp; omega)) (Nat.le_refl _) HLE.out).mono ?_; rintro e w7 ⟨rfl, hbk⟩))
    have hb7 : Below w6.heap.size w6 w7 := (below_drewN' (Below.refl _ _) 1).trans (hbk5.trans (hbk.mono hbk5.size))
    have hz_7 := hb7.size
    have hB_37 : Below w.heap.size w w7 := (hB_29).trans (hb7.mono (by omega))
    have bA_38 := bA_30.below hb7 (by omega)
    have oW_39 := oW_31.below hb7 (by omega)
    have oX_40 := oX_32.below hb7 (by omega)
    have bX_41 := bX_33.below hb7 (by omega)
    have oG_42 := oG_34.below hb7 (by omega)
    obtain ⟨q0_43, q1_43, q2_43, q3_43, q4_43⟩ := bA_38.lcell
    simp only at q0_43 q1_43 q2_43 q3_43 q4_43
    obtain ⟨q0_44, q1_44, q2_44, q3_44, q4_44⟩ := bX_41.lcell
    simp only at q0_44 q1_44 q2_44 q3_44 q4_44
    clear q0_35 q1_35 q2_35 q3_35 q4_35 q0_36 q1_36 q2_36 q3_36 q4_36
    go_wp2_with fail
    refine (markForm_any ⟨a, b, some ⟨gX1, 0, none⟩, n1, n1, some ⟨gX2, 0, none⟩, n2, n2, some ⟨gX3, 0, none⟩, n3, n3⟩ _ _ 1 F G H _ oX_40 (by omega) HLE.out (by omega) (by omega)).mono ?_
    rintro e w8 ⟨rfl, hMX, hm8⟩
    have hz_8 := hm8.size
    have hB_45 : Below w.heap.size w w8 := (hB_37).trans (hm8.below (by omega) (by omega))
    have bA_46 := bA_38.only hm8 (by omega)
    have oW_47 := oW_39.only hm8 (by omega)
    have bX_48 := bX_41.only hm8 (by omega)
    have oG_49 := oG_42.only hm8 (by omega)
    obtain ⟨q0_50, q1_50, q2_50, q3_50, q4_50⟩ := bA_46.lcell
    simp only at q0_50 q1_50 q2_50 q3_50 q4_50
    clear q0_43 q1_43 q2_43 q3_43 q4_43 q0_44 q1_44 q2_44 q3_44 q4_44
    go_wp2_with fail
    refine (eqStringS_true _ _ _ _ _ _ _ _ _ oG_49.rd oW_47.rd (by omega)).mono ?_
    rintro e w9 ⟨rfl, hq9⟩
    have hz_9 := hq9.le
    have hB_51 : Below w.heap.size w w9 := (hB_45).trans (hq9.below _)
    have bA_52 := bA_46.q hq9
    have oW_53 := oW_47.q hq9
    have oG_54 := oG_49.q hq9
    obtain ⟨q0_55, q1_55, q2_55, q3_55, q4_55⟩ := bA_52.lcell
    simp only at q0_55 q1_55 q2_55 q3_55 q4_55
    clear q0_50 q1_50 q2_50 q3_50 q4_50
    go_wp2_with fail
    refine (markStringS_any _ _ _ _ _ 1 _ _ oG_54 (by omega) (by omega) (by omega) (by omega)).mono ?_
    rintro e w10 ⟨rfl, hMG, hm10⟩
    have hz_10 := hm10.size
    have hB_56 : Below w.heap.size w w10 := (hB_51).trans (hm10.below (by omega) (by omega))
    have bA_57 := bA_52.only hm10 (by omega)
    have oW_58 := oW_53.only hm10 (by omega)
    obtain ⟨q0_59, q1_59, q2_59, q3_59, q4_59⟩ := bA_57.lcell
    simp only at q0_59 q1_59 q2_59 q3_59 q4_59
    clear q0_55 q1_55 q2_55 q3_55 q4_55
    go_wp2_with fail
    refine (heldStringS_any _ _ _ _ 1 _ hMG.rd (by omega) (by omega) (by omega) (by omega)).mono ?_
    rintro e w11 ⟨rfl, hb11⟩
    have hz_11 := hb11.size
    have hB_60 : Below w.heap.size w w11 := (hB_56).trans (hb11.mono (by omega))
    have bA_61 := bA_57.below hb11 (by omega)
    have oW_62 := oW_58.below hb11 (by omega)
    have oG_63 := hMG.below hb11 (by omega)
    obtain ⟨q0_64, q1_64, q2_64, q3_64, q4_64⟩ := bA_61.lcell
    simp only at q0_64 q1_64 q2_64 q3_64 q4_64
    clear q0_59 q1_59 q2_59 q3_59 q4_59
    go_wp2_with fail
    refine (toForm_any ⟨a, b, A1, n1, c1, A2, n2, c2, A3, n3, c3⟩ w.heap.size F G H _ (h.below (hB_60) (Nat.le_refl _)) (hB_60).size HLE.out).mono ?_
    rintro e w12 ⟨gY1, gY2, gY3, rfl, oY, hb12⟩
    simp only at oY
    have hz_12 := hb12.size
    have hB_65 : Below w.heap.size w w12 := (hB_60).trans (hb12.mono (by omega))
    have bA_66 := bA_61.below hb12 (by omega)
    have oW_67 := oW_62.below hb12 (by omega)
    have oG_68 := oG_63.below hb12 (by omega)
    obtain ⟨q0_69, q1_69, q2_69, q3_69, q4_69⟩ := bA_66.lcell
    simp only at q0_69 q1_69 q2_69 q3_69 q4_69
    clear q0_64 q1_64 q2_64 q3_64 q4_64
    go_wp2_with fail
    refine (implSf_v _ a b rfl rfl _ F G H C R H_C.out H_R.out _ oY.rf (by first | omega | simp) HLE.out HIF.out HIG.out).mono ?_
    rintro e w13 ⟨AH, nH, cH, rfl, oH, hnH, hb13⟩
    have hz_13 := hb13.size
    have hB_70 : Below w.heap.size w w13 := (hB_65).trans (hb13.mono (by omega))
    have bA_71 := bA_66.below hb13 (by omega)
    have oW_72 := oW_67.below hb13 (by omega)
    have oG_73 := oG_68.below hb13 (by omega)
    have oY_74 := oY.below hb13 (by omega)
    obtain ⟨q0_75, q1_75, q2_75, q3_75, q4_75⟩ := bA_71.lcell
    simp only at q0_75 q1_75 q2_75 q3_75 q4_75
    clear q0_69 q1_69 q2_69 q3_69 q4_69
    obtain rfl : nH = nG := oH.rd.1.symm.trans oW_72.rd.1
    go_wp2_with fail
    refine (eqStringS_true _ _ _ _ _ _ _ _ _ oH.rd oW_72.rd (by omega)).mono ?_
    rintro e w14 ⟨rfl, hq14⟩
    have hz_14 := hq14.le
    have hB_76 : Below w.heap.size w w14 := (hB_70).trans (hq14.below _)
    have bA_77 := bA_71.q hq14
    have oW_78 := oW_72.q hq14
    have oG_79 := oG_73.q hq14
    have oH_80 := oH.q hq14
    obtain ⟨q0_81, q1_81, q2_81, q3_81, q4_81⟩ := bA_77.lcell
    simp only at q0_81 q1_81 q2_81 q3_81 q4_81
    clear q0_75 q1_75 q2_75 q3_75 q4_75
    go_wp2_with fail
    refine (heldStringS_any _ _ _ _ 1 _ oG_79.rd (by omega) (by omega) (by omega) (by omega)).mono ?_
    rintro e w15 ⟨rfl, hb15⟩
    have hz_15 := hb15.size
    have hB_82 : Below w.heap.size w w15 := (hB_76).trans (hb15.mono (by omega))
    have bA_83 := bA_77.below hb15 (by omega)
    have oW_84 := oW_78.below hb15 (by omega)
    have oG_85 := oG_79.below hb15 (by omega)
    have oH_86 := oH_80.below hb15 (by omega)
    obtain ⟨q0_87, q1_87, q2_87, q3_87, q4_87⟩ := bA_83.lcell
    simp only at q0_87 q1_87 q2_87 q3_87 q4_87
    clear q0_81 q1_81 q2_81 q3_81 q4_81
    go_wp2_with fail
    go_ret
    exact ⟨rfl, hB_82⟩
  · have HQ : Hid (szR n1 n2 n3 = -1) := Lib.hid (by unfold szR; rw [if_neg hn])
    have hB_0 := below_alloc w (.cells (Fv.cs ⟨a, b, A1, n1, c1, A2, n2, c2, A3, n3, c3⟩) 51)
    go_enter Try.func8, Try.ntmps8
    go_wp2_with fail
    refine (szForm_any ⟨a, b, A1, n1, c1, A2, n2, c2, A3, n3, c3⟩ _ ⟨p1, p2, p3⟩ (-1) HQ.out).mono ?_
    rintro e w1 ⟨rfl, hb1⟩
    have hB_1 := hB_0.trans (hb1.mono hB_0.size)
    go_wp2_with fail
    go_ret
    exact ⟨rfl, hB_1⟩
end Go.Proofs.Ytgplciodddfpbaa
