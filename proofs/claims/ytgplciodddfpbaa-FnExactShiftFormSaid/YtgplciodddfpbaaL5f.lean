/- The walk of the exact law of ShiftForm, out of the contracts. -/
import Derived.Test.YtgplciodddfpbaaFmSi
import Derived.Test.YtgplciodddfpbaaFmLaw
import Derived.Deep.RegionHeld3
namespace Go.Proofs.Ytgplciodddfpbaa
open Go.RowKit

set_option maxRecDepth 100000 in
set_option maxHeartbeats 4000000 in
theorem w_FnExactShiftForm (f : Fv) (F G H : List Int) (a0 : Int) (w : World) (h : RF w w.heap.size f F G H) (hnc : f.n1 ≤ 9223372036854775807 ∧ f.n2 ≤ 9223372036854775807 ∧ f.n3 ≤ 9223372036854775807) (hi : (i64s F ∧ i64s G) ∧ (-9223372036854775808 ≤ f.a ∧ f.a ≤ 9223372036854775807) ∧ -9223372036854775808 ≤ f.b ∧ f.b ≤ 9223372036854775807) (_w0 : -9223372036854775808 ≤ a0 ∧ a0 ≤ 9223372036854775807) :
    Calls Try.prog 6 #[f.v, .int .i64 a0] w fun e w' => e = .returned (.bool true) ∧ Below w.heap.size w w' := by
  obtain ⟨a, b, A1, n1, c1, A2, n2, c2, A3, n3, c3⟩ := f
  obtain ⟨p1, p2, p3⟩ := hnc
  obtain ⟨⟨hi1, hi2⟩, _⟩ := hi
  simp only at p1 p2 p3 h
  have HIF := Lib.hid hi1
  have HIG := Lib.hid hi2
  clear hi1 hi2
  obtain ⟨u0, u1, L1, L2, L3, C, h_v⟩ : ∃ u0 u1 L1 L2 L3 C, Fm.shR a b F G H a0 = (u0, u1, L1, L2, L3, C) := ⟨_, _, _, _, _, _,  rfl⟩
  have H_v := Lib.hid h_v
  clear h_v
  by_cases hn : (n1 : Int) + n2 + n3 ≤ 1048576
  · obtain ⟨q, hq⟩ : ∃ q, szR n1 n2 n3 = q := ⟨_, rfl⟩
    have hq0 : 0 ≤ q := by rw [← hq]; unfold szR; rw [if_pos hn]; omega
    have HQ := Lib.hid hq
    have HLE : Hid (n1 ≤ 1048576 ∧ n2 ≤ 1048576 ∧ n3 ≤ 1048576) := Lib.hid ⟨by omega, by omega, by omega⟩
    clear hq
    have bA_0 := Blk.new (w := w) (g := w.heap.size) (Fv.cs ⟨a, b, A1, n1, c1, A2, n2, c2, A3, n3, c3⟩) 51 rfl
    have hB_0 := below_alloc w (.cells (Fv.cs ⟨a, b, A1, n1, c1, A2, n2, c2, A3, n3, c3⟩) 51)
    go_enter Try.func6, Try.ntmps6
    go_wp2_with fail
    generalize hV0 : w.alloc (.cells (Fv.cs ⟨a, b, A1, n1, c1, A2, n2, c2, A3, n3, c3⟩) 51) = v0 at bA_0 hB_0 ⊢
    have hzv_0 : v0.heap.size = w.heap.size + 1 := by rw [← hV0]; simp
    clear hV0
    obtain ⟨q0_1, q1_1, q2_1, q3_1, q4_1⟩ := bA_0.lcell
    simp only at q0_1 q1_1 q2_1 q3_1 q4_1
    refine (szForm_any ⟨a, b, A1, n1, c1, A2, n2, c2, A3, n3, c3⟩ _ ⟨p1, p2, p3⟩ q HQ.out).mono ?_
    rintro e w1 ⟨rfl, hb1⟩
    have hz_1 := hb1.size
    have hB_2 : Below w.heap.size w w1 := (hB_0).trans (hb1.mono (by omega))
    have bA_3 := bA_0.below hb1 (by omega)
    obtain ⟨q0_4, q1_4, q2_4, q3_4, q4_4⟩ := bA_3.lcell
    simp only at q0_4 q1_4 q2_4 q3_4 q4_4
    clear q0_1 q1_1 q2_1 q3_1 q4_1
    go_wp2_with fail
    refine (toForm_any ⟨a, b, A1, n1, c1, A2, n2, c2, A3, n3, c3⟩ w.heap.size F G H _ (h.below (hB_2) (Nat.le_refl _)) (hB_2).size HLE.out).mono ?_
    rintro e w2 ⟨gS1, gS2, gS3, rfl, oS, hb2⟩
    simp only at oS
    have hz_2 := hb2.size
    have hB_5 : Below w.heap.size w w2 := (hB_2).trans (hb2.mono (by omega))
    have bA_6 := bA_3.below hb2 (by omega)
    obtain ⟨q0_7, q1_7, q2_7, q3_7, q4_7⟩ := bA_6.lcell
    simp only at q0_7 q1_7 q2_7 q3_7 q4_7
    clear q0_4 q1_4 q2_4 q3_4 q4_4
    go_wp2_with fail
    refine (specSh_any _ a b rfl rfl _ F G H a0 u0 u1 C L1 L2 L3 H_v.out _ oS.rf (Nat.le_refl _) HLE.out HIF.out HIG.out).mono ?_
    rintro e w3 ⟨fW, ⟨eaW, ebW⟩, rfl, oW, leW, hb3⟩
    have EAW := Lib.hid eaW
    have EBW := Lib.hid ebW
    clear eaW ebW
    have hz_3 := hb3.size
    have hB_8 : Below w.heap.size w w3 := (hB_5).trans (hb3.mono (by omega))
    have bA_9 := bA_6.below hb3 (by omega)
    have oS_10 := oS.below hb3 (by omega)
    obtain ⟨q0_11, q1_11, q2_11, q3_11, q4_11⟩ := bA_9.lcell
    simp only at q0_11 q1_11 q2_11 q3_11 q4_11
    clear q0_7 q1_7 q2_7 q3_7 q4_7
    have hz0_1 := (hB_8).size
    have bW_n := Blk.new (w := w3) (g := w3.heap.size) (Fv.cs fW) 28 rfl
    have bA_12 := bA_9.alloc (.cells (Fv.cs fW) 28)
    have oW_13 := oW.alloc (.cells (Fv.cs fW) 28)
    have hB_14 := (hB_8).alloc (by omega) (.cells (Fv.cs fW) 28)
    obtain ⟨q0_15, q1_15, q2_15, q3_15, q4_15⟩ := bA_12.lcell
    simp only at q0_15 q1_15 q2_15 q3_15 q4_15
    obtain ⟨q0_16, q1_16, q2_16, q3_16, q4_16⟩ := bW_n.lcell
    clear q0_11 q1_11 q2_11 q3_11 q4_11
    go_wp2_with fail
    generalize hV1 : w3.alloc (.cells (Fv.cs fW) 28) = v1 at bW_n bA_12 oW_13 hB_14 q0_15 q1_15 q2_15 q3_15 q4_15 q0_16 q1_16 q2_16 q3_16 q4_16 ⊢
    have hzv_1 : v1.heap.size = w3.heap.size + 1 := by rw [← hV1]; simp
    clear hV1
    refine (toForm_any ⟨a, b, A1, n1, c1, A2, n2, c2, A3, n3, c3⟩ w.heap.size F G H _ (h.below (hB_14) (Nat.le_refl _)) (hB_14).size HLE.out).mono ?_
    rintro e w4 ⟨gX1, gX2, gX3, rfl, oX, hb4⟩
    simp only at oX
    have hz_4 := hb4.size
    have hB_17 : Below w.heap.size w w4 := (hB_14).trans (hb4.mono (by omega))
    have bA_18 := bA_12.below hb4 (by omega)
    have oW_19 := oW_13.below hb4 (by omega)
    have bW_20 := bW_n.below hb4 (by omega)
    obtain ⟨q0_21, q1_21, q2_21, q3_21, q4_21⟩ := bA_18.lcell
    simp only at q0_21 q1_21 q2_21 q3_21 q4_21
    obtain ⟨q0_22, q1_22, q2_22, q3_22, q4_22⟩ := bW_20.lcell
    clear q0_15 q1_15 q2_15 q3_15 q4_15 q0_16 q1_16 q2_16 q3_16 q4_16
    have hz0_2 := (hB_17).size
    have bX_n := Blk.new (w := w4) (g := w4.heap.size) (Fv.cs ⟨a, b, some ⟨gX1, 0, none⟩, n1, n1, some ⟨gX2, 0, none⟩, n2, n2, some ⟨gX3, 0, none⟩, n3, n3⟩) 28 rfl
    have bA_23 := bA_18.alloc (.cells (Fv.cs ⟨a, b, some ⟨gX1, 0, none⟩, n1, n1, some ⟨gX2, 0, none⟩, n2, n2, some ⟨gX3, 0, none⟩, n3, n3⟩) 28)
    have oW_24 := oW_19.alloc (.cells (Fv.cs ⟨a, b, some ⟨gX1, 0, none⟩, n1, n1, some ⟨gX2, 0, none⟩, n2, n2, some ⟨gX3, 0, none⟩, n3, n3⟩) 28)
    have bW_25 := bW_20.alloc (.cells (Fv.cs ⟨a, b, some ⟨gX1, 0, none⟩, n1, n1, some ⟨gX2, 0, none⟩, n2, n2, some ⟨gX3, 0, none⟩, n3, n3⟩) 28)
    have oX_26 := oX.alloc (.cells (Fv.cs ⟨a, b, some ⟨gX1, 0, none⟩, n1, n1, some ⟨gX2, 0, none⟩, n2, n2, some ⟨gX3, 0, none⟩, n3, n3⟩) 28)
    have hB_27 := (hB_17).alloc (by omega) (.cells (Fv.cs ⟨a, b, some ⟨gX1, 0, none⟩, n1, n1, some ⟨gX2, 0, none⟩, n2, n2, some ⟨gX3, 0, none⟩, n3, n3⟩) 28)
    obtain ⟨q0_28, q1_28, q2_28, q3_28, q4_28⟩ := bA_23.lcell
    simp only at q0_28 q1_28 q2_28 q3_28 q4_28
    obtain ⟨q0_29, q1_29, q2_29, q3_29, q4_29⟩ := bW_25.lcell
    obtain ⟨q0_30, q1_30, q2_30, q3_30, q4_30⟩ := bX_n.lcell
    simp only at q0_30 q1_30 q2_30 q3_30 q4_30
    clear q0_21 q1_21 q2_21 q3_21 q4_21 q0_22 q1_22 q2_22 q3_22 q4_22
    go_wp2_with fail
    generalize hV2 : w4.alloc (.cells (Fv.cs ⟨a, b, some ⟨gX1, 0, none⟩, n1, n1, some ⟨gX2, 0, none⟩, n2, n2, some ⟨gX3, 0, none⟩, n3, n3⟩) 28) = v2 at bX_n bA_23 oW_24 bW_25 oX_26 hB_27 q0_28 q1_28 q2_28 q3_28 q4_28 q0_29 q1_29 q2_29 q3_29 q4_29 q0_30 q1_30 q2_30 q3_30 q4_30 ⊢
    have hzv_2 : v2.heap.size = w4.heap.size + 1 := by rw [← hV2]; simp
    clear hV2
    refine (implSh_any _ a b rfl rfl _ F G H a0 u0 u1 C L1 L2 L3 H_v.out _ oX_26.rf (by first | omega | simp) HLE.out HIF.out HIG.out).mono ?_
    rintro e w5 ⟨fG, ⟨eaG, ebG⟩, rfl, oG, leG, hb5⟩
    have EAG := Lib.hid eaG
    have EBG := Lib.hid ebG
    clear eaG ebG
    have hz_5 := hb5.size
    have hB_31 : Below w.heap.size w w5 := (hB_27).trans (hb5.mono (by omega))
    have bA_32 := bA_23.below hb5 (by omega)
    have oW_33 := oW_24.below hb5 (by omega)
    have bW_34 := bW_25.below hb5 (by omega)
    have oX_35 := oX_26.below hb5 (by omega)
    have bX_36 := bX_n.below hb5 (by omega)
    obtain ⟨q0_37, q1_37, q2_37, q3_37, q4_37⟩ := bA_32.lcell
    simp only at q0_37 q1_37 q2_37 q3_37 q4_37
    obtain ⟨q0_38, q1_38, q2_38, q3_38, q4_38⟩ := bW_34.lcell
    obtain ⟨q0_39, q1_39, q2_39, q3_39, q4_39⟩ := bX_36.lcell
    simp only at q0_39 q1_39 q2_39 q3_39 q4_39
    clear q0_28 q1_28 q2_28 q3_28 q4_28 q0_29 q1_29 q2_29 q3_29 q4_29 q0_30 q1_30 q2_30 q3_30 q4_30
    have hz0_3 := (hB_31).size
    have bG_n := Blk.new (w := w5) (g := w5.heap.size) (Fv.cs fG) 28 rfl
    have bA_40 := bA_32.alloc (.cells (Fv.cs fG) 28)
    have oW_41 := oW_33.alloc (.cells (Fv.cs fG) 28)
    have bW_42 := bW_34.alloc (.cells (Fv.cs fG) 28)
    have oX_43 := oX_35.alloc (.cells (Fv.cs fG) 28)
    have bX_44 := bX_36.alloc (.cells (Fv.cs fG) 28)
    have oG_45 := oG.alloc (.cells (Fv.cs fG) 28)
    have hB_46 := (hB_31).alloc (by omega) (.cells (Fv.cs fG) 28)
    obtain ⟨q0_47, q1_47, q2_47, q3_47, q4_47⟩ := bA_40.lcell
    simp only at q0_47 q1_47 q2_47 q3_47 q4_47
    obtain ⟨q0_48, q1_48, q2_48, q3_48, q4_48⟩ := bW_42.lcell
    obtain ⟨q0_49, q1_49, q2_49, q3_49, q4_49⟩ := bX_44.lcell
    simp only at q0_49 q1_49 q2_49 q3_49 q4_49
    obtain ⟨q0_50, q1_50, q2_50, q3_50, q4_50⟩ := bG_n.lcell
    clear q0_37 q1_37 q2_37 q3_37 q4_37 q0_38 q1_38 q2_38 q3_38 q4_38 q0_39 q1_39 q2_39 q3_39 q4_39
    go_wp2_with fail
    generalize hV3 : w5.alloc (.cells (Fv.cs fG) 28) = v3 at bG_n bA_40 oW_41 bW_42 oX_43 bX_44 oG_45 hB_46 q0_47 q1_47 q2_47 q3_47 q4_47 q0_48 q1_48 q2_48 q3_48 q4_48 q0_49 q1_49 q2_49 q3_49 q4_49 q0_50 q1_50 q2_50 q3_50 q4_50 ⊢
    have hzv_3 : v3.heap.size = w5.heap.size + 1 := by rw [← hV3]; simp
    clear hV3
    refine (eqForm_true fG fW (by rw [EAW.out, EAG.out]) (by rw [EBW.out, EBG.out]) _ _ _ _ _ _ oG_45.rf oW_41.rf (by omega) (by omega) (leG.trans_ (by omega))).mono ?_
    rintro e w6 ⟨rfl, hb6⟩
    have hz_6 := hb6.size
    have hB_51 : Below w.heap.size w w6 := (hB_46).trans (hb6.mono (by omega))
    have bA_52 := bA_40.below hb6 (by omega)
    have oW_53 := oW_41.below hb6 (by omega)
    have bW_54 := bW_42.below hb6 (by omega)
    have oX_55 := oX_43.below hb6 (by omega)
    have bX_56 := bX_44.below hb6 (by omega)
    have oG_57 := oG_45.below hb6 (by omega)
    have bG_58 := bG_n.below hb6 (by omega)
    obtain ⟨q0_59, q1_59, q2_59, q3_59, q4_59⟩ := bA_52.lcell
    simp only at q0_59 q1_59 q2_59 q3_59 q4_59
    obtain ⟨q0_60, q1_60, q2_60, q3_60, q4_60⟩ := bW_54.lcell
    obtain ⟨q0_61, q1_61, q2_61, q3_61, q4_61⟩ := bX_56.lcell
    simp only at q0_61 q1_61 q2_61 q3_61 q4_61
    obtain ⟨q0_62, q1_62, q2_62, q3_62, q4_62⟩ := bG_58.lcell
    clear q0_47 q1_47 q2_47 q3_47 q4_47 q0_48 q1_48 q2_48 q3_48 q4_48 q0_49 q1_49 q2_49 q3_49 q4_49 q0_50 q1_50 q2_50 q3_50 q4_50
    go_wp2_with fail
    go_region_held3 (fun W => W.cell? ⟨w.heap.size, 0, none⟩ = some (.int .i64 a) ∧ W.cell? ⟨w.heap.size, 1, none⟩ = some (.int .i64 b) ∧ W.cell? ⟨w.heap.size, 2, none⟩ = some (.slice A1 n1 c1) ∧ W.cell? ⟨w.heap.size, 3, none⟩ = some (.slice A2 n2 c2) ∧ W.cell? ⟨w.heap.size, 4, none⟩ = some (.slice A3 n3 c3) ∧ W.cell? ⟨w4.heap.size, 0, none⟩ = some (.int .i64 a) ∧ W.cell? ⟨w4.heap.size, 1, none⟩ = some (.int .i64 b) ∧ W.cell? ⟨w4.heap.size, 2, none⟩ = some (.slice (some ⟨gX1, 0, none⟩) n1 n1) ∧ W.cell? ⟨w4.heap.size, 3, none⟩ = some (.slice (some ⟨gX2, 0, none⟩) n2 n2) ∧ W.cell? ⟨w4.heap.size, 4, none⟩ = some (.slice (some ⟨gX3, 0, none⟩) n3 n3))
      (first | go_keep | (refine ⟨?_, ?_, ?_, ?_, ?_, ?_, ?_, ?_, ?_, ?_⟩ <;> (first | go_keep | (rw [hbk.cell (by first | omega | (simp; omega))]; first | assumption | go_keep))))
      (first
        | (go_at_call 37; refine (toForm_any ⟨a, b, A1, n1, c1, A2, n2, c2, A3, n3, c3⟩ w.heap.size F G H _ ((h.below (hB_51) (Nat.le_refl _)).drewN 1) (by have := (hB_51).size; simpa using this) HLE.out).mono ?_; rintro e wa ⟨gC1, gC2, gC3, rfl, oC, hbk⟩; have hzk : w6.heap.size ≤ wa.heap.size := hbk.size; have hbk5 := hbk)
        | (go_at_call 38; refine (eqForm_true ⟨a, b, some ⟨gX1, 0, none⟩, n1, n1, some ⟨gX2, 0, none⟩, n2, n2, some ⟨gX3, 0, none⟩, n3, n3⟩ ⟨a, b, some ⟨gC1, 0, none⟩, n1, n1, some ⟨gC2, 0, none⟩, n2, n2, some ⟨gC3, 0, none⟩, n3, n3⟩ rfl rfl _ _ F G H _ ((oX_55.rf.drewN 1).below hbk (by first | omega | (simp; omega))) oC.rf (by first | omega | (simp; omega)) (Nat.le_refl _) HLE.out).mono ?_; rintro e w7 ⟨rfl, hbk⟩))
    have hb7 : Below w6.heap.size w6 w7 := (below_drewN' (Below.refl _ _) 1).trans (hbk5.trans (hbk.mono hbk5.size))
    have hz_7 := hb7.size
    have hB_63 : Below w.heap.size w w7 := (hB_51).trans (hb7.mono (by omega))
    have bA_64 := bA_52.below hb7 (by omega)
    have oW_65 := oW_53.below hb7 (by omega)
    have bW_66 := bW_54.below hb7 (by omega)
    have oX_67 := oX_55.below hb7 (by omega)
    have bX_68 := bX_56.below hb7 (by omega)
    have oG_69 := oG_57.below hb7 (by omega)
    have bG_70 := bG_58.below hb7 (by omega)
    obtain ⟨q0_71, q1_71, q2_71, q3_71, q4_71⟩ := bA_64.lcell
    simp only at q0_71 q1_71 q2_71 q3_71 q4_71
    obtain ⟨q0_72, q1_72, q2_72, q3_72, q4_72⟩ := bW_66.lcell
    obtain ⟨q0_73, q1_73, q2_73, q3_73, q4_73⟩ := bX_68.lcell
    simp only at q0_73 q1_73 q2_73 q3_73 q4_73
    obtain ⟨q0_74, q1_74, q2_74, q3_74, q4_74⟩ := bG_70.lcell
    clear q0_59 q1_59 q2_59 q3_59 q4_59 q0_60 q1_60 q2_60 q3_60 q4_60 q0_61 q1_61 q2_61 q3_61 q4_61 q0_62 q1_62 q2_62 q3_62 q4_62
    go_wp2_with fail
    refine (markForm_any ⟨a, b, some ⟨gX1, 0, none⟩, n1, n1, some ⟨gX2, 0, none⟩, n2, n2, some ⟨gX3, 0, none⟩, n3, n3⟩ _ _ 1 F G H _ oX_67 (by omega) HLE.out (by omega) (by omega)).mono ?_
    rintro e w8 ⟨rfl, hMX, hm8⟩
    have hz_8 := hm8.size
    have hB_75 : Below w.heap.size w w8 := (hB_63).trans (hm8.below (by omega) (by omega))
    have bA_76 := bA_64.only hm8 (by omega)
    have oW_77 := oW_65.only hm8 (by omega)
    have bW_78 := bW_66.only hm8 (by omega)
    have bX_79 := bX_68.only hm8 (by omega)
    have oG_80 := oG_69.only hm8 (by omega)
    have bG_81 := bG_70.only hm8 (by omega)
    obtain ⟨q0_82, q1_82, q2_82, q3_82, q4_82⟩ := bA_76.lcell
    simp only at q0_82 q1_82 q2_82 q3_82 q4_82
    obtain ⟨q0_83, q1_83, q2_83, q3_83, q4_83⟩ := bW_78.lcell
    obtain ⟨q0_84, q1_84, q2_84, q3_84, q4_84⟩ := bG_81.lcell
    clear q0_71 q1_71 q2_71 q3_71 q4_71 q0_72 q1_72 q2_72 q3_72 q4_72 q0_73 q1_73 q2_73 q3_73 q4_73 q0_74 q1_74 q2_74 q3_74 q4_74
    go_wp2_with fail
    refine (eqForm_true fG fW (by rw [EAW.out, EAG.out]) (by rw [EBW.out, EBG.out]) _ _ _ _ _ _ oG_80.rf oW_77.rf (by omega) (by omega) (leG.trans_ (by omega))).mono ?_
    rintro e w9 ⟨rfl, hb9⟩
    have hz_9 := hb9.size
    have hB_85 : Below w.heap.size w w9 := (hB_75).trans (hb9.mono (by omega))
    have bA_86 := bA_76.below hb9 (by omega)
    have oW_87 := oW_77.below hb9 (by omega)
    have bW_88 := bW_78.below hb9 (by omega)
    have oG_89 := oG_80.below hb9 (by omega)
    have bG_90 := bG_81.below hb9 (by omega)
    obtain ⟨q0_91, q1_91, q2_91, q3_91, q4_91⟩ := bA_86.lcell
    simp only at q0_91 q1_91 q2_91 q3_91 q4_91
    obtain ⟨q0_92, q1_92, q2_92, q3_92, q4_92⟩ := bW_88.lcell
    obtain ⟨q0_93, q1_93, q2_93, q3_93, q4_93⟩ := bG_90.lcell
    clear q0_82 q1_82 q2_82 q3_82 q4_82 q0_83 q1_83 q2_83 q3_83 q4_83 q0_84 q1_84 q2_84 q3_84 q4_84
    go_wp2_with fail
    refine (markForm_any fG _ _ 1 _ _ _ _ oG_89 (by omega) (leG.trans_ (by omega)) (by omega) (by omega)).mono ?_
    rintro e w10 ⟨rfl, hMG, hm10⟩
    have hz_10 := hm10.size
    have hB_94 : Below w.heap.size w w10 := (hB_85).trans (hm10.below (by omega) (by omega))
    have bA_95 := bA_86.only hm10 (by omega)
    have oW_96 := oW_87.only hm10 (by omega)
    have bW_97 := bW_88.only hm10 (by omega)
    have bG_98 := bG_90.only hm10 (by omega)
    obtain ⟨q0_99, q1_99, q2_99, q3_99, q4_99⟩ := bA_95.lcell
    simp only at q0_99 q1_99 q2_99 q3_99 q4_99
    obtain ⟨q0_100, q1_100, q2_100, q3_100, q4_100⟩ := bW_97.lcell
    obtain ⟨q0_101, q1_101, q2_101, q3_101, q4_101⟩ := bG_98.lcell
    clear q0_91 q1_91 q2_91 q3_91 q4_91 q0_92 q1_92 q2_92 q3_92 q4_92 q0_93 q1_93 q2_93 q3_93 q4_93
    go_wp2_with fail
    refine (heldForm_any fG _ 1 _ hMG.rf (by omega) (leG.trans_ (by omega)) (by omega) (by omega)).mono ?_
    rintro e w11 ⟨rfl, hb11⟩
    have hz_11 := hb11.size
    have hB_102 : Below w.heap.size w w11 := (hB_94).trans (hb11.mono (by omega))
    have bA_103 := bA_95.below hb11 (by omega)
    have oW_104 := oW_96.below hb11 (by omega)
    have bW_105 := bW_97.below hb11 (by omega)
    have oG_106 := hMG.below hb11 (by omega)
    have bG_107 := bG_98.below hb11 (by omega)
    obtain ⟨q0_108, q1_108, q2_108, q3_108, q4_108⟩ := bA_103.lcell
    simp only at q0_108 q1_108 q2_108 q3_108 q4_108
    obtain ⟨q0_109, q1_109, q2_109, q3_109, q4_109⟩ := bW_105.lcell
    obtain ⟨q0_110, q1_110, q2_110, q3_110, q4_110⟩ := bG_107.lcell
    clear q0_99 q1_99 q2_99 q3_99 q4_99 q0_100 q1_100 q2_100 q3_100 q4_100 q0_101 q1_101 q2_101 q3_101 q4_101
    go_wp2_with fail
    refine (toForm_any ⟨a, b, A1, n1, c1, A2, n2, c2, A3, n3, c3⟩ w.heap.size F G H _ (h.below (hB_102) (Nat.le_refl _)) (hB_102).size HLE.out).mono ?_
    rintro e w12 ⟨gY1, gY2, gY3, rfl, oY, hb12⟩
    simp only at oY
    have hz_12 := hb12.size
    have hB_111 : Below w.heap.size w w12 := (hB_102).trans (hb12.mono (by omega))
    have bA_112 := bA_103.below hb12 (by omega)
    have oW_113 := oW_104.below hb12 (by omega)
    have bW_114 := bW_105.below hb12 (by omega)
    have oG_115 := oG_106.below hb12 (by omega)
    have bG_116 := bG_107.below hb12 (by omega)
    obtain ⟨q0_117, q1_117, q2_117, q3_117, q4_117⟩ := bA_112.lcell
    simp only at q0_117 q1_117 q2_117 q3_117 q4_117
    obtain ⟨q0_118, q1_118, q2_118, q3_118, q4_118⟩ := bW_114.lcell
    obtain ⟨q0_119, q1_119, q2_119, q3_119, q4_119⟩ := bG_116.lcell
    clear q0_108 q1_108 q2_108 q3_108 q4_108 q0_109 q1_109 q2_109 q3_109 q4_109 q0_110 q1_110 q2_110 q3_110 q4_110
    go_wp2_with fail
    refine (implSh_any _ a b rfl rfl _ F G H a0 u0 u1 C L1 L2 L3 H_v.out _ oY.rf (by first | omega | simp) HLE.out HIF.out HIG.out).mono ?_
    rintro e w13 ⟨fH, ⟨eaH, ebH⟩, rfl, oH, leH, hb13⟩
    have EAH := Lib.hid eaH
    have EBH := Lib.hid ebH
    clear eaH ebH
    have hz_13 := hb13.size
    have hB_120 : Below w.heap.size w w13 := (hB_111).trans (hb13.mono (by omega))
    have bA_121 := bA_112.below hb13 (by omega)
    have oW_122 := oW_113.below hb13 (by omega)
    have bW_123 := bW_114.below hb13 (by omega)
    have oG_124 := oG_115.below hb13 (by omega)
    have bG_125 := bG_116.below hb13 (by omega)
    have oY_126 := oY.below hb13 (by omega)
    obtain ⟨q0_127, q1_127, q2_127, q3_127, q4_127⟩ := bA_121.lcell
    simp only at q0_127 q1_127 q2_127 q3_127 q4_127
    obtain ⟨q0_128, q1_128, q2_128, q3_128, q4_128⟩ := bW_123.lcell
    obtain ⟨q0_129, q1_129, q2_129, q3_129, q4_129⟩ := bG_125.lcell
    clear q0_117 q1_117 q2_117 q3_117 q4_117 q0_118 q1_118 q2_118 q3_118 q4_118 q0_119 q1_119 q2_119 q3_119 q4_119
    have hz0_4 := (hB_120).size
    have bH_n := Blk.new (w := w13) (g := w13.heap.size) (Fv.cs fH) 28 rfl
    have bA_130 := bA_121.alloc (.cells (Fv.cs fH) 28)
    have oW_131 := oW_122.alloc (.cells (Fv.cs fH) 28)
    have bW_132 := bW_123.alloc (.cells (Fv.cs fH) 28)
    have oG_133 := oG_124.alloc (.cells (Fv.cs fH) 28)
    have bG_134 := bG_125.alloc (.cells (Fv.cs fH) 28)
    have oH_135 := oH.alloc (.cells (Fv.cs fH) 28)
    have hB_136 := (hB_120).alloc (by omega) (.cells (Fv.cs fH) 28)
    obtain ⟨q0_137, q1_137, q2_137, q3_137, q4_137⟩ := bA_130.lcell
    simp only at q0_137 q1_137 q2_137 q3_137 q4_137
    obtain ⟨q0_138, q1_138, q2_138, q3_138, q4_138⟩ := bW_132.lcell
    obtain ⟨q0_139, q1_139, q2_139, q3_139, q4_139⟩ := bG_134.lcell
    obtain ⟨q0_140, q1_140, q2_140, q3_140, q4_140⟩ := bH_n.lcell
    clear q0_127 q1_127 q2_127 q3_127 q4_127 q0_128 q1_128 q2_128 q3_128 q4_128 q0_129 q1_129 q2_129 q3_129 q4_129
    go_wp2_with fail
    generalize hV4 : w13.alloc (.cells (Fv.cs fH) 28) = v4 at bH_n bA_130 oW_131 bW_132 oG_133 bG_134 oH_135 hB_136 q0_137 q1_137 q2_137 q3_137 q4_137 q0_138 q1_138 q2_138 q3_138 q4_138 q0_139 q1_139 q2_139 q3_139 q4_139 q0_140 q1_140 q2_140 q3_140 q4_140 ⊢
    have hzv_4 : v4.heap.size = w13.heap.size + 1 := by rw [← hV4]; simp
    clear hV4
    refine (eqForm_true fH fW (by rw [EAW.out, EAH.out]) (by rw [EBW.out, EBH.out]) _ _ _ _ _ _ oH_135.rf oW_131.rf (by omega) (by omega) (leH.trans_ (by omega))).mono ?_
    rintro e w14 ⟨rfl, hb14⟩
    have hz_14 := hb14.size
    have hB_141 : Below w.heap.size w w14 := (hB_136).trans (hb14.mono (by omega))
    have bA_142 := bA_130.below hb14 (by omega)
    have oW_143 := oW_131.below hb14 (by omega)
    have bW_144 := bW_132.below hb14 (by omega)
    have oG_145 := oG_133.below hb14 (by omega)
    have bG_146 := bG_134.below hb14 (by omega)
    have oH_147 := oH_135.below hb14 (by omega)
    have bH_148 := bH_n.below hb14 (by omega)
    obtain ⟨q0_149, q1_149, q2_149, q3_149, q4_149⟩ := bA_142.lcell
    simp only at q0_149 q1_149 q2_149 q3_149 q4_149
    obtain ⟨q0_150, q1_150, q2_150, q3_150, q4_150⟩ := bW_144.lcell
    obtain ⟨q0_151, q1_151, q2_151, q3_151, q4_151⟩ := bG_146.lcell
    obtain ⟨q0_152, q1_152, q2_152, q3_152, q4_152⟩ := bH_148.lcell
    clear q0_137 q1_137 q2_137 q3_137 q4_137 q0_138 q1_138 q2_138 q3_138 q4_138 q0_139 q1_139 q2_139 q3_139 q4_139 q0_140 q1_140 q2_140 q3_140 q4_140
    go_wp2_with fail
    refine (heldForm_any fG _ 1 _ oG_145.rf (by omega) (leG.trans_ (by omega)) (by omega) (by omega)).mono ?_
    rintro e w15 ⟨rfl, hb15⟩
    have hz_15 := hb15.size
    have hB_153 : Below w.heap.size w w15 := (hB_141).trans (hb15.mono (by omega))
    have bA_154 := bA_142.below hb15 (by omega)
    have oW_155 := oW_143.below hb15 (by omega)
    have bW_156 := bW_144.below hb15 (by omega)
    have oG_157 := oG_145.below hb15 (by omega)
    have bG_158 := bG_146.below hb15 (by omega)
    have oH_159 := oH_147.below hb15 (by omega)
    have bH_160 := bH_148.below hb15 (by omega)
    obtain ⟨q0_161, q1_161, q2_161, q3_161, q4_161⟩ := bA_154.lcell
    simp only at q0_161 q1_161 q2_161 q3_161 q4_161
    obtain ⟨q0_162, q1_162, q2_162, q3_162, q4_162⟩ := bW_156.lcell
    obtain ⟨q0_163, q1_163, q2_163, q3_163, q4_163⟩ := bG_158.lcell
    obtain ⟨q0_164, q1_164, q2_164, q3_164, q4_164⟩ := bH_160.lcell
    clear q0_149 q1_149 q2_149 q3_149 q4_149 q0_150 q1_150 q2_150 q3_150 q4_150 q0_151 q1_151 q2_151 q3_151 q4_151 q0_152 q1_152 q2_152 q3_152 q4_152
    go_wp2_with fail
    go_ret
    exact ⟨rfl, hB_153⟩
  · have HQ : Hid (szR n1 n2 n3 = -1) := Lib.hid (by unfold szR; rw [if_neg hn])
    have hB_0 := below_alloc w (.cells (Fv.cs ⟨a, b, A1, n1, c1, A2, n2, c2, A3, n3, c3⟩) 51)
    go_enter Try.func6, Try.ntmps6
    go_wp2_with fail
    refine (szForm_any ⟨a, b, A1, n1, c1, A2, n2, c2, A3, n3, c3⟩ _ ⟨p1, p2, p3⟩ (-1) HQ.out).mono ?_
    rintro e w1 ⟨rfl, hb1⟩
    have hB_1 := hB_0.trans (hb1.mono hB_0.size)
    go_wp2_with fail
    go_ret
    exact ⟨rfl, hB_1⟩
end Go.Proofs.Ytgplciodddfpbaa
