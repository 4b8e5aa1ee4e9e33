/- The walk of the exact law of ImposeSheet, out of the contracts. -/
import Derived.Test.YtifpdinehkholaaFmIr
import Derived.Test.YtifpdinehkholaaFmLaw
import Derived.Deep.RegionHeld3
namespace Go.Proofs.Ytifpdinehkholaa
open Go.RowKit

set_option maxRecDepth 100000 in
set_option maxHeartbeats 4000000 in
theorem w_FnExactImposeSheet (a0 : Int) (a1 : Int) (s2 : ByteArray) (w : World) (_w0 : -9223372036854775808 ≤ a0 ∧ a0 ≤ 9223372036854775807) (_w1 : -9223372036854775808 ≤ a1 ∧ a1 ≤ 9223372036854775807) (_m2 : s2.size ≤ maxLen) :
    Calls Try.prog 7 #[.int .i64 a0, .int .i64 a1, .string s2] w fun e w' => e = .returned (.bool true) ∧ Below w.heap.size w w' := by
  have hm2 := _m2
  unfold maxLen at hm2
  by_cases hs2 : 1048576 < s2.size
  · go_enter Try.func7, Try.ntmps7
    go_wp2_with fail
    go_ret
    exact ⟨rfl, by first | exact Below.refl _ _ | exact below_alloc _ _⟩
  have hsl2 : s2.size ≤ 1048577 := by omega
  have hsn2 : s2.size ≤ 1048576 := by omega
  clear hs2
  obtain ⟨u0, u1, L1, L2, L3, C, h_v⟩ : ∃ u0 u1 L1 L2 L3 C, Fm.ipR a0 a1 s2.data.toList = (u0, u1, L1, L2, L3, C) := ⟨_, _, _, _, _, _,  rfl⟩
  have H_v := Lib.hid h_v
  clear h_v
  go_enter Try.func7, Try.ntmps7
  go_wp2_with fail
  refine (specIp_any a0 a1 s2 u0 u1 C L1 L2 L3 H_v.out hsl2 _).mono ?_
  rintro e w1 ⟨fW, ⟨eaW, ebW⟩, rfl, oW, leW, hb1⟩
  have EAW := Lib.hid eaW
  have EBW := Lib.hid ebW
  clear eaW ebW
  have hz_1 := hb1.size
  have hB_1 : Below w.heap.size w w1 := (Below.refl w.heap.size w).trans (hb1.mono (by omega))
  have hz0_1 := (hB_1).size
  have bW_n := Blk.new (w := w1) (g := w1.heap.size) (Fv.cs fW) 28 rfl
  have oW_2 := oW.alloc (.cells (Fv.cs fW) 28)
  have hB_3 := (hB_1).alloc (by omega) (.cells (Fv.cs fW) 28)
  go_wp2_with fail
  generalize hV1 : w1.alloc (.cells (Fv.cs fW) 28) = v1 at bW_n oW_2 hB_3 ⊢
  have hzv_1 : v1.heap.size = w1.heap.size + 1 := by rw [← hV1]; simp
  clear hV1
  obtain ⟨q0_4, q1_4, q2_4, q3_4, q4_4⟩ := bW_n.lcell
  refine (implIp_any a0 a1 s2 u0 u1 C L1 L2 L3 H_v.out hsl2 _).mono ?_
  rintro e w2 ⟨fG, ⟨eaG, ebG⟩, rfl, oG, leG, hb2⟩
  have EAG := Lib.hid eaG
  have EBG := Lib.hid ebG
  clear eaG ebG
  have hz_2 := hb2.size
  have hB_5 : Below w.heap.size w w2 := (hB_3).trans (hb2.mono (by omega))
  have oW_6 := oW_2.below hb2 (by omega)
  have bW_7 := bW_n.below hb2 (by omega)
  obtain ⟨q0_8, q1_8, q2_8, q3_8, q4_8⟩ := bW_7.lcell
  clear q0_4 q1_4 q2_4 q3_4 q4_4
  have hz0_2 := (hB_5).size
  have bG_n := Blk.new (w := w2) (g := w2.heap.size) (Fv.cs fG) 28 rfl
  have oW_9 := oW_6.alloc (.cells (Fv.cs fG) 28)
  have bW_10 := bW_7.alloc (.cells (Fv.cs fG) 28)
  have oG_11 := oG.alloc (.cells (Fv.cs fG) 28)
  have hB_12 := (hB_5).alloc (by omega) (.cells (Fv.cs fG) 28)
  obtain ⟨q0_13, q1_13, q2_13, q3_13, q4_13⟩ := bW_10.lcell
  obtain ⟨q0_14, q1_14, q2_14, q3_14, q4_14⟩ := bG_n.lcell
  clear q0_8 q1_8 q2_8 q3_8 q4_8
  go_wp2_with fail
  generalize hV2 : w2.alloc (.cells (Fv.cs fG) 28) = v2 at bG_n oW_9 bW_10 oG_11 hB_12 q0_13 q1_13 q2_13 q3_13 q4_13 q0_14 q1_14 q2_14 q3_14 q4_14 ⊢
  have hzv_2 : v2.heap.size = w2.heap.size + 1 := by rw [← hV2]; simp
  clear hV2
  refine (eqForm_true fG fW (by rw [EAW.out, EAG.out]) (by rw [EBW.out, EBG.out]) _ _ _ _ _ _ oG_11.rf oW_9.rf (by omega) (by omega) (leG.trans_ (by omega))).mono ?_
  rintro e w3 ⟨rfl, hb3⟩
  have hz_3 := hb3.size
  have hB_15 : Below w.heap.size w w3 := (hB_12).trans (hb3.mono (by omega))
  have oW_16 := oW_9.below hb3 (by omega)
  have bW_17 := bW_10.below hb3 (by omega)
  have oG_18 := oG_11.below hb3 (by omega)
  have bG_19 := bG_n.below hb3 (by omega)
  obtain ⟨q0_20, q1_20, q2_20, q3_20, q4_20⟩ := bW_17.lcell
  obtain ⟨q0_21, q1_21, q2_21, q3_21, q4_21⟩ := bG_19.lcell
  clear q0_13 q1_13 q2_13 q3_13 q4_13 q0_14 q1_14 q2_14 q3_14 q4_14
  go_wp2_with fail
  refine (markForm_any fG _ _ 1 _ _ _ _ oG_18 (by omega) (leG.trans_ (by omega)) (by omega) (by omega)).mono ?_
  rintro e w4 ⟨rfl, hMG, hm4⟩
  have hz_4 := hm4.size
  have hB_22 : Below w.heap.size w w4 := (hB_15).trans (hm4.below (by omega) (by omega))
  have oW_23 := oW_16.only hm4 (by omega)
  have bW_24 := bW_17.only hm4 (by omega)
  have bG_25 := bG_19.only hm4 (by omega)
  obtain ⟨q0_26, q1_26, q2_26, q3_26, q4_26⟩ := bW_24.lcell
  obtain ⟨q0_27, q1_27, q2_27, q3_27, q4_27⟩ := bG_25.lcell
  clear q0_20 q1_20 q2_20 q3_20 q4_20 q0_21 q1_21 q2_21 q3_21 q4_21
  go_wp2_with fail
  refine (heldForm_any fG _ 1 _ hMG.rf (by omega) (leG.trans_ (by omega)) (by omega) (by omega)).mono ?_
  rintro e w5 ⟨rfl, hb5⟩
  have hz_5 := hb5.size
  have hB_28 : Below w.heap.size w w5 := (hB_22).trans (hb5.mono (by omega))
  have oW_29 := oW_23.below hb5 (by omega)
  have bW_30 := bW_24.below hb5 (by omega)
  have oG_31 := hMG.below hb5 (by omega)
  have bG_32 := bG_25.below hb5 (by omega)
  obtain ⟨q0_33, q1_33, q2_33, q3_33, q4_33⟩ := bW_30.lcell
  obtain ⟨q0_34, q1_34, q2_34, q3_34, q4_34⟩ := bG_32.lcell
  clear q0_26 q1_26 q2_26 q3_26 q4_26 q0_27 q1_27 q2_27 q3_27 q4_27
  go_wp2_with fail
  refine (implIp_any a0 a1 s2 u0 u1 C L1 L2 L3 H_v.out hsl2 _).mono ?_
  rintro e w6 ⟨fH, ⟨eaH, ebH⟩, rfl, oH, leH, hb6⟩
  have EAH := Lib.hid eaH
  have EBH := Lib.hid ebH
  clear eaH ebH
  have hz_6 := hb6.size
  have hB_35 : Below w.heap.size w w6 := (hB_28).trans (hb6.mono (by omega))
  have oW_36 := oW_29.below hb6 (by omega)
  have bW_37 := bW_30.below hb6 (by omega)
  have oG_38 := oG_31.below hb6 (by omega)
  have bG_39 := bG_32.below hb6 (by omega)
  obtain ⟨q0_40, q1_40, q2_40, q3_40, q4_40⟩ := bW_37.lcell
  obtain ⟨q0_41, q1_41, q2_41, q3_41, q4_41⟩ := bG_39.lcell
  clear q0_33 q1_33 q2_33 q3_33 q4_33 q0_34 q1_34 q2_34 q3_34 q4_34
  have hz0_3 := (hB_35).size
  have bH_n := Blk.new (w := w6) (g := w6.heap.size) (Fv.cs fH) 28 rfl
  have oW_42 := oW_36.alloc (.cells (Fv.cs fH) 28)
  have bW_43 := bW_37.alloc (.cells (Fv.cs fH) 28)
  have oG_44 := oG_38.alloc (.cells (Fv.cs fH) 28)
  have bG_45 := bG_39.alloc (.cells (Fv.cs fH) 28)
  have oH_46 := oH.alloc (.cells (Fv.cs fH) 28)
  have hB_47 := (hB_35).alloc (by omega) (.cells (Fv.cs fH) 28)
  obtain ⟨q0_48, q1_48, q2_48, q3_48, q4_48⟩ := bW_43.lcell
  obtain ⟨q0_49, q1_49, q2_49, q3_49, q4_49⟩ := bG_45.lcell
  obtain ⟨q0_50, q1_50, q2_50, q3_50, q4_50⟩ := bH_n.lcell
  clear q0_40 q1_40 q2_40 q3_40 q4_40 q0_41 q1_41 q2_41 q3_41 q4_41
  go_wp2_with fail
  generalize hV3 : w6.alloc (.cells (Fv.cs fH) 28) = v3 at bH_n oW_42 bW_43 oG_44 bG_45 oH_46 hB_47 q0_48 q1_48 q2_48 q3_48 q4_48 q0_49 q1_49 q2_49 q3_49 q4_49 q0_50 q1_50 q2_50 q3_50 q4_50 ⊢
  have hzv_3 : v3.heap.size = w6.heap.size + 1 := by rw [← hV3]; simp
  clear hV3
  refine (eqForm_true fH fW (by rw [EAW.out, EAH.out]) (by rw [EBW.out, EBH.out]) _ _ _ _ _ _ oH_46.rf oW_42.rf (by omega) (by omega) (leH.trans_ (by omega))).mono ?_
  rintro e w7 ⟨rfl, hb7⟩
  have hz_7 := hb7.size
  have hB_51 : Below w.heap.size w w7 := (hB_47).trans (hb7.mono (by omega))
  have oW_52 := oW_42.below hb7 (by omega)
  have bW_53 := bW_43.below hb7 (by omega)
  have oG_54 := oG_44.below hb7 (by omega)
  have bG_55 := bG_45.below hb7 (by omega)
  have oH_56 := oH_46.below hb7 (by omega)
  have bH_57 := bH_n.below hb7 (by omega)
  obtain ⟨q0_58, q1_58, q2_58, q3_58, q4_58⟩ := bW_53.lcell
  obtain ⟨q0_59, q1_59, q2_59, q3_59, q4_59⟩ := bG_55.lcell
  obtain ⟨q0_60, q1_60, q2_60, q3_60, q4_60⟩ := bH_57.lcell
  clear q0_48 q1_48 q2_48 q3_48 q4_48 q0_49 q1_49 q2_49 q3_49 q4_49 q0_50 q1_50 q2_50 q3_50 q4_50
  go_wp2_with fail
  refine (heldForm_any fG _ 1 _ oG_54.rf (by omega) (leG.trans_ (by omega)) (by omega) (by omega)).mono ?_
  rintro e w8 ⟨rfl, hb8⟩
  have hz_8 := hb8.size
  have hB_61 : Below w.heap.size w w8 := (hB_51).trans (hb8.mono (by omega))
  have oW_62 := oW_52.below hb8 (by omega)
  have bW_63 := bW_53.below hb8 (by omega)
  have oG_64 := oG_54.below hb8 (by omega)
  have bG_65 := bG_55.below hb8 (by omega)
  have oH_66 := oH_56.below hb8 (by omega)
  have bH_67 := bH_57.below hb8 (by omega)
  obtain ⟨q0_68, q1_68, q2_68, q3_68, q4_68⟩ := bW_63.lcell
  obtain ⟨q0_69, q1_69, q2_69, q3_69, q4_69⟩ := bG_65.lcell
  obtain ⟨q0_70, q1_70, q2_70, q3_70, q4_70⟩ := bH_67.lcell
  clear q0_58 q1_58 q2_58 q3_58 q4_58 q0_59 q1_59 q2_59 q3_59 q4_59 q0_60 q1_60 q2_60 q3_60 q4_60
  go_wp2_with fail
  go_ret
  exact ⟨rfl, hB_61⟩
end Go.Proofs.Ytifpdinehkholaa
