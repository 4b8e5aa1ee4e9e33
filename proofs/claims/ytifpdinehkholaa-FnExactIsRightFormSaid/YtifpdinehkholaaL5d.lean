/- The walk of the exact law of IsRightForm, out of the contracts. -/
import Derived.Test.YtifpdinehkholaaFmSs
import Derived.Deep.RegionHeld3
namespace Go.Proofs.Ytifpdinehkholaa
open Go.RowKit

set_option maxRecDepth 100000 in
set_option maxHeartbeats 4000000 in
theorem w_FnExactIsRightForm (f : Fv) (F G H : List Int) (s0 : ByteArray) (w : World) (h : RF w w.heap.size f F G H) (hnc : f.n1 ≤ 9223372036854775807 ∧ f.n2 ≤ 9223372036854775807 ∧ f.n3 ≤ 9223372036854775807) (hi : (i64s F ∧ i64s G) ∧ (-9223372036854775808 ≤ f.a ∧ f.a ≤ 9223372036854775807) ∧ -9223372036854775808 ≤ f.b ∧ f.b ≤ 9223372036854775807) (_m0 : s0.size ≤ maxLen) :
    Calls Try.prog 9 #[f.v, .string s0] w fun e w' => e = .returned (.bool true) ∧ Below w.heap.size w w' := by
  obtain ⟨a, b, A1, n1, c1, A2, n2, c2, A3, n3, c3⟩ := f
  obtain ⟨p1, p2, p3⟩ := hnc
  obtain ⟨⟨hi1, hi2⟩, _⟩ := hi
  simp only at p1 p2 p3 h
  have HIF := Lib.hid hi1
  have HIG := Lib.hid hi2
  clear hi1 hi2
  have hm0 := _m0
  unfold maxLen at hm0
  by_cases hs0 : 1048576 < s0.size
  · go_enter Try.func9, Try.ntmps9
    go_wp2_with fail
    go_ret
    exact ⟨rfl, by first | exact Below.refl _ _ | exact below_alloc _ _⟩
  have hsl0 : s0.size ≤ 1048577 := by omega
  have hsn0 : s0.size ≤ 1048576 := by omega
  clear hs0
  obtain ⟨C, h_C⟩ : ∃ v, Fm.code a b F G H s0.data.toList = v := ⟨_, rfl⟩
  have H_C := Lib.hid h_C
  clear h_C
  obtain ⟨R, h_R⟩ : ∃ v, Fm.riR a b F G H s0.data.toList = v := ⟨_, rfl⟩
  have H_R := Lib.hid h_R
  clear h_R
  by_cases hn : (n1 : Int) + n2 + n3 ≤ 1048576
  · obtain ⟨q, hq⟩ : ∃ q, szR n1 n2 n3 = q := ⟨_, rfl⟩
    have hq0 : 0 ≤ q := by rw [← hq]; unfold szR; rw [if_pos hn]; omega
    have HQ := Lib.hid hq
    have HLE : Hid (n1 ≤ 1048576 ∧ n2 ≤ 1048576 ∧ n3 ≤ 1048576) := Lib.hid ⟨by omega, by omega, by omega⟩
    clear hq
    have bA_0 := Blk.new (w := w) (g := w.heap.size) (Fv.cs ⟨a, b, A1, n1, c1, A2, n2, c2, A3, n3, c3⟩) 51 rfl
    have hB_0 := below_alloc w (.cells (Fv.cs ⟨a, b, A1, n1, c1, A2, n2, c2, A3, n3, c3⟩) 51)
    go_enter Try.func9, Try.ntmps9
    go_wp2_with fail
    generalize hV0 : w.alloc (.cells (Fv.cs ⟨a, b, A1, n1, c1, A2, n2, c2, A3, n3, c3⟩) 51) = v0 at bA_0 hB_0 ⊢
    have hzv_0 : v0.heap.size = w.heap.size + 1 := by rw [← hV0]; simp
    clear hV0
    obtain ⟨q0_1, q1_1, q2_1, q3_1, q4_1⟩ := bA_0.lcell
    simp only at q0_1 q1_1 q2_1 q3_1 q4_1
    refine (szForm_any ⟨a, b, A1, n1, c1, A2, n2, c2, A3, n3, c3⟩ _ ⟨p1, p2, p3⟩ q HQ.out).mono ?_
    rintro e w1 ⟨rfl, hb1⟩
    have hz_1 := hb1.size
    have hB_2 : Below w.heap.size w w1 := (hB_0).trans (hb1.mono (by omega))
    have bA_3 := bA_0.below hb1 (by omega)
    obtain ⟨q0_4, q1_4, q2_4, q3_4, q4_4⟩ := bA_3.lcell
    simp only at q0_4 q1_4 q2_4 q3_4 q4_4
    clear q0_1 q1_1 q2_1 q3_1 q4_1
    go_wp2_with fail
    refine (toForm_any ⟨a, b, A1, n1, c1, A2, n2, c2, A3, n3, c3⟩ w.heap.size F G H _ (h.below (hB_2) (Nat.le_refl _)) (hB_2).size HLE.out).mono ?_
    rintro e w2 ⟨gS1, gS2, gS3, rfl, oS, hb2⟩
    simp only at oS
    have hz_2 := hb2.size
    have hB_5 : Below w.heap.size w w2 := (hB_2).trans (hb2.mono (by omega))
    have bA_6 := bA_3.below hb2 (by omega)
    obtain ⟨q0_7, q1_7, q2_7, q3_7, q4_7⟩ := bA_6.lcell
    simp only at q0_7 q1_7 q2_7 q3_7 q4_7
    clear q0_4 q1_4 q2_4 q3_4 q4_4
    go_wp2_with fail
    refine (specRi_any _ a b rfl rfl _ F G H s0 C R H_C.out H_R.out _ oS.rf (Nat.le_refl _) HLE.out HIF.out HIG.out hsl0).mono ?_
    rintro e w3 ⟨rfl, hb3⟩
    have hz_3 := hb3.size
    have hB_8 : Below w.heap.size w w3 := (hB_5).trans (hb3.mono (by omega))
    have bA_9 := bA_6.below hb3 (by omega)
    have oS_10 := oS.below hb3 (by omega)
    obtain ⟨q0_11, q1_11, q2_11, q3_11, q4_11⟩ := bA_9.lcell
    simp only at q0_11 q1_11 q2_11 q3_11 q4_11
    clear q0_7 q1_7 q2_7 q3_7 q4_7
    go_wp2_with fail
    refine (toForm_any ⟨a, b, A1, n1, c1, A2, n2, c2, A3, n3, c3⟩ w.heap.size F G H _ (h.below (hB_8) (Nat.le_refl _)) (hB_8).size HLE.out).mono ?_
    rintro e w4 ⟨gX1, gX2, gX3, rfl, oX, hb4⟩
    simp only at oX
    have hz_4 := hb4.size
    have hB_12 : Below w.heap.size w w4 := (hB_8).trans (hb4.mono (by omega))
    have bA_13 := bA_9.below hb4 (by omega)
    obtain ⟨q0_14, q1_14, q2_14, q3_14, q4_14⟩ := bA_13.lcell
    simp only at q0_14 q1_14 q2_14 q3_14 q4_14
    clear q0_11 q1_11 q2_11 q3_11 q4_11
    have hz0_1 := (hB_12).size
    have bX_n := Blk.new (w := w4) (g := w4.heap.size) (Fv.cs ⟨a, b, some ⟨gX1, 0, none⟩, n1, n1, some ⟨gX2, 0, none⟩, n2, n2, some ⟨gX3, 0, none⟩, n3, n3⟩) 28 rfl
    have bA_15 := bA_13.alloc (.cells (Fv.cs ⟨a, b, some ⟨gX1, 0, none⟩, n1, n1, some ⟨gX2, 0, none⟩, n2, n2, some ⟨gX3, 0, none⟩, n3, n3⟩) 28)
    have oX_16 := oX.alloc (.cells (Fv.cs ⟨a, b, some ⟨gX1, 0, none⟩, n1, n1, some ⟨gX2, 0, none⟩, n2, n2, some ⟨gX3, 0, none⟩, n3, n3⟩) 28)
    have hB_17 := (hB_12).alloc (by omega) (.cells (Fv.cs ⟨a, b, some ⟨gX1, 0, none⟩, n1, n1, some ⟨gX2, 0, none⟩, n2, n2, some ⟨gX3, 0, none⟩, n3, n3⟩) 28)
    go_wp2_with fail
    generalize hV1 : w4.alloc (.cells (Fv.cs ⟨a, b, some ⟨gX1, 0, none⟩, n1, n1, some ⟨gX2, 0, none⟩, n2, n2, some ⟨gX3, 0, none⟩, n3, n3⟩) 28) = v1 at bX_n bA_15 oX_16 hB_17 ⊢
    have hzv_1 : v1.heap.size = w4.heap.size + 1 := by rw [← hV1]; simp
    clear hV1
    obtain ⟨q0_18, q1_18, q2_18, q3_18, q4_18⟩ := bA_15.lcell
    simp only at q0_18 q1_18 q2_18 q3_18 q4_18
    obtain ⟨q0_19, q1_19, q2_19, q3_19, q4_19⟩ := bX_n.lcell
    simp only at q0_19 q1_19 q2_19 q3_19 q4_19
    clear q0_14 q1_14 q2_14 q3_14 q4_14
    refine (implRi_any _ a b rfl rfl _ F G H s0 C R H_C.out H_R.out _ oX_16.rf (by first | omega | simp) HLE.out HIF.out HIG.out hsl0).mono ?_
    rintro e w5 ⟨rfl, hb5⟩
    have hz_5 := hb5.size
    have hB_20 : Below w.heap.size w w5 := (hB_17).trans (hb5.mono (by omega))
    have bA_21 := bA_15.below hb5 (by omega)
    have oX_22 := oX_16.below hb5 (by omega)
    have bX_23 := bX_n.below hb5 (by omega)
    obtain ⟨q0_24, q1_24, q2_24, q3_24, q4_24⟩ := bA_21.lcell
    simp only at q0_24 q1_24 q2_24 q3_24 q4_24
    obtain ⟨q0_25, q1_25, q2_25, q3_25, q4_25⟩ := bX_23.lcell
    simp only at q0_25 q1_25 q2_25 q3_25 q4_25
    clear q0_18 q1_18 q2_18 q3_18 q4_18 q0_19 q1_19 q2_19 q3_19 q4_19
    go_wp2_with fail
    go_region_held3 (fun W => W.cell? ⟨w.heap.size, 0, none⟩ = some (.int .i64 a) ∧ W.cell? ⟨w.heap.size, 1, none⟩ = some (.int .i64 b) ∧ W.cell? ⟨w.heap.size, 2, none⟩ = some (.slice A1 n1 c1) ∧ W.cell? ⟨w.heap.size, 3, none⟩ = some (.slice A2 n2 c2) ∧ W.cell? ⟨w.heap.size, 4, none⟩ = some (.slice A3 n3 c3) ∧ W.cell? ⟨w4.heap.size, 0, none⟩ = some (.int .i64 a) ∧ W.cell? ⟨w4.heap.size, 1, none⟩ = some (.int .i64 b) ∧ W.cell? ⟨w4.heap.size, 2, none⟩ = some (.slice (some ⟨gX1, 0, none⟩) n1 n1) ∧ W.cell? ⟨w4.heap.size, 3, none⟩ = some (.slice (some ⟨gX2, 0, none⟩) n2 n2) ∧ W.cell? ⟨w4.heap.size, 4, none⟩ = some (.slice (some ⟨gX3, 0, none⟩) n3 n3))
      (first | go_keep | (refine ⟨?_, ?_, ?_, ?_, ?_, ?_, ?_, ?_, ?_, ?_⟩ <;> (first | go_keep | (rw [hbk.cell (by first | omega | (simp; omega))]; first | assumption | go_keep))))
      (first
        | (go_at_call 42; refine (toForm_any ⟨a, b, A1, n1, c1, A2, n2, c2, A3, n3, c3⟩ w.heap.size F G H _ ((h.below (hB_20) (Nat.le_refl _)).drewN 1) (by have := (hB_20).size; simpa using this) HLE.out).mono ?_; rintro e wa ⟨gC1, gC2, gC3, rfl, oC, hbk⟩; have hzk : w5.heap.size ≤ wa.heap.size := hbk.size; have hbk5 := hbk)
        | (go_at_call 43; refine (eqForm_true ⟨a, b, some ⟨gX1, 0, none⟩, n1, n1, some ⟨gX2, 0, none⟩, n2, n2, some ⟨gX3, 0, none⟩, n3, n3⟩ ⟨a, b, some ⟨gC1, 0, none⟩, n1, n1, some ⟨gC2, 0, none⟩, n2, n2, some ⟨gC3, 0, none⟩, n3, n3⟩ rfl rfl _ _ F G H _ ((oX_22.rf.drewN 1).below hbk (by first | omega | (simp; omega))) oC.rf (by first | omega | (simp; omega)) (Nat.le_refl _) HLE.out).mono ?_; rintro e w6 ⟨rfl, hbk⟩))
    have hb6 : Below w5.heap.size w5 w6 := (below_drewN' (Below.refl _ _) 1).trans (hbk5.trans (hbk.mono hbk5.size))
    have hz_6 := hb6.size
    have hB_26 : Below w.heap.size w w6 := (hB_20).trans (hb6.mono (by omega))
    have bA_27 := bA_21.below hb6 (by omega)
    have oX_28 := oX_22.below hb6 (by omega)
    have bX_29 := bX_23.below hb6 (by omega)
    obtain ⟨q0_30, q1_30, q2_30, q3_30, q4_30⟩ := bA_27.lcell
    simp only at q0_30 q1_30 q2_30 q3_30 q4_30
    obtain ⟨q0_31, q1_31, q2_31, q3_31, q4_31⟩ := bX_29.lcell
    simp only at q0_31 q1_31 q2_31 q3_31 q4_31
    clear q0_24 q1_24 q2_24 q3_24 q4_24 q0_25 q1_25 q2_25 q3_25 q4_25
    go_wp2_with fail
    go_ret
    exact ⟨rfl, hB_26⟩
  · have HQ : Hid (szR n1 n2 n3 = -1) := Lib.hid (by unfold szR; rw [if_neg hn])
    have hB_0 := below_alloc w (.cells (Fv.cs ⟨a, b, A1, n1, c1, A2, n2, c2, A3, n3, c3⟩) 51)
    go_enter Try.func9, Try.ntmps9
    go_wp2_with fail
    refine (szForm_any ⟨a, b, A1, n1, c1, A2, n2, c2, A3, n3, c3⟩ _ ⟨p1, p2, p3⟩ (-1) HQ.out).mono ?_
    rintro e w1 ⟨rfl, hb1⟩
    have hB_1 := hB_0.trans (hb1.mono hB_0.size)
    go_wp2_with fail
    go_ret
    exact ⟨rfl, hB_1⟩
end Go.Proofs.Ytifpdinehkholaa
