/- The walk of the exact law of BlankPages, out of the contracts. -/
import Derived.Test.YtoanopgafihjiaaBlank
import Derived.Deep.RegionHeld3
namespace Go.Proofs.Ytoanopgafihjiaa
open Go.RowKit

set_option maxRecDepth 100000 in
set_option maxHeartbeats 2000000 in
theorem w_FnExactBlankPages (f : Int) (A : Option Addr) (n c : Nat) (r : Bool) (l : List Int) (w : World) (h : Rd I w w.heap.size A n l) (hnc : n ≤ 9223372036854775807) (hf : -9223372036854775808 ≤ f ∧ f ≤ 9223372036854775807) :
    Calls Try.prog 6 #[BK f A n c r] w fun e w' => e = .returned (.bool true) ∧ Below w.heap.size w w' := by
  by_cases hn : n ≤ 1048576
  · have HQ : Hid ((if (n : Int) ≤ 1048576 then 1048576 - (n : Int) else -1) = 1048576 - (n : Int)) := if_pos (by omega)
    have hq0 : 0 ≤ 1048576 - (n : Int) := by omega
    go_enter Try.func6, Try.ntmps6
    go_wp2_with fail
    refine (szBook_any _ _ _ _ _ _ hnc _ HQ.out).mono ?_
    rintro e w1 ⟨rfl, hb1⟩
    have hz1 := hb1.size
    simp only [World.size_alloc] at hz1
    have hB1 : Below w.heap.size w w1 := ((Below.refl w.heap.size w).alloc (Nat.le_refl _) _).trans (hb1.mono (by simp))
    have bA_1 := (Blk.new (w := w) (g := w.heap.size) #[.int .i64 f, .slice A n c, .bool r] 38 rfl).below hb1 (by simp)
    have cbA0_1 := bA_1.cell 0 (v := .int .i64 f) rfl
    have cbA1_1 := bA_1.cell 1 (v := .slice A n c) rfl
    have cbA2_1 := bA_1.cell 2 (v := .bool r) rfl
    go_wp2_with fail
    refine (toBook_any f A n c w.heap.size r l _ (h.below (hB1) (Nat.le_refl _)) (by omega) hn).mono ?_
    rintro e w2 ⟨gS, rfl, oS_2, hb2⟩
    have hz2 := hb2.size
    have hB2 : Below w.heap.size w w2 := hB1.trans (hb2.mono (by omega))
    have bA_2 := bA_1.below hb2 (by omega)
    have cbA0_2 := bA_2.cell 0 (v := .int .i64 f) rfl
    have cbA1_2 := bA_2.cell 1 (v := .slice A n c) rfl
    have cbA2_2 := bA_2.cell 2 (v := .bool r) rfl
    clear cbA0_1 cbA1_1 cbA2_1
    go_wp2_with fail
    refine (specBlank_any _ _ _ _ _ _ _ _ oS_2.rd (Nat.le_refl _) hn).mono ?_
    rintro e w3 ⟨AW, nW, cW, rfl, oW_3, hnW, hb3⟩
    have hz3 := hb3.size
    have hB3 : Below w.heap.size w w3 := hB2.trans (hb3.mono (by omega))
    have bA_3 := bA_2.below hb3 (by omega)
    have oS_3 := oS_2.below hb3 (by omega)
    have cbA0_3 := bA_3.cell 0 (v := .int .i64 f) rfl
    have cbA1_3 := bA_3.cell 1 (v := .slice A n c) rfl
    have cbA2_3 := bA_3.cell 2 (v := .bool r) rfl
    clear cbA0_2 cbA1_2 cbA2_2
    go_wp2_with fail
    refine (toBook_any f A n c w.heap.size r l _ (h.below (hB3) (Nat.le_refl _)) (by omega) hn).mono ?_
    rintro e w4 ⟨gX, rfl, oX_4, hb4⟩
    have hz4 := hb4.size
    have hB4 : Below w.heap.size w w4 := hB3.trans (hb4.mono (by omega))
    have bA_4 := bA_3.below hb4 (by omega)
    have oW_4 := oW_3.below hb4 (by omega)
    have cbA0_4 := bA_4.cell 0 (v := .int .i64 f) rfl
    have cbA1_4 := bA_4.cell 1 (v := .slice A n c) rfl
    have cbA2_4 := bA_4.cell 2 (v := .bool r) rfl
    clear cbA0_3 cbA1_3 cbA2_3
    go_wp2_with fail
    refine (implBlank_any _ _ _ _ _ _ _ _ (oX_4.rd.alloc (Nat.le_refl _) _) (by simp) hn hf).mono ?_
    rintro e w5 ⟨AG, nG, cG, rfl, oG_5, hnG, hb5⟩
    have hz5 := hb5.size
    simp only [World.size_alloc] at hz5
    have hB5 : Below w.heap.size w w5 := (hB4.alloc (by omega) _).trans (hb5.mono (by simp; omega))
    have bA_5 := (bA_4.alloc (.cells #[.int .i64 f, .slice (some ⟨gX, 0, none⟩) n n, .bool r] 26)).below hb5 (by simp; try omega)
    have oW_5 := (oW_4.alloc (.cells #[.int .i64 f, .slice (some ⟨gX, 0, none⟩) n n, .bool r] 26)).below hb5 (by simp; try omega)
    have oX_5 := (oX_4.alloc (.cells #[.int .i64 f, .slice (some ⟨gX, 0, none⟩) n n, .bool r] 26)).below hb5 (by simp; try omega)
    have bX_5 := (Blk.new (w := w4) (g := w4.heap.size) #[.int .i64 f, .slice (some ⟨gX, 0, none⟩) n n, .bool r] 26 rfl).below hb5 (by simp)
    have oG_5a := oG_5.mono (by simp : w4.heap.size + 1 ≤ _) (Nat.le_refl _)
    have cbA0_5 := bA_5.cell 0 (v := .int .i64 f) rfl
    have cbA1_5 := bA_5.cell 1 (v := .slice A n c) rfl
    have cbA2_5 := bA_5.cell 2 (v := .bool r) rfl
    have cbX0_5 := bX_5.cell 0 (v := .int .i64 f) rfl
    have cbX1_5 := bX_5.cell 1 (v := .slice (some ⟨gX, 0, none⟩) n n) rfl
    have cbX2_5 := bX_5.cell 2 (v := .bool r) rfl
    clear cbA0_4 cbA1_4 cbA2_4
    obtain rfl : nG = nW := oG_5a.rd.1.symm.trans oW_5.rd.1
    go_wp2_with fail
    refine (eqInt64S_true _ _ _ _ _ _ _ _ _ oG_5a.rd oW_5.rd hnG).mono ?_
    rintro e w6 ⟨rfl, hq6⟩
    have hz6 := hq6.le
    have hB6 : Below w.heap.size w w6 := hB5.trans (hq6.below _)
    have bA_6 := bA_5.q hq6
    have oW_6 := oW_5.q hq6
    have oX_6 := oX_5.q hq6
    have bX_6 := bX_5.q hq6
    have oG_6 := oG_5a.q hq6
    have cbA0_6 := bA_6.cell 0 (v := .int .i64 f) rfl
    have cbA1_6 := bA_6.cell 1 (v := .slice A n c) rfl
    have cbA2_6 := bA_6.cell 2 (v := .bool r) rfl
    have cbX0_6 := bX_6.cell 0 (v := .int .i64 f) rfl
    have cbX1_6 := bX_6.cell 1 (v := .slice (some ⟨gX, 0, none⟩) n n) rfl
    have cbX2_6 := bX_6.cell 2 (v := .bool r) rfl
    clear cbA0_5 cbA1_5 cbA2_5 cbX0_5 cbX1_5 cbX2_5
    go_wp2_with fail
    go_region_held3 (fun W => W.cell? ⟨w.heap.size, 0, none⟩ = some (.int .i64 f) ∧ W.cell? ⟨w.heap.size, 1, none⟩ = some (.slice A n c) ∧ W.cell? ⟨w.heap.size, 2, none⟩ = some (.bool r) ∧ W.cell? ⟨w4.heap.size, 0, none⟩ = some (.int .i64 f) ∧ W.cell? ⟨w4.heap.size, 1, none⟩ = some (.slice (some ⟨gX, 0, none⟩) n n) ∧ W.cell? ⟨w4.heap.size, 2, none⟩ = some (.bool r))
      (first | go_keep | (refine ⟨?_, ?_, ?_, ?_, ?_, ?_⟩ <;> (first | go_keep | (rw [hbk.cell (by first | omega | (simp; omega))]; first | assumption | go_keep))))
      (first
        | (go_at_call 26; refine (toBook_any _ _ _ _ _ _ _ _ ((h.below hB6 (Nat.le_refl _)).drewN 1) (by simp; omega) hn).mono ?_; rintro e wa ⟨gC, rfl, oC, hbk⟩; have hzk : w6.heap.size ≤ wa.heap.size := hbk.size; have hbk5 := hbk)
        | (go_at_call 27; refine (eqBook_true _ _ _ _ _ _ _ _ _ _ _ ((oX_6.rd.drewN 1).below hbk (by first | omega | (simp; omega))) oC.rd (by omega) (Nat.le_refl _) hn).mono ?_; rintro e w7 ⟨rfl, hbk⟩))
    have hb7 : Below w6.heap.size w6 w7 := (below_drewN' (Below.refl _ _) 1).trans (hbk5.trans (hbk.mono hbk5.size))
    have hz7 := hb7.size
    have hB7 : Below w.heap.size w w7 := hB6.trans (hb7.mono (by omega))
    have bA_7 := bA_6.below hb7 (by omega)
    have oW_7 := oW_6.below hb7 (by omega)
    have oX_7 := oX_6.below hb7 (by omega)
    have bX_7 := bX_6.below hb7 (by omega)
    have oG_7 := oG_6.below hb7 (by omega)
    have cbA0_7 := bA_7.cell 0 (v := .int .i64 f) rfl
    have cbA1_7 := bA_7.cell 1 (v := .slice A n c) rfl
    have cbA2_7 := bA_7.cell 2 (v := .bool r) rfl
    have cbX0_7 := bX_7.cell 0 (v := .int .i64 f) rfl
    have cbX1_7 := bX_7.cell 1 (v := .slice (some ⟨gX, 0, none⟩) n n) rfl
    have cbX2_7 := bX_7.cell 2 (v := .bool r) rfl
    clear cbA0_6 cbA1_6 cbA2_6 cbX0_6 cbX1_6 cbX2_6
    go_wp2_with fail
    refine (markBook_any _ _ _ _ _ _ _ 1 _ _ oX_7 hn (by omega) (by omega)).mono ?_
    rintro e w8 ⟨rfl, hm8⟩
    have hz8 := hm8.size
    have hB8 : Below w.heap.size w w8 := hB7.trans (hm8.below (by omega) (by omega))
    have bA_8 := bA_7.only hm8 (by omega)
    have oW_8 := oW_7.only hm8 (by omega)
    have bX_8 := bX_7.only hm8 (by omega)
    have oG_8 := oG_7.only hm8 (by omega)
    have cbA0_8 := bA_8.cell 0 (v := .int .i64 f) rfl
    have cbA1_8 := bA_8.cell 1 (v := .slice A n c) rfl
    have cbA2_8 := bA_8.cell 2 (v := .bool r) rfl
    have cbX0_8 := bX_8.cell 0 (v := .int .i64 f) rfl
    have cbX1_8 := bX_8.cell 1 (v := .slice (some ⟨gX, 0, none⟩) n n) rfl
    have cbX2_8 := bX_8.cell 2 (v := .bool r) rfl
    clear cbA0_7 cbA1_7 cbA2_7 cbX0_7 cbX1_7 cbX2_7
    go_wp2_with fail
    refine (eqInt64S_true _ _ _ _ _ _ _ _ _ oG_8.rd oW_8.rd hnG).mono ?_
    rintro e w9 ⟨rfl, hq9⟩
    have hz9 := hq9.le
    have hB9 : Below w.heap.size w w9 := hB8.trans (hq9.below _)
    have bA_9 := bA_8.q hq9
    have oW_9 := oW_8.q hq9
    have bX_9 := bX_8.q hq9
    have oG_9 := oG_8.q hq9
    have cbA0_9 := bA_9.cell 0 (v := .int .i64 f) rfl
    have cbA1_9 := bA_9.cell 1 (v := .slice A n c) rfl
    have cbA2_9 := bA_9.cell 2 (v := .bool r) rfl
    have cbX0_9 := bX_9.cell 0 (v := .int .i64 f) rfl
    have cbX1_9 := bX_9.cell 1 (v := .slice (some ⟨gX, 0, none⟩) n n) rfl
    have cbX2_9 := bX_9.cell 2 (v := .bool r) rfl
    clear cbA0_8 cbA1_8 cbA2_8 cbX0_8 cbX1_8 cbX2_8
    go_wp2_with fail
    refine (markInt64S_any _ _ _ _ _ 1 _ _ oG_9 hnG (by omega) (by omega)).mono ?_
    rintro e w10 ⟨rfl, hMG, hm10⟩
    have hz10 := hm10.size
    have hB10 : Below w.heap.size w w10 := hB9.trans (hm10.below (by omega) (by omega))
    have bA_10 := bA_9.only hm10 (by omega)
    have oW_10 := oW_9.only hm10 (by omega)
    have bX_10 := bX_9.only hm10 (by omega)
    have cbA0_10 := bA_10.cell 0 (v := .int .i64 f) rfl
    have cbA1_10 := bA_10.cell 1 (v := .slice A n c) rfl
    have cbA2_10 := bA_10.cell 2 (v := .bool r) rfl
    have cbX0_10 := bX_10.cell 0 (v := .int .i64 f) rfl
    have cbX1_10 := bX_10.cell 1 (v := .slice (some ⟨gX, 0, none⟩) n n) rfl
    have cbX2_10 := bX_10.cell 2 (v := .bool r) rfl
    clear cbA0_9 cbA1_9 cbA2_9 cbX0_9 cbX1_9 cbX2_9
    go_wp2_with fail
    refine (heldInt64S_any _ _ _ _ 1 _ hMG.rd hnG (by omega) (by omega)).mono ?_
    rintro e _ ⟨rfl, rfl⟩
    go_wp2_with fail
    refine (toBook_any f A n c w.heap.size r l _ (h.below (hB10) (Nat.le_refl _)) (by omega) hn).mono ?_
    rintro e w11 ⟨gY, rfl, oY_11, hb11⟩
    have hz11 := hb11.size
    have hB11 : Below w.heap.size w w11 := hB10.trans (hb11.mono (by omega))
    have bA_11 := bA_10.below hb11 (by omega)
    have oW_11 := oW_10.below hb11 (by omega)
    have bX_11 := bX_10.below hb11 (by omega)
    have oG_11 := hMG.below hb11 (by omega)
    have cbA0_11 := bA_11.cell 0 (v := .int .i64 f) rfl
    have cbA1_11 := bA_11.cell 1 (v := .slice A n c) rfl
    have cbA2_11 := bA_11.cell 2 (v := .bool r) rfl
    have cbX0_11 := bX_11.cell 0 (v := .int .i64 f) rfl
    have cbX1_11 := bX_11.cell 1 (v := .slice (some ⟨gX, 0, none⟩) n n) rfl
    have cbX2_11 := bX_11.cell 2 (v := .bool r) rfl
    clear cbA0_10 cbA1_10 cbA2_10 cbX0_10 cbX1_10 cbX2_10
    go_wp2_with fail
    refine (implBlank_any _ _ _ _ _ _ _ _ oY_11.rd (Nat.le_refl _) hn hf).mono ?_
    rintro e w12 ⟨AH, nH, cH, rfl, oH_12, hnH, hb12⟩
    have hz12 := hb12.size
    have hB12 : Below w.heap.size w w12 := hB11.trans (hb12.mono (by omega))
    have bA_12 := bA_11.below hb12 (by omega)
    have oW_12 := oW_11.below hb12 (by omega)
    have bX_12 := bX_11.below hb12 (by omega)
    have oG_12 := oG_11.below hb12 (by omega)
    have oY_12 := oY_11.below hb12 (by omega)
    have cbA0_12 := bA_12.cell 0 (v := .int .i64 f) rfl
    have cbA1_12 := bA_12.cell 1 (v := .slice A n c) rfl
    have cbA2_12 := bA_12.cell 2 (v := .bool r) rfl
    have cbX0_12 := bX_12.cell 0 (v := .int .i64 f) rfl
    have cbX1_12 := bX_12.cell 1 (v := .slice (some ⟨gX, 0, none⟩) n n) rfl
    have cbX2_12 := bX_12.cell 2 (v := .bool r) rfl
    clear cbA0_11 cbA1_11 cbA2_11 cbX0_11 cbX1_11 cbX2_11
    obtain rfl : nH = nG := oH_12.rd.1.symm.trans oW_12.rd.1
    go_wp2_with fail
    refine (eqInt64S_true _ _ _ _ _ _ _ _ _ oH_12.rd oW_12.rd hnG).mono ?_
    rintro e w13 ⟨rfl, hq13⟩
    have hz13 := hq13.le
    have hB13 : Below w.heap.size w w13 := hB12.trans (hq13.below _)
    have bA_13 := bA_12.q hq13
    have oW_13 := oW_12.q hq13
    have bX_13 := bX_12.q hq13
    have oG_13 := oG_12.q hq13
    have oH_13 := oH_12.q hq13
    have cbA0_13 := bA_13.cell 0 (v := .int .i64 f) rfl
    have cbA1_13 := bA_13.cell 1 (v := .slice A n c) rfl
    have cbA2_13 := bA_13.cell 2 (v := .bool r) rfl
    have cbX0_13 := bX_13.cell 0 (v := .int .i64 f) rfl
    have cbX1_13 := bX_13.cell 1 (v := .slice (some ⟨gX, 0, none⟩) n n) rfl
    have cbX2_13 := bX_13.cell 2 (v := .bool r) rfl
    clear cbA0_12 cbA1_12 cbA2_12 cbX0_12 cbX1_12 cbX2_12
    go_wp2_with fail
    refine (heldInt64S_any _ _ _ _ 1 _ oG_13.rd hnG (by omega) (by omega)).mono ?_
    rintro e _ ⟨rfl, rfl⟩
    go_wp2_with fail
    go_ret
    exact ⟨rfl, hB13⟩
  · have HQ : Hid ((if (n : Int) ≤ 1048576 then 1048576 - (n : Int) else -1) = -1) := if_neg (by omega)
    go_enter Try.func6, Try.ntmps6
    go_wp2_with fail
    refine (szBook_any _ _ _ _ _ _ hnc _ HQ.out).mono ?_
    rintro e w1 ⟨rfl, hb1⟩
    have hB1 : Below w.heap.size w w1 := ((Below.refl w.heap.size w).alloc (Nat.le_refl _) _).trans (hb1.mono (by simp))
    go_wp2_with fail
    go_ret
    exact ⟨rfl, hB1⟩
end Go.Proofs.Ytoanopgafihjiaa
