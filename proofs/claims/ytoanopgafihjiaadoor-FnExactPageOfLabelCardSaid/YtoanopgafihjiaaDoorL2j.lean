/- The walk of the exact law of PageOfLabel, out of the contracts. -/
import Derived.Test.YtoanopgafihjiaaDoorPol2
import Derived.Test.YtoanopgafihjiaaDoorRoLaid
import Derived.Deep.RegionHeld3
namespace Go.Proofs.YtoanopgafihjiaaDoor
open Go.RowKit

set_option maxRecDepth 100000 in
set_option maxHeartbeats 2000000 in
theorem w_FnExactPageOfLabel (f : Int) (A : Option Addr) (n c : Nat) (r : Bool) (l : List Int) (s0 : ByteArray) (w : World) (h : Rd I w w.heap.size A n l) (hnc : n ≤ 9223372036854775807) (hf : -9223372036854775808 ≤ f ∧ f ≤ 9223372036854775807) (_w0 : s0.size ≤ maxLen) (hsg : Sg w) (htab : Lib.TabIs Tryd.prog w "internal/strconv.uint64pow10" .u64 Lib.pow10Tab) :
    Calls Tryd.prog 6 #[BK f A n c r, .string s0] w fun e w' => e = .returned (.bool true) ∧ Below w.heap.size w w' := by
  have HENV : Hid (Env w) := (show Env w from ⟨hsg, htab⟩)
  clear hsg htab
  have hm0 := _w0
  unfold maxLen at hm0
  by_cases hs0 : 1048576 < s0.size
  · go_enter Tryd.func6, Tryd.ntmps6
    go_wp2_with fail
    go_ret
    exact ⟨rfl, by first | exact Below.refl _ _ | exact (Below.refl _ _).alloc (Nat.le_refl _) _⟩
  have hsl0 : s0.size ≤ 1048576 := by omega
  clear hs0
  by_cases hn : n ≤ 1048576
  · have HQ : Hid ((if (n : Int) ≤ 1048576 then 1048576 - (n : Int) else -1) = 1048576 - (n : Int)) := if_pos (by omega)
    have hq0 : 0 ≤ 1048576 - (n : Int) := by omega
    go_enter Tryd.func6, Tryd.ntmps6
    go_wp2_with fail
    refine (szBook_any _ _ _ _ _ _ hnc _ HQ.out).mono ?_
    rintro e w1 ⟨rfl, hb1⟩
    have hz1 := hb1.size
    simp only [World.size_alloc] at hz1
    have hB1 : Below w.heap.size w w1 := ((Below.refl w.heap.size w).alloc (Nat.le_refl _) _).trans (hb1.mono (by simp))
    have bA_1 := (Blk.new (w := w) (g := w.heap.size) #[.int .i64 f, .slice A n c, .bool r] 42 rfl).below hb1 (by simp)
    have cbA0_1 := bA_1.cell 0 (v := .int .i64 f) rfl
    have cbA1_1 := bA_1.cell 1 (v := .slice A n c) rfl
    have cbA2_1 := bA_1.cell 2 (v := .bool r) rfl
    go_wp2_with fail
    refine (toBook_any f A n c w.heap.size r l _ (h.below (hB1) (Nat.le_refl _)) (by omega) hn).mono ?_
    rintro e w2 ⟨gS, rfl, oS_2, hb2⟩
    have hz2 := hb2.size
    have hB2 : Below w.heap.size w w2 := hB1.trans (hb2.mono (by omega))
    have bA_2 := bA_1.below hb2 (by omega)
    have cbA0_2 := bA_2.cell 0 (v := .int .i64 f) rfl
    have cbA1_2 := bA_2.cell 1 (v := .slice A n c) rfl
    have cbA2_2 := bA_2.cell 2 (v := .bool r) rfl
    clear cbA0_1 cbA1_1 cbA2_1
    go_wp2_with fail
    refine (specPol_any _ _ _ _ _ _ _ s0 _ oS_2.rd (Nat.le_refl _) hn).mono ?_
    rintro e w3 ⟨rfl, hb3⟩
    have hz3 := hb3.size
    have hB3 : Below w.heap.size w w3 := hB2.trans (hb3.mono (by omega))
    have bA_3 := bA_2.below hb3 (by omega)
    have oS_3 := oS_2.below hb3 (by omega)
    have cbA0_3 := bA_3.cell 0 (v := .int .i64 f) rfl
    have cbA1_3 := bA_3.cell 1 (v := .slice A n c) rfl
    have cbA2_3 := bA_3.cell 2 (v := .bool r) rfl
    clear cbA0_2 cbA1_2 cbA2_2
    go_wp2_with fail
    refine (toBook_any f A n c w.heap.size r l _ (h.below (hB3) (Nat.le_refl _)) (by omega) hn).mono ?_
    rintro e w4 ⟨gX, rfl, oX_4, hb4⟩
    have hz4 := hb4.size
    have hB4 : Below w.heap.size w w4 := hB3.trans (hb4.mono (by omega))
    have bA_4 := bA_3.below hb4 (by omega)
    have cbA0_4 := bA_4.cell 0 (v := .int .i64 f) rfl
    have cbA1_4 := bA_4.cell 1 (v := .slice A n c) rfl
    have cbA2_4 := bA_4.cell 2 (v := .bool r) rfl
    clear cbA0_3 cbA1_3 cbA2_3
    go_wp2_with fail
    refine (implPol_any _ _ _ _ _ _ _ s0 _ (oX_4.rd.alloc (Nat.le_refl _) _) (by simp) hn hf ((HENV.out.below hB4).alloc _)).mono ?_
    rintro e w5 ⟨rfl, hb5⟩
    have hz5 := hb5.size
    simp only [World.size_alloc] at hz5
    have hB5 : Below w.heap.size w w5 := (hB4.alloc (by omega) _).trans (hb5.mono (by simp; omega))
    have bA_5 := (bA_4.alloc (.cells #[.int .i64 f, .slice (some ⟨gX, 0, none⟩) n n, .bool r] 26)).below hb5 (by simp; try omega)
    have oX_5 := (oX_4.alloc (.cells #[.int .i64 f, .slice (some ⟨gX, 0, none⟩) n n, .bool r] 26)).below hb5 (by simp; try omega)
    have bX_5 := (Blk.new (w := w4) (g := w4.heap.size) #[.int .i64 f, .slice (some ⟨gX, 0, none⟩) n n, .bool r] 26 rfl).below hb5 (by simp)
    have cbA0_5 := bA_5.cell 0 (v := .int .i64 f) rfl
    have cbA1_5 := bA_5.cell 1 (v := .slice A n c) rfl
    have cbA2_5 := bA_5.cell 2 (v := .bool r) rfl
    have cbX0_5 := bX_5.cell 0 (v := .int .i64 f) rfl
    have cbX1_5 := bX_5.cell 1 (v := .slice (some ⟨gX, 0, none⟩) n n) rfl
    have cbX2_5 := bX_5.cell 2 (v := .bool r) rfl
    clear cbA0_4 cbA1_4 cbA2_4
    go_wp2_with fail
    go_region_held3 (fun W => W.cell? ⟨w.heap.size, 0, none⟩ = some (.int .i64 f) ∧ W.cell? ⟨w.heap.size, 1, none⟩ = some (.slice A n c) ∧ W.cell? ⟨w.heap.size, 2, none⟩ = some (.bool r) ∧ W.cell? ⟨w4.heap.size, 0, none⟩ = some (.int .i64 f) ∧ W.cell? ⟨w4.heap.size, 1, none⟩ = some (.slice (some ⟨gX, 0, none⟩) n n) ∧ W.cell? ⟨w4.heap.size, 2, none⟩ = some (.bool r))
      (first | go_keep | (refine ⟨?_, ?_, ?_, ?_, ?_, ?_⟩ <;> (first | go_keep | (rw [hbk.cell (by first | omega | (simp; omega))]; first | assumption | go_keep))))
      (first
        | (go_at_call 26; refine (toBook_any _ _ _ _ _ _ _ _ ((h.below hB5 (Nat.le_refl _)).drewN 1) (by simp; omega) hn).mono ?_; rintro e wa ⟨gC, rfl, oC, hbk⟩; have hzk : w5.heap.size ≤ wa.heap.size := hbk.size; have hbk5 := hbk)
        | (go_at_call 27; refine (eqBook_true _ _ _ _ _ _ _ _ _ _ _ ((oX_5.rd.drewN 1).below hbk (by first | omega | (simp; omega))) oC.rd (by omega) (Nat.le_refl _) hn).mono ?_; rintro e w6 ⟨rfl, hbk⟩))
    have hb6 : Below w5.heap.size w5 w6 := (below_drewN' (Below.refl _ _) 1).trans (hbk5.trans (hbk.mono hbk5.size))
    have hz6 := hb6.size
    have hB6 : Below w.heap.size w w6 := hB5.trans (hb6.mono (by omega))
    have bA_6 := bA_5.below hb6 (by omega)
    have oX_6 := oX_5.below hb6 (by omega)
    have bX_6 := bX_5.below hb6 (by omega)
    have cbA0_6 := bA_6.cell 0 (v := .int .i64 f) rfl
    have cbA1_6 := bA_6.cell 1 (v := .slice A n c) rfl
    have cbA2_6 := bA_6.cell 2 (v := .bool r) rfl
    have cbX0_6 := bX_6.cell 0 (v := .int .i64 f) rfl
    have cbX1_6 := bX_6.cell 1 (v := .slice (some ⟨gX, 0, none⟩) n n) rfl
    have cbX2_6 := bX_6.cell 2 (v := .bool r) rfl
    clear cbA0_5 cbA1_5 cbA2_5 cbX0_5 cbX1_5 cbX2_5
    go_wp2_with fail
    go_ret
    exact ⟨rfl, hB6⟩
  · have HQ : Hid ((if (n : Int) ≤ 1048576 then 1048576 - (n : Int) else -1) = -1) := if_neg (by omega)
    go_enter Tryd.func6, Tryd.ntmps6
    go_wp2_with fail
    refine (szBook_any _ _ _ _ _ _ hnc _ HQ.out).mono ?_
    rintro e w1 ⟨rfl, hb1⟩
    have hB1 : Below w.heap.size w w1 := ((Below.refl w.heap.size w).alloc (Nat.le_refl _) _).trans (hb1.mono (by simp))
    go_wp2_with fail
    go_ret
    exact ⟨rfl, hB1⟩
end Go.Proofs.YtoanopgafihjiaaDoor
