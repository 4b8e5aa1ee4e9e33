/- The walk of the exact law of IsBook, out of the contracts. -/
import Derived.Test.YtoanopgafihjiaaBook2
import Derived.Deep.RegionHeld3
import Derived.Outline
namespace Go.Proofs.Ytoanopgafihjiaa
open Go.RowKit

set_option maxRecDepth 100000 in
set_option maxHeartbeats 1000000 in
theorem w_FnExactIsBook (f : Int) (A : Option Addr) (n c : Nat) (r : Bool) (l : List Int) (w : World) (h : Rd I w w.heap.size A n l) (hnc : n ≤ 9223372036854775807) (hf : -9223372036854775808 ≤ f ∧ f ≤ 9223372036854775807) :
    Calls Try.prog 4 #[BK f A n c r] w fun e w' => e = .returned (.bool true) ∧ Below w.heap.size w w' := by
  by_cases hn : n ≤ 1048576
  · have HQ : Hid ((if (n : Int) ≤ 1048576 then 1048576 - (n : Int) else -1) = 1048576 - (n : Int)) := if_pos (by omega)
    have hq0 : 0 ≤ 1048576 - (n : Int) := by omega
    go_enter Try.func4, Try.ntmps4
    go_wp2_with fail
    refine (szBook_any _ _ _ _ _ _ hnc _ HQ.out).mono ?_
    rintro e w1 ⟨rfl, hb1⟩
    have hz1 := hb1.size
    simp only [World.size_alloc] at hz1
    have a1 := (Blk.new (w := w) (g := w.heap.size) #[.int .i64 f, .slice A n c, .bool r] 38 rfl).below hb1 (by simp)
    have a10 := a1.cell 0 rfl
    have a11 := a1.cell 1 rfl
    have a12 := a1.cell 2 rfl
    have hB1 : Below w.heap.size w w1 := ((Below.refl w.heap.size w).alloc (Nat.le_refl _) _).trans (hb1.mono (by simp))
    go_wp2_with fail
    refine (toBook_any _ _ _ _ _ _ _ _ (h.below hB1 (Nat.le_refl _)) (by omega) hn).mono ?_
    rintro e w2 ⟨g2, rfl, ho2, hb2⟩
    have hz2 := hb2.size
    have a2 := a1.below hb2 (by omega)
    have a20 := a2.cell 0 rfl
    have a21 := a2.cell 1 rfl
    have a22 := a2.cell 2 rfl
    have hB2 := hB1.trans (hb2.mono (by omega))
    go_wp2_with fail
    refine (specIsBook_any _ _ _ _ _ _ _ _ ho2.rd (by omega) hn).mono ?_
    rintro e w3 ⟨rfl, hb3⟩
    have hz3 := hb3.size
    have a3 := a2.below hb3 (by omega)
    have a30 := a3.cell 0 rfl
    have a31 := a3.cell 1 rfl
    have a32 := a3.cell 2 rfl
    have hB3 := hB2.trans (hb3.mono (by omega))
    go_wp2_with fail
    refine (toBook_any _ _ _ _ _ _ _ _ (h.below hB3 (Nat.le_refl _)) (by omega) hn).mono ?_
    rintro e w4 ⟨g4, rfl, ho4, hb4⟩
    have hz4 := hb4.size
    have a4 := a3.below hb4 (by omega)
    have hB4 := hB3.trans (hb4.mono (by omega))
    go_wp2_with fail
    refine (implIsBook_any _ _ _ _ _ _ _ _ (ho4.rd.alloc (Nat.le_refl _) _) (by simp) hn hf).mono ?_
    rintro e w5 ⟨rfl, hb5⟩
    have hz5 := hb5.size
    simp only [World.size_alloc] at hz5
    have a5 := (a4.alloc (.cells #[.int .i64 f, .slice (some ⟨g4, 0, none⟩) n n, .bool r] 26)).below hb5 (by simp; try omega)
    have x5 := (Blk.new (w := w4) (g := w4.heap.size) #[.int .i64 f, .slice (some ⟨g4, 0, none⟩) n n, .bool r] 26 rfl).below hb5 (by simp)
    have a50 := a5.cell 0 (v := .int .i64 f) rfl
    have a51 := a5.cell 1 (v := .slice A n c) rfl
    have a52 := a5.cell 2 (v := .bool r) rfl
    have x50 := x5.cell 0 (v := .int .i64 f) rfl
    have x51 := x5.cell 1 (v := .slice (some ⟨g4, 0, none⟩) n n) rfl
    have x52 := x5.cell 2 (v := .bool r) rfl
    have hB5 : Below w.heap.size w w5 := (hB4.alloc (by omega) _).trans (hb5.mono (by simp; omega))
    have ho5 := (ho4.alloc (.cells #[.int .i64 f, .slice (some ⟨g4, 0, none⟩) n n, .bool r] 26)).below hb5 (by simp)
    clear a10 a11 a12 a20 a21 a22 a30 a31 a32
    go_wp2_with fail
    go_region_held3 (fun W => W.cell? ⟨w.heap.size, 0, none⟩ = some (.int .i64 f) ∧ W.cell? ⟨w.heap.size, 1, none⟩ = some (.slice A n c) ∧ W.cell? ⟨w.heap.size, 2, none⟩ = some (.bool r) ∧ W.cell? ⟨w4.heap.size, 0, none⟩ = some (.int .i64 f) ∧ W.cell? ⟨w4.heap.size, 1, none⟩ = some (.slice (some ⟨g4, 0, none⟩) n n) ∧ W.cell? ⟨w4.heap.size, 2, none⟩ = some (.bool r))
      (first | go_keep | (refine ⟨?_, ?_, ?_, ?_, ?_, ?_⟩ <;> (first | go_keep | (rw [hbk.cell (by first | omega | (simp; omega))]; first | assumption | go_keep))))
      (first
        | (go_at_call 26; refine (toBook_any _ _ _ _ _ _ _ _ ((h.below hB5 (Nat.le_refl _)).drewN 1) (by simp; omega) hn).mono ?_; rintro e w6 ⟨g6, rfl, ho6, hbk⟩; have hzk : w5.heap.size ≤ w6.heap.size := hbk.size; have hbk5 := hbk)
        | (go_at_call 27; refine (eqBook_true _ _ _ _ _ _ _ _ _ _ _ ((ho5.rd.drewN 1).below hbk (by simp; omega)) ho6.rd (by omega) (Nat.le_refl _) hn).mono ?_; rintro e w7 ⟨rfl, hbk⟩))
    go_wp2_with fail
    go_ret
    exact ⟨rfl, (below_drewN' hB5 1).trans ((hbk5.mono (by simp; omega)).trans (hbk.mono (by omega)))⟩
  · have HQ : Hid ((if (n : Int) ≤ 1048576 then 1048576 - (n : Int) else -1) = -1) := if_neg (by omega)
    go_enter Try.func4, Try.ntmps4
    go_wp2_with fail
    refine (szBook_any _ _ _ _ _ _ hnc _ HQ.out).mono ?_
    rintro e w1 ⟨rfl, hb1⟩
    have hB1 : Below w.heap.size w w1 := ((Below.refl w.heap.size w).alloc (Nat.le_refl _) _).trans (hb1.mono (by simp))
    go_wp2_with fail
    go_ret
    exact ⟨rfl, hB1⟩
end Go.Proofs.Ytoanopgafihjiaa
