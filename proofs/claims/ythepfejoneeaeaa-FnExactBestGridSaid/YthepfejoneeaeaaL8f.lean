/- The walk of the exact law of BestGrid, out of the contracts. -/
import Derived.Test.YthepfejoneeaeaaPrLw
import Derived.Test.YthepfejoneeaeaaPrBi
namespace Go.Proofs.Ythepfejoneeaeaa
open Go.RowKit
set_option linter.unusedVariables false

set_option maxRecDepth 100000 in
set_option maxHeartbeats 4000000 in
theorem w_FnExactBestGrid (a b g : Int) (r : Bool) (c d e f : Int) (o : Bool) (w : World) :
    Calls Try.prog 10 #[PV a b g r, TV c d e f, .bool o] w fun e' w' => e' = .returned (.bool true) ∧ Below w.heap.size w w' := by
  obtain ⟨z, x, k, hbg⟩ := Pr.bg_ex a b g r c d e f o
  have HG := Lib.hid hbg
  clear hbg
  have B0_0 := Lib.hid ((Blk.new (w := w) (g := w.heap.size) #[.int .i64 a, .int .i64 b, .int .i64 g, .bool r] 49 (by simp)).alloc (.cells #[.int .i64 c, .int .i64 d, .int .i64 e, .int .i64 f] 52))
  have B0_1 := Lib.hid (Blk.new (w := (w.alloc (.cells #[.int .i64 a, .int .i64 b, .int .i64 g, .bool r] 49))) (g := w.heap.size + 1) #[.int .i64 c, .int .i64 d, .int .i64 e, .int .i64 f] 52 (by simp))
  have HB0 := Lib.hid ((below_new w (.cells #[.int .i64 a, .int .i64 b, .int .i64 g, .bool r] 49)).alloc (by simp <;> omega) (.cells #[.int .i64 c, .int .i64 d, .int .i64 e, .int .i64 f] 52))
  have Z0 : ((w.alloc (.cells #[.int .i64 a, .int .i64 b, .int .i64 g, .bool r] 49)).alloc (.cells #[.int .i64 c, .int .i64 d, .int .i64 e, .int .i64 f] 52)).heap.size = w.heap.size + 2 := by simp
  have HZ0 := Lib.hid Z0
  clear Z0
  go_enter Try.func10, Try.ntmps10
  go_wp2_with fail
  go_region_held3 (fun V => V.cell? ⟨w.heap.size, 0, none⟩ = some (.int .i64 a) ∧ V.cell? ⟨w.heap.size, 1, none⟩ = some (.int .i64 b) ∧ V.cell? ⟨w.heap.size, 2, none⟩ = some (.int .i64 g) ∧ V.cell? ⟨w.heap.size, 3, none⟩ = some (.bool r) ∧ V.cell? ⟨w.heap.size + 1, 0, none⟩ = some (.int .i64 c) ∧ V.cell? ⟨w.heap.size + 1, 1, none⟩ = some (.int .i64 d) ∧ V.cell? ⟨w.heap.size + 1, 2, none⟩ = some (.int .i64 e) ∧ V.cell? ⟨w.heap.size + 1, 3, none⟩ = some (.int .i64 f))
    (first | go_keep | (refine ⟨?_, ?_, ?_, ?_, ?_, ?_, ?_, ?_⟩ <;> (first | go_keep | (rw [hbk.cell (by first | omega | (simp; omega) | simp)]; first | assumption | go_keep))))
    (first
      | (go_at_call 28; with_reducible refine (specBg_any a b g c d e f x k r o z _ HG.out).mono ?_; rintro e' w3 ⟨rfl, hbk⟩; have hbk3 := hbk; have zk3 := hbk.size)
      | (go_at_call 35; with_reducible refine (toTrim_any c d e f _).mono ?_; rintro e' w2 ⟨rfl, hbk⟩; have hbk2 := hbk; have zk2 := hbk.size)
      | (go_at_call 34; with_reducible refine (toPress_any a b g r _).mono ?_; rintro e' w1 ⟨rfl, hbk⟩; have hbk1 := hbk; have zk1 := sz_new2 hbk))
  have hb3 : Below ((w.alloc (.cells #[.int .i64 a, .int .i64 b, .int .i64 g, .bool r] 49)).alloc (.cells #[.int .i64 c, .int .i64 d, .int .i64 e, .int .i64 f] 52)).heap.size ((w.alloc (.cells #[.int .i64 a, .int .i64 b, .int .i64 g, .bool r] 49)).alloc (.cells #[.int .i64 c, .int .i64 d, .int .i64 e, .int .i64 f] 52)) w3 := (below_drewN' (Below.refl _ ((w.alloc (.cells #[.int .i64 a, .int .i64 b, .int .i64 g, .bool r] 49)).alloc (.cells #[.int .i64 c, .int .i64 d, .int .i64 e, .int .i64 f] 52))) 1).trans (hbk1.trans ((hbk2.trans (hbk3.mono hbk2.size)).mono hbk1.size))
  clear hbk hbk1 zk1 hbk2 zk2 hbk3 zk3
  have z3 : w.heap.size + 2 ≤ w3.heap.size := by have h_ := hb3.size; rw [HZ0.out] at h_; exact h_
  have HB3 := Lib.hid (HB0.out.trans (hb3.mono (by rw [HZ0.out]; omega)))
  have B3_0 := Lib.hid (B0_0.out.below hb3 B0_0.out.lt)
  have B3_1 := Lib.hid (B0_1.out.below hb3 B0_1.out.lt)
  clear hb3
  have c3_0_0 := B3_0.out.cell 0 (v := .int .i64 a) rfl
  have c3_0_1 := B3_0.out.cell 1 (v := .int .i64 b) rfl
  have c3_0_2 := B3_0.out.cell 2 (v := .int .i64 g) rfl
  have c3_0_3 := B3_0.out.cell 3 (v := .bool r) rfl
  have c3_1_0 := B3_1.out.cell 0 (v := .int .i64 c) rfl
  have c3_1_1 := B3_1.out.cell 1 (v := .int .i64 d) rfl
  have c3_1_2 := B3_1.out.cell 2 (v := .int .i64 e) rfl
  have c3_1_3 := B3_1.out.cell 3 (v := .int .i64 f) rfl
  go_wp2_with fail
  go_region_held3 (fun V => V.cell? ⟨w.heap.size, 0, none⟩ = some (.int .i64 a) ∧ V.cell? ⟨w.heap.size, 1, none⟩ = some (.int .i64 b) ∧ V.cell? ⟨w.heap.size, 2, none⟩ = some (.int .i64 g) ∧ V.cell? ⟨w.heap.size, 3, none⟩ = some (.bool r) ∧ V.cell? ⟨w.heap.size + 1, 0, none⟩ = some (.int .i64 c) ∧ V.cell? ⟨w.heap.size + 1, 1, none⟩ = some (.int .i64 d) ∧ V.cell? ⟨w.heap.size + 1, 2, none⟩ = some (.int .i64 e) ∧ V.cell? ⟨w.heap.size + 1, 3, none⟩ = some (.int .i64 f))
    (first | go_keep | (refine ⟨?_, ?_, ?_, ?_, ?_, ?_, ?_, ?_⟩ <;> (first | go_keep | (rw [hbk.cell (by first | omega | (simp; omega) | simp)]; first | assumption | go_keep))))
    (first
      | (go_at_call 27; with_reducible refine (implBg_any a b g c d e f x k r o z _ HG.out).mono ?_; rintro e' w6 ⟨rfl, hbk⟩; have hbk6 := hbk; have zk6 := hbk.size)
      | (go_at_call 35; with_reducible refine (toTrim_any c d e f _).mono ?_; rintro e' w5 ⟨rfl, hbk⟩; have hbk5 := hbk; have zk5 := hbk.size)
      | (go_at_call 34; with_reducible refine (toPress_any a b g r _).mono ?_; rintro e' w4 ⟨rfl, hbk⟩; have hbk4 := hbk; have zk4 := sz_drew hbk))
  have hb6 : Below w3.heap.size w3 w6 := (below_drewN' (Below.refl _ w3) 1).trans (hbk4.trans ((hbk5.trans (hbk6.mono hbk5.size)).mono hbk4.size))
  clear hbk hbk4 zk4 hbk5 zk5 hbk6 zk6
  have z6 : w.heap.size + 2 ≤ w6.heap.size := Nat.le_trans z3 hb6.size
  have HB6 := Lib.hid (HB3.out.trans (hb6.mono (by omega)))
  have B6_0 := Lib.hid (B3_0.out.below hb6 B3_0.out.lt)
  have B6_1 := Lib.hid (B3_1.out.below hb6 B3_1.out.lt)
  clear hb6
  clear c3_0_0 c3_0_1 c3_0_2 c3_0_3 c3_1_0 c3_1_1 c3_1_2 c3_1_3
  go_wp2_with fail
  go_ret
  exact ⟨rfl, HB6.out⟩
end Go.Proofs.Ythepfejoneeaeaa
