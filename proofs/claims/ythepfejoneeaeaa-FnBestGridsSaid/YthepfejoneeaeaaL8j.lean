/- The walk of the law FnBestGrids, out of the contracts. -/
import Derived.Test.YthepfejoneeaeaaPrDy
import Derived.Test.YthepfejoneeaeaaPrLw
import Derived.Test.YthepfejoneeaeaaPrLi
import Derived.Test.YthepfejoneeaeaaPrBi
import Derived.Test.YthepfejoneeaeaaPrMa3
import Derived.Test.YthepfejoneeaeaaSgLk
import Derived.Laws.StructEq
namespace Go.Proofs.Ythepfejoneeaeaa
open Go.RowKit
set_option linter.unusedVariables false

set_option maxRecDepth 100000 in
theorem neTm (c d e f : Int) (W : World) : (binOp .neq 27 (.agg #[.int .i64 c, .int .i64 d, .int .i64 e, .int .i64 f]) (.agg #[.int .i64 c, .int .i64 d, .int .i64 e, .int .i64 f])).run Try.prog W = .ok (.bool false) W := by
  have hf : Try.prog.underlying 27 = some (.struct (Try.prog.fieldsOf 27)) := by kernel_rfl
  have hp : Try.prog.stoodInHeld 27 = false := by kernel_rfl
  rw [run_neq_struct, run_equalIn_struct W 9999 _ _ _ hf hp]
  have hu := Try.underlying27
  rw [hf] at hu
  injection hu with hu
  injection hu with hu
  rw [hu]
  simp [Op.eqFields, go_sem, Try.underlying2]
set_option maxRecDepth 100000 in
theorem nePr (a b g : Int) (r : Bool) (W : World) : (binOp .neq 25 (.agg #[.int .i64 a, .int .i64 b, .int .i64 g, .bool r]) (.agg #[.int .i64 a, .int .i64 b, .int .i64 g, .bool r])).run Try.prog W = .ok (.bool false) W := by
  have hf : Try.prog.underlying 25 = some (.struct (Try.prog.fieldsOf 25)) := by kernel_rfl
  have hp : Try.prog.stoodInHeld 25 = false := by kernel_rfl
  rw [run_neq_struct, run_equalIn_struct W 9999 _ _ _ hf hp]
  have hu := Try.underlying25
  rw [hf] at hu
  injection hu with hu
  injection hu with hu
  rw [hu]
  simp [Op.eqFields, go_sem, Try.underlying2, Try.underlying4]

set_option maxRecDepth 100000 in
set_option maxHeartbeats 40000000 in
theorem w_FnBestGrids (A : Option Addr) (N C : Nat) (l : List Int) (w : World) (h : Rd U w w.heap.size A N l) (hl : inByte l) :
    Calls Try.prog 4 #[.slice A N C] w fun e' w' => e' = .returned (.bool true) ∧ Below w.heap.size w w' := by
  by_cases hN : N ≤ 4096
  · have HF : Hid (decide (4096 < N) = false) := decide_eq_false (by omega)
    go_enter Try.func4, Try.ntmps4
    go_wp2_with fail
    refine (sgBig_any A N C _).mono ?_
    rintro e _ ⟨rfl, rfl⟩
    rw [HF.out]
    go_wp2_with fail
    refine (DrawBg_any N C w.heap.size A l w h hl (Nat.le_refl _) (by omega)).mono ?_
    rintro e' w1 ⟨a, b, q, r, c, d, e, f, o, rfl, hb1⟩
    have z1 : w.heap.size ≤ w1.heap.size := hb1.size
    have HB1 := Lib.hid hb1
    clear hb1
    obtain ⟨z, x, k, hbg⟩ := Pr.bg_ex a b q r c d e f o
    have HG := Lib.hid hbg
    clear hbg
    obtain ⟨p1, p2, p3, p4, kt, htt⟩ := Pr.tt_ex c d e f
    have HT := Lib.hid htt
    clear htt
    go_wp2_with fail
    refine (implBg_any a b q c d e f x k r o z _ HG.out).mono ?_
    rintro e' w2 ⟨rfl, hb2⟩
    have N2_0 := ((Blk.new (w := w1) (g := w1.heap.size) #[.int .i64 a, .int .i64 b, .int .i64 q, .bool r] 25 (by simp)).alloc (.cells #[.int .i64 c, .int .i64 d, .int .i64 e, .int .i64 f] 27))
    have B2_0 := Lib.hid (N2_0.below hb2 N2_0.lt)
    clear N2_0
    have N2_1 := (Blk.new (w := (w1.alloc (.cells #[.int .i64 a, .int .i64 b, .int .i64 q, .bool r] 25))) (g := w1.heap.size + 1) #[.int .i64 c, .int .i64 d, .int .i64 e, .int .i64 f] 27 (by simp))
    have B2_1 := Lib.hid (N2_1.below hb2 N2_1.lt)
    clear N2_1
    replace hb2 := ((below_new w1 (.cells #[.int .i64 a, .int .i64 b, .int .i64 q, .bool r] 25)).alloc (by simp <;> omega) (.cells #[.int .i64 c, .int .i64 d, .int .i64 e, .int .i64 f] 27)).trans (hb2.mono (by simp <;> omega))
    have z2 : w.heap.size + 0 ≤ w2.heap.size := Nat.le_trans z1 hb2.size
    have HB2 := Lib.hid (HB1.out.trans (hb2.mono (by omega)))
    clear hb2
    have c2_0_0 := B2_0.out.cell 0 (v := .int .i64 a) rfl
    have c2_0_1 := B2_0.out.cell 1 (v := .int .i64 b) rfl
    have c2_0_2 := B2_0.out.cell 2 (v := .int .i64 q) rfl
    have c2_0_3 := B2_0.out.cell 3 (v := .bool r) rfl
    have c2_1_0 := B2_1.out.cell 0 (v := .int .i64 c) rfl
    have c2_1_1 := B2_1.out.cell 1 (v := .int .i64 d) rfl
    have c2_1_2 := B2_1.out.cell 2 (v := .int .i64 e) rfl
    have c2_1_3 := B2_1.out.cell 3 (v := .int .i64 f) rfl
    go_wp2_with fail
    refine (specBg_any a b q c d e f x k r o z _ HG.out).mono ?_
    rintro e' w3 ⟨rfl, hb3⟩
    have z3 : w.heap.size + 0 ≤ w3.heap.size := Nat.le_trans z2 hb3.size
    have HB3 := Lib.hid (HB2.out.trans (hb3.mono (by omega)))
    have B3_0 := Lib.hid (B2_0.out.below hb3 B2_0.out.lt)
    have B3_1 := Lib.hid (B2_1.out.below hb3 B2_1.out.lt)
    clear hb3
    clear c2_0_0 c2_0_1 c2_0_2 c2_0_3 c2_1_0 c2_1_1 c2_1_2 c2_1_3
    have c3_1_0 := B3_1.out.cell 0 (v := .int .i64 c) rfl
    have c3_1_1 := B3_1.out.cell 1 (v := .int .i64 d) rfl
    have c3_1_2 := B3_1.out.cell 2 (v := .int .i64 e) rfl
    have c3_1_3 := B3_1.out.cell 3 (v := .int .i64 f) rfl
    go_wp2_with fail
    refine (implTt_any c d e f p1 p2 p3 p4 kt _ HT.out).mono ?_
    rintro e' w4 ⟨rfl, hb4⟩
    have z4 : w.heap.size + 0 ≤ w4.heap.size := Nat.le_trans z3 hb4.size
    have HB4 := Lib.hid (HB3.out.trans (hb4.mono (by omega)))
    have B4_0 := Lib.hid (B3_0.out.below hb4 B3_0.out.lt)
    have B4_1 := Lib.hid (B3_1.out.below hb4 B3_1.out.lt)
    clear hb4
    clear c3_1_0 c3_1_1 c3_1_2 c3_1_3
    have c4_1_0 := B4_1.out.cell 0 (v := .int .i64 c) rfl
    have c4_1_1 := B4_1.out.cell 1 (v := .int .i64 d) rfl
    have c4_1_2 := B4_1.out.cell 2 (v := .int .i64 e) rfl
    have c4_1_3 := B4_1.out.cell 3 (v := .int .i64 f) rfl
    have a4_1_0 := (B4_1.out.alloc (.cells #[.int .i64 p1, .int .i64 p2, .int .i64 p3, .int .i64 p4] 27)).cell 0 (v := .int .i64 c) rfl
    have a4_1_1 := (B4_1.out.alloc (.cells #[.int .i64 p1, .int .i64 p2, .int .i64 p3, .int .i64 p4] 27)).cell 1 (v := .int .i64 d) rfl
    have a4_1_2 := (B4_1.out.alloc (.cells #[.int .i64 p1, .int .i64 p2, .int .i64 p3, .int .i64 p4] 27)).cell 2 (v := .int .i64 e) rfl
    have a4_1_3 := (B4_1.out.alloc (.cells #[.int .i64 p1, .int .i64 p2, .int .i64 p3, .int .i64 p4] 27)).cell 3 (v := .int .i64 f) rfl
    go_wp2_with fail
    refine (specTt_any c d e f p1 p2 p3 p4 kt _ HT.out).mono ?_
    rintro e' w5 ⟨rfl, hb5⟩
    have N5_2 := (Blk.new (w := w4) (g := w4.heap.size) #[.int .i64 p1, .int .i64 p2, .int .i64 p3, .int .i64 p4] 27 (by simp))
    have B5_2 := Lib.hid (N5_2.below hb5 N5_2.lt)
    clear N5_2
    replace hb5 := (below_new w4 (.cells #[.int .i64 p1, .int .i64 p2, .int .i64 p3, .int .i64 p4] 27)).trans (hb5.mono (by simp <;> omega))
    have z5 : w.heap.size + 0 ≤ w5.heap.size := Nat.le_trans z4 hb5.size
    have HB5 := Lib.hid (HB4.out.trans (hb5.mono (by omega)))
    have B5_0 := Lib.hid (B4_0.out.below hb5 B4_0.out.lt)
    have B5_1 := Lib.hid (B4_1.out.below hb5 B4_1.out.lt)
    clear hb5
    clear c4_1_0 c4_1_1 c4_1_2 c4_1_3 a4_1_0 a4_1_1 a4_1_2 a4_1_3
    go_wp2_with fail
    refine (DrawLs_any N C w.heap.size A l _ (h.below (HB5.out.trans ((below_new w5 _).mono (by omega))) (Nat.le_refl _)) hl (by simp; omega) (by omega)).mono ?_
    rintro e' w6 ⟨c2, d2, e2, f2, n, m, g, rfl, hb6⟩
    have N6_3 := (Blk.new (w := w5) (g := w5.heap.size) #[.int .i64 p1, .int .i64 p2, .int .i64 p3, .int .i64 p4] 27 (by simp))
    have B6_3 := Lib.hid (N6_3.below hb6 N6_3.lt)
    clear N6_3
    replace hb6 := (below_new w5 (.cells #[.int .i64 p1, .int .i64 p2, .int .i64 p3, .int .i64 p4] 27)).trans (hb6.mono (by simp <;> omega))
    have z6 : w.heap.size + 0 ≤ w6.heap.size := Nat.le_trans z5 hb6.size
    have HB6 := Lib.hid (HB5.out.trans (hb6.mono (by omega)))
    have B6_0 := Lib.hid (B5_0.out.below hb6 B5_0.out.lt)
    have B6_1 := Lib.hid (B5_1.out.below hb6 B5_1.out.lt)
    have B6_2 := Lib.hid (B5_2.out.below hb6 B5_2.out.lt)
    clear hb6
    obtain ⟨u1, u2, u3, u4, k3, hls⟩ := Pr.ls_ex c2 d2 e2 f2 n m g
    have HL := Lib.hid hls
    clear hls
    go_wp2_with fail
    refine (implLs_any c2 d2 e2 f2 n m g u1 u2 u3 u4 k3 _ HL.out).mono ?_
    rintro e' w7 ⟨rfl, hb7⟩
    have N7_4 := (Blk.new (w := w6) (g := w6.heap.size) #[.int .i64 c2, .int .i64 d2, .int .i64 e2, .int .i64 f2] 27 (by simp))
    have B7_4 := Lib.hid (N7_4.below hb7 N7_4.lt)
    clear N7_4
    replace hb7 := (below_new w6 (.cells #[.int .i64 c2, .int .i64 d2, .int .i64 e2, .int .i64 f2] 27)).trans (hb7.mono (by simp <;> omega))
    have z7 : w.heap.size + 0 ≤ w7.heap.size := Nat.le_trans z6 hb7.size
    have HB7 := Lib.hid (HB6.out.trans (hb7.mono (by omega)))
    have B7_0 := Lib.hid (B6_0.out.below hb7 B6_0.out.lt)
    have B7_1 := Lib.hid (B6_1.out.below hb7 B6_1.out.lt)
    have B7_2 := Lib.hid (B6_2.out.below hb7 B6_2.out.lt)
    have B7_3 := Lib.hid (B6_3.out.below hb7 B6_3.out.lt)
    clear hb7
    have c7_4_0 := B7_4.out.cell 0 (v := .int .i64 c2) rfl
    have c7_4_1 := B7_4.out.cell 1 (v := .int .i64 d2) rfl
    have c7_4_2 := B7_4.out.cell 2 (v := .int .i64 e2) rfl
    have c7_4_3 := B7_4.out.cell 3 (v := .int .i64 f2) rfl
    have a7_4_0 := (B7_4.out.alloc (.cells #[.int .i64 u1, .int .i64 u2, .int .i64 u3, .bool u4] 25)).cell 0 (v := .int .i64 c2) rfl
    have a7_4_1 := (B7_4.out.alloc (.cells #[.int .i64 u1, .int .i64 u2, .int .i64 u3, .bool u4] 25)).cell 1 (v := .int .i64 d2) rfl
    have a7_4_2 := (B7_4.out.alloc (.cells #[.int .i64 u1, .int .i64 u2, .int .i64 u3, .bool u4] 25)).cell 2 (v := .int .i64 e2) rfl
    have a7_4_3 := (B7_4.out.alloc (.cells #[.int .i64 u1, .int .i64 u2, .int .i64 u3, .bool u4] 25)).cell 3 (v := .int .i64 f2) rfl
    go_wp2_with fail
    refine (specLs_any c2 d2 e2 f2 n m g u1 u2 u3 u4 k3 _ HL.out).mono ?_
    rintro e' w8 ⟨rfl, hb8⟩
    have N8_5 := (Blk.new (w := w7) (g := w7.heap.size) #[.int .i64 u1, .int .i64 u2, .int .i64 u3, .bool u4] 25 (by simp))
    have B8_5 := Lib.hid (N8_5.below hb8 N8_5.lt)
    clear N8_5
    replace hb8 := (below_new w7 (.cells #[.int .i64 u1, .int .i64 u2, .int .i64 u3, .bool u4] 25)).trans (hb8.mono (by simp <;> omega))
    have z8 : w.heap.size + 0 ≤ w8.heap.size := Nat.le_trans z7 hb8.size
    have HB8 := Lib.hid (HB7.out.trans (hb8.mono (by omega)))
    have B8_0 := Lib.hid (B7_0.out.below hb8 B7_0.out.lt)
    have B8_1 := Lib.hid (B7_1.out.below hb8 B7_1.out.lt)
    have B8_2 := Lib.hid (B7_2.out.below hb8 B7_2.out.lt)
    have B8_3 := Lib.hid (B7_3.out.below hb8 B7_3.out.lt)
    have B8_4 := Lib.hid (B7_4.out.below hb8 B7_4.out.lt)
    clear hb8
    clear c7_4_0 c7_4_1 c7_4_2 c7_4_3 a7_4_0 a7_4_1 a7_4_2 a7_4_3
    have n1_ := neTm p1 p2 p3 p4
    have n2_ := nePr u1 u2 u3 u4
    have a8_0_0 := (B8_0.out.alloc (.cells #[.int .i64 u1, .int .i64 u2, .int .i64 u3, .bool u4] 25)).cell 0 (v := .int .i64 a) rfl
    have a8_0_1 := (B8_0.out.alloc (.cells #[.int .i64 u1, .int .i64 u2, .int .i64 u3, .bool u4] 25)).cell 1 (v := .int .i64 b) rfl
    have a8_0_2 := (B8_0.out.alloc (.cells #[.int .i64 u1, .int .i64 u2, .int .i64 u3, .bool u4] 25)).cell 2 (v := .int .i64 q) rfl
    have a8_0_3 := (B8_0.out.alloc (.cells #[.int .i64 u1, .int .i64 u2, .int .i64 u3, .bool u4] 25)).cell 3 (v := .bool r) rfl
    have a8_1_0 := (B8_1.out.alloc (.cells #[.int .i64 u1, .int .i64 u2, .int .i64 u3, .bool u4] 25)).cell 0 (v := .int .i64 c) rfl
    have a8_1_1 := (B8_1.out.alloc (.cells #[.int .i64 u1, .int .i64 u2, .int .i64 u3, .bool u4] 25)).cell 1 (v := .int .i64 d) rfl
    have a8_1_2 := (B8_1.out.alloc (.cells #[.int .i64 u1, .int .i64 u2, .int .i64 u3, .bool u4] 25)).cell 2 (v := .int .i64 e) rfl
    have a8_1_3 := (B8_1.out.alloc (.cells #[.int .i64 u1, .int .i64 u2, .int .i64 u3, .bool u4] 25)).cell 3 (v := .int .i64 f) rfl
    have a8_2_0 := (B8_2.out.alloc (.cells #[.int .i64 u1, .int .i64 u2, .int .i64 u3, .bool u4] 25)).cell 0 (v := .int .i64 p1) rfl
    have a8_2_1 := (B8_2.out.alloc (.cells #[.int .i64 u1, .int .i64 u2, .int .i64 u3, .bool u4] 25)).cell 1 (v := .int .i64 p2) rfl
    have a8_2_2 := (B8_2.out.alloc (.cells #[.int .i64 u1, .int .i64 u2, .int .i64 u3, .bool u4] 25)).cell 2 (v := .int .i64 p3) rfl
    have a8_2_3 := (B8_2.out.alloc (.cells #[.int .i64 u1, .int .i64 u2, .int .i64 u3, .bool u4] 25)).cell 3 (v := .int .i64 p4) rfl
    have a8_3_0 := (B8_3.out.alloc (.cells #[.int .i64 u1, .int .i64 u2, .int .i64 u3, .bool u4] 25)).cell 0 (v := .int .i64 p1) rfl
    have a8_3_1 := (B8_3.out.alloc (.cells #[.int .i64 u1, .int .i64 u2, .int .i64 u3, .bool u4] 25)).cell 1 (v := .int .i64 p2) rfl
    have a8_3_2 := (B8_3.out.alloc (.cells #[.int .i64 u1, .int .i64 u2, .int .i64 u3, .bool u4] 25)).cell 2 (v := .int .i64 p3) rfl
    have a8_3_3 := (B8_3.out.alloc (.cells #[.int .i64 u1, .int .i64 u2, .int .i64 u3, .bool u4] 25)).cell 3 (v := .int .i64 p4) rfl
    have a8_4_0 := (B8_4.out.alloc (.cells #[.int .i64 u1, .int .i64 u2, .int .i64 u3, .bool u4] 25)).cell 0 (v := .int .i64 c2) rfl
    have a8_4_1 := (B8_4.out.alloc (.cells #[.int .i64 u1, .int .i64 u2, .int .i64 u3, .bool u4] 25)).cell 1 (v := .int .i64 d2) rfl
    have a8_4_2 := (B8_4.out.alloc (.cells #[.int .i64 u1, .int .i64 u2, .int .i64 u3, .bool u4] 25)).cell 2 (v := .int .i64 e2) rfl
    have a8_4_3 := (B8_4.out.alloc (.cells #[.int .i64 u1, .int .i64 u2, .int .i64 u3, .bool u4] 25)).cell 3 (v := .int .i64 f2) rfl
    have a8_5_0 := (B8_5.out.alloc (.cells #[.int .i64 u1, .int .i64 u2, .int .i64 u3, .bool u4] 25)).cell 0 (v := .int .i64 u1) rfl
    have a8_5_1 := (B8_5.out.alloc (.cells #[.int .i64 u1, .int .i64 u2, .int .i64 u3, .bool u4] 25)).cell 1 (v := .int .i64 u2) rfl
    have a8_5_2 := (B8_5.out.alloc (.cells #[.int .i64 u1, .int .i64 u2, .int .i64 u3, .bool u4] 25)).cell 2 (v := .int .i64 u3) rfl
    have a8_5_3 := (B8_5.out.alloc (.cells #[.int .i64 u1, .int .i64 u2, .int .i64 u3, .bool u4] 25)).cell 3 (v := .bool u4) rfl
    have hll := Pr.ls_grid HL.out
    have hbb := Pr.bg_grid HG.out
    rcases hll with hk3 | ⟨hk3, hX3, hY3, hK3, ⟨P1, P2⟩, hlt⟩
    · have hk3' : (k3 == 0) = false := by simpa using hk3
      have hHB := HB8.out
      rcases hbb with hk | ⟨hk, U, V, ⟨hsp, htm⟩, ⟨hU, U0, U1⟩, ⟨hV, V0, V1⟩, hw⟩
      · have hk' : (k == 0) = false := by simpa using hk
        go_wp2_with fail
        go_ret
        exact ⟨rfl, (HB8.out.alloc (by omega) _)⟩
      · subst hk
        have hq : p1 = d ∧ p2 = c ∧ p3 = e ∧ p4 = f := by rcases HT.out with ⟨_, q1, q2, q3, q4, _⟩ | ⟨q1, _⟩; exact ⟨q1, q2, q3, q4⟩; rw [htm] at q1; cases q1
        obtain ⟨X, Y, K, hX, hY, hK, hXY, hk1⟩ := Pr.gd_up hsp htm hU
        obtain ⟨X2, Y2, K2, hX2, hY2, hK2, hXY2, hk2⟩ := Pr.gd_up hsp (by rw [Pr.tm_turn]; exact htm) hV
        have hX2_ : Pr.gdR a b q p1 p2 p3 p4 = X2 := by rw [hq.1, hq.2.1, hq.2.2.1, hq.2.2.2]; exact hX2
        have hY2_ : Pr.gdS a b q p1 p2 p3 p4 = Y2 := by rw [hq.1, hq.2.1, hq.2.2.1, hq.2.2.2]; exact hY2
        have hK2_ : Pr.gdC a b q p1 p2 p3 p4 = K2 := by rw [hq.1, hq.2.1, hq.2.2.1, hq.2.2.2]; exact hK2
        have HX := Lib.hid hX
        have HY := Lib.hid hY
        have HK := Lib.hid hK
        have HX2 := Lib.hid hX2_
        have HY2 := Lib.hid hY2_
        have HK2 := Lib.hid hK2_
        have m1_ : IntKind.i64.wrap (X * Y) = U := by rw [hXY]; exact IntWalk.i64_in _ (by omega)
        have m2_ : IntKind.i64.wrap (X2 * Y2) = V := by rw [hXY2]; exact IntWalk.i64_in _ (by omega)
        have HXY := Lib.hid hXY
        have HXY2 := Lib.hid hXY2
        have HW := Lib.hid hw
        have HK1 := Lib.hid hk1
        have HK22 := Lib.hid hk2
        clear hq hX hY hK hX2 hY2 hK2 hX2_ hY2_ hK2_ hXY hXY2 hsp htm hU hV hw hk1 hk2
        go_wp2_with fail
        refine (implGd_any a b q c d e f X Y K r _ HX.out HY.out HK.out).mono ?_
        rintro e' w9 ⟨rfl, hb9⟩
        have N9_6 := (Blk.new (w := w8) (g := w8.heap.size) #[.int .i64 u1, .int .i64 u2, .int .i64 u3, .bool u4] 25 (by simp))
        have B9_6 := Lib.hid (N9_6.below hb9 N9_6.lt)
        clear N9_6
        replace hb9 := (below_new w8 (.cells #[.int .i64 u1, .int .i64 u2, .int .i64 u3, .bool u4] 25)).trans (hb9.mono (by simp <;> omega))
        have z9 : w.heap.size + 0 ≤ w9.heap.size := Nat.le_trans z8 hb9.size
        have HB9 := Lib.hid (HB8.out.trans (hb9.mono (by omega)))
        have B9_0 := Lib.hid (B8_0.out.below hb9 B8_0.out.lt)
        have B9_1 := Lib.hid (B8_1.out.below hb9 B8_1.out.lt)
        have B9_2 := Lib.hid (B8_2.out.below hb9 B8_2.out.lt)
        have B9_3 := Lib.hid (B8_3.out.below hb9 B8_3.out.lt)
        have B9_4 := Lib.hid (B8_4.out.below hb9 B8_4.out.lt)
        have B9_5 := Lib.hid (B8_5.out.below hb9 B8_5.out.lt)
        clear hb9
        clear a8_0_0 a8_0_1 a8_0_2 a8_0_3 a8_1_0 a8_1_1 a8_1_2 a8_1_3 a8_2_0 a8_2_1 a8_2_2 a8_2_3 a8_3_0 a8_3_1 a8_3_2 a8_3_3 a8_4_0 a8_4_1 a8_4_2 a8_4_3 a8_5_0 a8_5_1 a8_5_2 a8_5_3
        have c9_0_0 := B9_0.out.cell 0 (v := .int .i64 a) rfl
        have c9_0_1 := B9_0.out.cell 1 (v := .int .i64 b) rfl
        have c9_0_2 := B9_0.out.cell 2 (v := .int .i64 q) rfl
        have c9_0_3 := B9_0.out.cell 3 (v := .bool r) rfl
        have c9_2_0 := B9_2.out.cell 0 (v := .int .i64 p1) rfl
        have c9_2_1 := B9_2.out.cell 1 (v := .int .i64 p2) rfl
        have c9_2_2 := B9_2.out.cell 2 (v := .int .i64 p3) rfl
        have c9_2_3 := B9_2.out.cell 3 (v := .int .i64 p4) rfl
        go_wp2_with fail
        refine (implGd_any a b q p1 p2 p3 p4 X2 Y2 K2 r _ HX2.out HY2.out HK2.out).mono ?_
        rintro e' w10 ⟨rfl, hb10⟩
        have z10 : w.heap.size + 0 ≤ w10.heap.size := Nat.le_trans z9 hb10.size
        have HB10 := Lib.hid (HB9.out.trans (hb10.mono (by omega)))
        have B10_0 := Lib.hid (B9_0.out.below hb10 B9_0.out.lt)
        have B10_1 := Lib.hid (B9_1.out.below hb10 B9_1.out.lt)
        have B10_2 := Lib.hid (B9_2.out.below hb10 B9_2.out.lt)
        have B10_3 := Lib.hid (B9_3.out.below hb10 B9_3.out.lt)
        have B10_4 := Lib.hid (B9_4.out.below hb10 B9_4.out.lt)
        have B10_5 := Lib.hid (B9_5.out.below hb10 B9_5.out.lt)
        have B10_6 := Lib.hid (B9_6.out.below hb10 B9_6.out.lt)
        clear hb10
        clear c9_0_0 c9_0_1 c9_0_2 c9_0_3 c9_2_0 c9_2_1 c9_2_2 c9_2_3
        have c10_0_3 := B10_0.out.cell 3 (v := .bool r) rfl
        rcases HK1.out with hk1 | ⟨hk1, x0_, y0_⟩ <;> rcases HK22.out with hk2 | ⟨hk2, x2_, y2_⟩ <;> rcases HW.out with ⟨ho, hz, hx, hc⟩ | ⟨ho, hz, hx, hc⟩ | ⟨ho, hr, hz, hx⟩ | ⟨ho, hr, hz, hx⟩
        all_goals
          (try have uu : U = 0 := by rw [← HXY.out, x0_, y0_]; rfl)
          (try have vv : V = 0 := by rw [← HXY2.out, x2_, y2_]; rfl)
          (try have l1_ : decide (U < V) = true := decide_eq_true hc)
          (try have l2_ : decide (V ≤ U) = true := decide_eq_true hc)
          subst hk1 hk2 hz hx
          (try subst ho)
          (try subst hr)
          (try subst x0_ y0_)
          (try subst x2_ y2_)
          (try subst uu)
          (try subst vv)
          go_wp2_with fail
          go_ret
          exact ⟨ret_b (by first | rfl | simp | (simp; omega)), HB10.out⟩
    · subst hk3
      have HX3 := Lib.hid hX3
      have HY3 := Lib.hid hY3
      have HK3 := Lib.hid hK3
      obtain ⟨Z, hZ⟩ : ∃ Z, Pr.gdR (u1 - 1) u2 u3 c2 d2 e2 f2 = Z := ⟨_, rfl⟩
      obtain ⟨Z2, hZ2⟩ : ∃ Z, Pr.gdS (u1 - 1) u2 u3 c2 d2 e2 f2 = Z := ⟨_, rfl⟩
      obtain ⟨K6, hK6⟩ : ∃ K, Pr.gdC (u1 - 1) u2 u3 c2 d2 e2 f2 = K := ⟨_, rfl⟩
      have hlt6 := hlt Z K6 hZ hK6
      have HLT := Lib.hid hlt6
      have HZ := Lib.hid hZ
      have HZ2_ := Lib.hid hZ2
      have HK6 := Lib.hid hK6
      have s1_ : IntKind.i64.wrap (u1 - 1) = u1 - 1 := IntWalk.i64_in _ (by omega)
      clear hX3 hY3 hK3 hlt hlt6 hZ hZ2 hK6
      go_wp2_with fail
      refine (implGd_any u1 u2 u3 c2 d2 e2 f2 n m 0 u4 _ HX3.out HY3.out HK3.out).mono ?_
      rintro e' w9 ⟨rfl, hb9⟩
      have N9_6 := (Blk.new (w := w8) (g := w8.heap.size) #[.int .i64 u1, .int .i64 u2, .int .i64 u3, .bool u4] 25 (by simp))
      have B9_6 := Lib.hid (N9_6.below hb9 N9_6.lt)
      clear N9_6
      replace hb9 := (below_new w8 (.cells #[.int .i64 u1, .int .i64 u2, .int .i64 u3, .bool u4] 25)).trans (hb9.mono (by simp <;> omega))
      have z9 : w.heap.size + 0 ≤ w9.heap.size := Nat.le_trans z8 hb9.size
      have HB9 := Lib.hid (HB8.out.trans (hb9.mono (by omega)))
      have B9_0 := Lib.hid (B8_0.out.below hb9 B8_0.out.lt)
      have B9_1 := Lib.hid (B8_1.out.below hb9 B8_1.out.lt)
      have B9_2 := Lib.hid (B8_2.out.below hb9 B8_2.out.lt)
      have B9_3 := Lib.hid (B8_3.out.below hb9 B8_3.out.lt)
      have B9_4 := Lib.hid (B8_4.out.below hb9 B8_4.out.lt)
      have B9_5 := Lib.hid (B8_5.out.below hb9 B8_5.out.lt)
      clear hb9
      have c9_0_0 := B9_0.out.cell 0 (v := .int .i64 a) rfl
      have c9_0_1 := B9_0.out.cell 1 (v := .int .i64 b) rfl
      have c9_0_2 := B9_0.out.cell 2 (v := .int .i64 q) rfl
      have c9_0_3 := B9_0.out.cell 3 (v := .bool r) rfl
      have c9_1_0 := B9_1.out.cell 0 (v := .int .i64 c) rfl
      have c9_1_1 := B9_1.out.cell 1 (v := .int .i64 d) rfl
      have c9_1_2 := B9_1.out.cell 2 (v := .int .i64 e) rfl
      have c9_1_3 := B9_1.out.cell 3 (v := .int .i64 f) rfl
      have c9_2_0 := B9_2.out.cell 0 (v := .int .i64 p1) rfl
      have c9_2_1 := B9_2.out.cell 1 (v := .int .i64 p2) rfl
      have c9_2_2 := B9_2.out.cell 2 (v := .int .i64 p3) rfl
      have c9_2_3 := B9_2.out.cell 3 (v := .int .i64 p4) rfl
      have c9_4_0 := B9_4.out.cell 0 (v := .int .i64 c2) rfl
      have c9_4_1 := B9_4.out.cell 1 (v := .int .i64 d2) rfl
      have c9_4_2 := B9_4.out.cell 2 (v := .int .i64 e2) rfl
      have c9_4_3 := B9_4.out.cell 3 (v := .int .i64 f2) rfl
      have c9_5_0 := B9_5.out.cell 0 (v := .int .i64 u1) rfl
      have c9_5_1 := B9_5.out.cell 1 (v := .int .i64 u2) rfl
      have c9_5_2 := B9_5.out.cell 2 (v := .int .i64 u3) rfl
      have c9_5_3 := B9_5.out.cell 3 (v := .bool u4) rfl
      clear a8_0_0 a8_0_1 a8_0_2 a8_0_3 a8_1_0 a8_1_1 a8_1_2 a8_1_3 a8_2_0 a8_2_1 a8_2_2 a8_2_3 a8_3_0 a8_3_1 a8_3_2 a8_3_3 a8_4_0 a8_4_1 a8_4_2 a8_4_3 a8_5_0 a8_5_1 a8_5_2 a8_5_3
      have a9_0_0 := (B9_0.out.alloc (.cells #[.int .i64 (u1 - 1), .int .i64 u2, .int .i64 u3, .bool u4] 25)).cell 0 (v := .int .i64 a) rfl
      have a9_0_1 := (B9_0.out.alloc (.cells #[.int .i64 (u1 - 1), .int .i64 u2, .int .i64 u3, .bool u4] 25)).cell 1 (v := .int .i64 b) rfl
      have a9_0_2 := (B9_0.out.alloc (.cells #[.int .i64 (u1 - 1), .int .i64 u2, .int .i64 u3, .bool u4] 25)).cell 2 (v := .int .i64 q) rfl
      have a9_0_3 := (B9_0.out.alloc (.cells #[.int .i64 (u1 - 1), .int .i64 u2, .int .i64 u3, .bool u4] 25)).cell 3 (v := .bool r) rfl
      have a9_1_0 := (B9_1.out.alloc (.cells #[.int .i64 (u1 - 1), .int .i64 u2, .int .i64 u3, .bool u4] 25)).cell 0 (v := .int .i64 c) rfl
      have a9_1_1 := (B9_1.out.alloc (.cells #[.int .i64 (u1 - 1), .int .i64 u2, .int .i64 u3, .bool u4] 25)).cell 1 (v := .int .i64 d) rfl
      have a9_1_2 := (B9_1.out.alloc (.cells #[.int .i64 (u1 - 1), .int .i64 u2, .int .i64 u3, .bool u4] 25)).cell 2 (v := .int .i64 e) rfl
      have a9_1_3 := (B9_1.out.alloc (.cells #[.int .i64 (u1 - 1), .int .i64 u2, .int .i64 u3, .bool u4] 25)).cell 3 (v := .int .i64 f) rfl
      have a9_2_0 := (B9_2.out.alloc (.cells #[.int .i64 (u1 - 1), .int .i64 u2, .int .i64 u3, .bool u4] 25)).cell 0 (v := .int .i64 p1) rfl
      have a9_2_1 := (B9_2.out.alloc (.cells #[.int .i64 (u1 - 1), .int .i64 u2, .int .i64 u3, .bool u4] 25)).cell 1 (v := .int .i64 p2) rfl
      have a9_2_2 := (B9_2.out.alloc (.cells #[.int .i64 (u1 - 1), .int .i64 u2, .int .i64 u3, .bool u4] 25)).cell 2 (v := .int .i64 p3) rfl
      have a9_2_3 := (B9_2.out.alloc (.cells #[.int .i64 (u1 - 1), .int .i64 u2, .int .i64 u3, .bool u4] 25)).cell 3 (v := .int .i64 p4) rfl
      have a9_4_0 := (B9_4.out.alloc (.cells #[.int .i64 (u1 - 1), .int .i64 u2, .int .i64 u3, .bool u4] 25)).cell 0 (v := .int .i64 c2) rfl
      have a9_4_1 := (B9_4.out.alloc (.cells #[.int .i64 (u1 - 1), .int .i64 u2, .int .i64 u3, .bool u4] 25)).cell 1 (v := .int .i64 d2) rfl
      have a9_4_2 := (B9_4.out.alloc (.cells #[.int .i64 (u1 - 1), .int .i64 u2, .int .i64 u3, .bool u4] 25)).cell 2 (v := .int .i64 e2) rfl
      have a9_4_3 := (B9_4.out.alloc (.cells #[.int .i64 (u1 - 1), .int .i64 u2, .int .i64 u3, .bool u4] 25)).cell 3 (v := .int .i64 f2) rfl
      have a9_5_0 := (B9_5.out.alloc (.cells #[.int .i64 (u1 - 1), .int .i64 u2, .int .i64 u3, .bool u4] 25)).cell 0 (v := .int .i64 u1) rfl
      have a9_5_1 := (B9_5.out.alloc (.cells #[.int .i64 (u1 - 1), .int .i64 u2, .int .i64 u3, .bool u4] 25)).cell 1 (v := .int .i64 u2) rfl
      have a9_5_2 := (B9_5.out.alloc (.cells #[.int .i64 (u1 - 1), .int .i64 u2, .int .i64 u3, .bool u4] 25)).cell 2 (v := .int .i64 u3) rfl
      have a9_5_3 := (B9_5.out.alloc (.cells #[.int .i64 (u1 - 1), .int .i64 u2, .int .i64 u3, .bool u4] 25)).cell 3 (v := .bool u4) rfl
      go_wp2_with fail
      refine (implGd_any (u1 - 1) u2 u3 c2 d2 e2 f2 Z Z2 K6 u4 _ HZ.out HZ2_.out HK6.out).mono ?_
      rintro e' w10 ⟨rfl, hb10⟩
      have N10_7 := (Blk.new (w := w9) (g := w9.heap.size) #[.int .i64 (u1 - 1), .int .i64 u2, .int .i64 u3, .bool u4] 25 (by simp))
      have B10_7 := Lib.hid (N10_7.below hb10 N10_7.lt)
      clear N10_7
      replace hb10 := (below_new w9 (.cells #[.int .i64 (u1 - 1), .int .i64 u2, .int .i64 u3, .bool u4] 25)).trans (hb10.mono (by simp <;> omega))
      have z10 : w.heap.size + 0 ≤ w10.heap.size := Nat.le_trans z9 hb10.size
      have HB10 := Lib.hid (HB9.out.trans (hb10.mono (by omega)))
      have B10_0 := Lib.hid (B9_0.out.below hb10 B9_0.out.lt)
      have B10_1 := Lib.hid (B9_1.out.below hb10 B9_1.out.lt)
      have B10_2 := Lib.hid (B9_2.out.below hb10 B9_2.out.lt)
      have B10_3 := Lib.hid (B9_3.out.below hb10 B9_3.out.lt)
      have B10_4 := Lib.hid (B9_4.out.below hb10 B9_4.out.lt)
      have B10_5 := Lib.hid (B9_5.out.below hb10 B9_5.out.lt)
      have B10_6 := Lib.hid (B9_6.out.below hb10 B9_6.out.lt)
      clear hb10
      clear c9_0_0 c9_0_1 c9_0_2 c9_0_3 c9_1_0 c9_1_1 c9_1_2 c9_1_3 c9_2_0 c9_2_1 c9_2_2 c9_2_3 c9_4_0 c9_4_1 c9_4_2 c9_4_3 c9_5_0 c9_5_1 c9_5_2 c9_5_3 a9_0_0 a9_0_1 a9_0_2 a9_0_3 a9_1_0 a9_1_1 a9_1_2 a9_1_3 a9_2_0 a9_2_1 a9_2_2 a9_2_3 a9_4_0 a9_4_1 a9_4_2 a9_4_3 a9_5_0 a9_5_1 a9_5_2 a9_5_3
      have c10_0_0 := B10_0.out.cell 0 (v := .int .i64 a) rfl
      have c10_0_1 := B10_0.out.cell 1 (v := .int .i64 b) rfl
      have c10_0_2 := B10_0.out.cell 2 (v := .int .i64 q) rfl
      have c10_0_3 := B10_0.out.cell 3 (v := .bool r) rfl
      have c10_1_0 := B10_1.out.cell 0 (v := .int .i64 c) rfl
      have c10_1_1 := B10_1.out.cell 1 (v := .int .i64 d) rfl
      have c10_1_2 := B10_1.out.cell 2 (v := .int .i64 e) rfl
      have c10_1_3 := B10_1.out.cell 3 (v := .int .i64 f) rfl
      have c10_2_0 := B10_2.out.cell 0 (v := .int .i64 p1) rfl
      have c10_2_1 := B10_2.out.cell 1 (v := .int .i64 p2) rfl
      have c10_2_2 := B10_2.out.cell 2 (v := .int .i64 p3) rfl
      have c10_2_3 := B10_2.out.cell 3 (v := .int .i64 p4) rfl
      by_cases h6 : K6 = 0
      · have hZn := HLT.out h6
        subst h6
        have g1_ : ¬ n ≤ Z := by omega
        have g2_ : decide (n ≤ Z) = false := decide_eq_false g1_
        rcases hbb with hk | ⟨hk, U, V, ⟨hsp, htm⟩, ⟨hU, U0, U1⟩, ⟨hV, V0, V1⟩, hw⟩
        · have hk' : (k == 0) = false := by simpa using hk
          go_wp2_with fail
          go_ret
          exact ⟨rfl, HB10.out⟩
        · subst hk
          have hq : p1 = d ∧ p2 = c ∧ p3 = e ∧ p4 = f := by rcases HT.out with ⟨_, q1, q2, q3, q4, _⟩ | ⟨q1, _⟩; exact ⟨q1, q2, q3, q4⟩; rw [htm] at q1; cases q1
          obtain ⟨X, Y, K, hX, hY, hK, hXY, hk1⟩ := Pr.gd_up hsp htm hU
          obtain ⟨X2, Y2, K2, hX2, hY2, hK2, hXY2, hk2⟩ := Pr.gd_up hsp (by rw [Pr.tm_turn]; exact htm) hV
          have hX2_ : Pr.gdR a b q p1 p2 p3 p4 = X2 := by rw [hq.1, hq.2.1, hq.2.2.1, hq.2.2.2]; exact hX2
          have hY2_ : Pr.gdS a b q p1 p2 p3 p4 = Y2 := by rw [hq.1, hq.2.1, hq.2.2.1, hq.2.2.2]; exact hY2
          have hK2_ : Pr.gdC a b q p1 p2 p3 p4 = K2 := by rw [hq.1, hq.2.1, hq.2.2.1, hq.2.2.2]; exact hK2
          have HX := Lib.hid hX
          have HY := Lib.hid hY
          have HK := Lib.hid hK
          have HX2 := Lib.hid hX2_
          have HY2 := Lib.hid hY2_
          have HK2 := Lib.hid hK2_
          have m1_ : IntKind.i64.wrap (X * Y) = U := by rw [hXY]; exact IntWalk.i64_in _ (by omega)
          have m2_ : IntKind.i64.wrap (X2 * Y2) = V := by rw [hXY2]; exact IntWalk.i64_in _ (by omega)
          have HXY := Lib.hid hXY
          have HXY2 := Lib.hid hXY2
          have HW := Lib.hid hw
          have HK1 := Lib.hid hk1
          have HK22 := Lib.hid hk2
          clear hq hX hY hK hX2 hY2 hK2 hX2_ hY2_ hK2_ hXY hXY2 hsp htm hU hV hw hk1 hk2
          go_wp2_with fail
          refine (implGd_any a b q c d e f X Y K r _ HX.out HY.out HK.out).mono ?_
          rintro e' w11 ⟨rfl, hb11⟩
          have z11 : w.heap.size + 0 ≤ w11.heap.size := Nat.le_trans z10 hb11.size
          have HB11 := Lib.hid (HB10.out.trans (hb11.mono (by omega)))
          have B11_0 := Lib.hid (B10_0.out.below hb11 B10_0.out.lt)
          have B11_1 := Lib.hid (B10_1.out.below hb11 B10_1.out.lt)
          have B11_2 := Lib.hid (B10_2.out.below hb11 B10_2.out.lt)
          have B11_3 := Lib.hid (B10_3.out.below hb11 B10_3.out.lt)
          have B11_4 := Lib.hid (B10_4.out.below hb11 B10_4.out.lt)
          have B11_5 := Lib.hid (B10_5.out.below hb11 B10_5.out.lt)
          have B11_6 := Lib.hid (B10_6.out.below hb11 B10_6.out.lt)
          have B11_7 := Lib.hid (B10_7.out.below hb11 B10_7.out.lt)
          clear hb11
          clear c10_0_0 c10_0_1 c10_0_2 c10_0_3 c10_1_0 c10_1_1 c10_1_2 c10_1_3 c10_2_0 c10_2_1 c10_2_2 c10_2_3
          have c11_0_0 := B11_0.out.cell 0 (v := .int .i64 a) rfl
          have c11_0_1 := B11_0.out.cell 1 (v := .int .i64 b) rfl
          have c11_0_2 := B11_0.out.cell 2 (v := .int .i64 q) rfl
          have c11_0_3 := B11_0.out.cell 3 (v := .bool r) rfl
          have c11_2_0 := B11_2.out.cell 0 (v := .int .i64 p1) rfl
          have c11_2_1 := B11_2.out.cell 1 (v := .int .i64 p2) rfl
          have c11_2_2 := B11_2.out.cell 2 (v := .int .i64 p3) rfl
          have c11_2_3 := B11_2.out.cell 3 (v := .int .i64 p4) rfl
          go_wp2_with fail
          refine (implGd_any a b q p1 p2 p3 p4 X2 Y2 K2 r _ HX2.out HY2.out HK2.out).mono ?_
          rintro e' w12 ⟨rfl, hb12⟩
          have z12 : w.heap.size + 0 ≤ w12.heap.size := Nat.le_trans z11 hb12.size
          have HB12 := Lib.hid (HB11.out.trans (hb12.mono (by omega)))
          have B12_0 := Lib.hid (B11_0.out.below hb12 B11_0.out.lt)
          have B12_1 := Lib.hid (B11_1.out.below hb12 B11_1.out.lt)
          have B12_2 := Lib.hid (B11_2.out.below hb12 B11_2.out.lt)
          have B12_3 := Lib.hid (B11_3.out.below hb12 B11_3.out.lt)
          have B12_4 := Lib.hid (B11_4.out.below hb12 B11_4.out.lt)
          have B12_5 := Lib.hid (B11_5.out.below hb12 B11_5.out.lt)
          have B12_6 := Lib.hid (B11_6.out.below hb12 B11_6.out.lt)
          have B12_7 := Lib.hid (B11_7.out.below hb12 B11_7.out.lt)
          clear hb12
          clear c11_0_0 c11_0_1 c11_0_2 c11_0_3 c11_2_0 c11_2_1 c11_2_2 c11_2_3
          have c12_0_3 := B12_0.out.cell 3 (v := .bool r) rfl
          rcases HK1.out with hk1 | ⟨hk1, x0_, y0_⟩ <;> rcases HK22.out with hk2 | ⟨hk2, x2_, y2_⟩ <;> rcases HW.out with ⟨ho, hz, hx, hc⟩ | ⟨ho, hz, hx, hc⟩ | ⟨ho, hr, hz, hx⟩ | ⟨ho, hr, hz, hx⟩
          all_goals
            (try have uu : U = 0 := by rw [← HXY.out, x0_, y0_]; rfl)
            (try have vv : V = 0 := by rw [← HXY2.out, x2_, y2_]; rfl)
            (try have l1_ : decide (U < V) = true := decide_eq_true hc)
            (try have l2_ : decide (V ≤ U) = true := decide_eq_true hc)
            subst hk1 hk2 hz hx
            (try subst ho)
            (try subst hr)
            (try subst x0_ y0_)
            (try subst x2_ y2_)
            (try subst uu)
            (try subst vv)
            go_wp2_with fail
            go_ret
            exact ⟨ret_b (by first | rfl | simp | (simp; omega)), HB12.out⟩
      · have h6' : (K6 == 0) = false := by simpa using h6
        rcases hbb with hk | ⟨hk, U, V, ⟨hsp, htm⟩, ⟨hU, U0, U1⟩, ⟨hV, V0, V1⟩, hw⟩
        · have hk' : (k == 0) = false := by simpa using hk
          go_wp2_with fail
          go_ret
          exact ⟨rfl, HB10.out⟩
        · subst hk
          have hq : p1 = d ∧ p2 = c ∧ p3 = e ∧ p4 = f := by rcases HT.out with ⟨_, q1, q2, q3, q4, _⟩ | ⟨q1, _⟩; exact ⟨q1, q2, q3, q4⟩; rw [htm] at q1; cases q1
          obtain ⟨X, Y, K, hX, hY, hK, hXY, hk1⟩ := Pr.gd_up hsp htm hU
          obtain ⟨X2, Y2, K2, hX2, hY2, hK2, hXY2, hk2⟩ := Pr.gd_up hsp (by rw [Pr.tm_turn]; exact htm) hV
          have hX2_ : Pr.gdR a b q p1 p2 p3 p4 = X2 := by rw [hq.1, hq.2.1, hq.2.2.1, hq.2.2.2]; exact hX2
          have hY2_ : Pr.gdS a b q p1 p2 p3 p4 = Y2 := by rw [hq.1, hq.2.1, hq.2.2.1, hq.2.2.2]; exact hY2
          have hK2_ : Pr.gdC a b q p1 p2 p3 p4 = K2 := by rw [hq.1, hq.2.1, hq.2.2.1, hq.2.2.2]; exact hK2
          have HX := Lib.hid hX
          have HY := Lib.hid hY
          have HK := Lib.hid hK
          have HX2 := Lib.hid hX2_
          have HY2 := Lib.hid hY2_
          have HK2 := Lib.hid hK2_
          have m1_ : IntKind.i64.wrap (X * Y) = U := by rw [hXY]; exact IntWalk.i64_in _ (by omega)
          have m2_ : IntKind.i64.wrap (X2 * Y2) = V := by rw [hXY2]; exact IntWalk.i64_in _ (by omega)
          have HXY := Lib.hid hXY
          have HXY2 := Lib.hid hXY2
          have HW := Lib.hid hw
          have HK1 := Lib.hid hk1
          have HK22 := Lib.hid hk2
          clear hq hX hY hK hX2 hY2 hK2 hX2_ hY2_ hK2_ hXY hXY2 hsp htm hU hV hw hk1 hk2
          go_wp2_with fail
          refine (implGd_any a b q c d e f X Y K r _ HX.out HY.out HK.out).mono ?_
          rintro e' w11 ⟨rfl, hb11⟩
          have z11 : w.heap.size + 0 ≤ w11.heap.size := Nat.le_trans z10 hb11.size
          have HB11 := Lib.hid (HB10.out.trans (hb11.mono (by omega)))
          have B11_0 := Lib.hid (B10_0.out.below hb11 B10_0.out.lt)
          have B11_1 := Lib.hid (B10_1.out.below hb11 B10_1.out.lt)
          have B11_2 := Lib.hid (B10_2.out.below hb11 B10_2.out.lt)
          have B11_3 := Lib.hid (B10_3.out.below hb11 B10_3.out.lt)
          have B11_4 := Lib.hid (B10_4.out.below hb11 B10_4.out.lt)
          have B11_5 := Lib.hid (B10_5.out.below hb11 B10_5.out.lt)
          have B11_6 := Lib.hid (B10_6.out.below hb11 B10_6.out.lt)
          have B11_7 := Lib.hid (B10_7.out.below hb11 B10_7.out.lt)
          clear hb11
          clear c10_0_0 c10_0_1 c10_0_2 c10_0_3 c10_1_0 c10_1_1 c10_1_2 c10_1_3 c10_2_0 c10_2_1 c10_2_2 c10_2_3
          have c11_0_0 := B11_0.out.cell 0 (v := .int .i64 a) rfl
          have c11_0_1 := B11_0.out.cell 1 (v := .int .i64 b) rfl
          have c11_0_2 := B11_0.out.cell 2 (v := .int .i64 q) rfl
          have c11_0_3 := B11_0.out.cell 3 (v := .bool r) rfl
          have c11_2_0 := B11_2.out.cell 0 (v := .int .i64 p1) rfl
          have c11_2_1 := B11_2.out.cell 1 (v := .int .i64 p2) rfl
          have c11_2_2 := B11_2.out.cell 2 (v := .int .i64 p3) rfl
          have c11_2_3 := B11_2.out.cell 3 (v := .int .i64 p4) rfl
          go_wp2_with fail
          refine (implGd_any a b q p1 p2 p3 p4 X2 Y2 K2 r _ HX2.out HY2.out HK2.out).mono ?_
          rintro e' w12 ⟨rfl, hb12⟩
          have z12 : w.heap.size + 0 ≤ w12.heap.size := Nat.le_trans z11 hb12.size
          have HB12 := Lib.hid (HB11.out.trans (hb12.mono (by omega)))
          have B12_0 := Lib.hid (B11_0.out.below hb12 B11_0.out.lt)
          have B12_1 := Lib.hid (B11_1.out.below hb12 B11_1.out.lt)
          have B12_2 := Lib.hid (B11_2.out.below hb12 B11_2.out.lt)
          have B12_3 := Lib.hid (B11_3.out.below hb12 B11_3.out.lt)
          have B12_4 := Lib.hid (B11_4.out.below hb12 B11_4.out.lt)
          have B12_5 := Lib.hid (B11_5.out.below hb12 B11_5.out.lt)
          have B12_6 := Lib.hid (B11_6.out.below hb12 B11_6.out.lt)
          have B12_7 := Lib.hid (B11_7.out.below hb12 B11_7.out.lt)
          clear hb12
          clear c11_0_0 c11_0_1 c11_0_2 c11_0_3 c11_2_0 c11_2_1 c11_2_2 c11_2_3
          have c12_0_3 := B12_0.out.cell 3 (v := .bool r) rfl
          rcases HK1.out with hk1 | ⟨hk1, x0_, y0_⟩ <;> rcases HK22.out with hk2 | ⟨hk2, x2_, y2_⟩ <;> rcases HW.out with ⟨ho, hz, hx, hc⟩ | ⟨ho, hz, hx, hc⟩ | ⟨ho, hr, hz, hx⟩ | ⟨ho, hr, hz, hx⟩
          all_goals
            (try have uu : U = 0 := by rw [← HXY.out, x0_, y0_]; rfl)
            (try have vv : V = 0 := by rw [← HXY2.out, x2_, y2_]; rfl)
            (try have l1_ : decide (U < V) = true := decide_eq_true hc)
            (try have l2_ : decide (V ≤ U) = true := decide_eq_true hc)
            subst hk1 hk2 hz hx
            (try subst ho)
            (try subst hr)
            (try subst x0_ y0_)
            (try subst x2_ y2_)
            (try subst uu)
            (try subst vv)
            go_wp2_with fail
            go_ret
            exact ⟨ret_b (by first | rfl | simp | (simp; omega)), HB12.out⟩
  · have HF : Hid (decide (4096 < N) = true) := decide_eq_true (by omega)
    go_enter Try.func4, Try.ntmps4
    go_wp2_with fail
    refine (sgBig_any A N C _).mono ?_
    rintro e _ ⟨rfl, rfl⟩
    rw [HF.out]
    go_wp2_with fail
    go_ret
    exact ⟨rfl, Below.refl _ _⟩
end Go.Proofs.Ythepfejoneeaeaa
