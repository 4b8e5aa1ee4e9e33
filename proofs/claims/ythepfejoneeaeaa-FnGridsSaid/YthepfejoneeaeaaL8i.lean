/- The walk of the law FnGrids, out of the contracts. -/
import Derived.Test.YthepfejoneeaeaaPrDx
import Derived.Test.YthepfejoneeaeaaPrLw
import Derived.Test.YthepfejoneeaeaaPrMa3
import Derived.Test.YthepfejoneeaeaaSgLk
namespace Go.Proofs.Ythepfejoneeaeaa
open Go.RowKit
set_option linter.unusedVariables false

set_option maxRecDepth 100000 in
set_option maxHeartbeats 8000000 in
theorem w_FnGrids (A : Option Addr) (N C : Nat) (l : List Int) (w : World) (h : Rd U w w.heap.size A N l) (hl : inByte l) :
    Calls Try.prog 3 #[.slice A N C] w fun e' w' => e' = .returned (.bool true) ∧ Below w.heap.size w w' := by
  by_cases hN : N ≤ 4096
  · have HF : Hid (decide (4096 < N) = false) := decide_eq_false (by omega)
    go_enter Try.func3, Try.ntmps3
    go_wp2_with fail
    refine (sgBig_any A N C _).mono ?_
    rintro e _ ⟨rfl, rfl⟩
    rw [HF.out]
    go_wp2_with fail
    refine (DrawGd_any N C w.heap.size A l w h hl (Nat.le_refl _) (by omega)).mono ?_
    rintro e' w1 ⟨a, b, q, r, c, d, e, f, rfl, hb1⟩
    have z1 : w.heap.size ≤ w1.heap.size := hb1.size
    have HB1 := Lib.hid hb1
    clear hb1
    obtain ⟨X, hX⟩ : ∃ X, Pr.gdR a b q c d e f = X := ⟨_, rfl⟩
    have HX := Lib.hid hX
    clear hX
    obtain ⟨Y, hY⟩ : ∃ Y, Pr.gdS a b q c d e f = Y := ⟨_, rfl⟩
    have HY := Lib.hid hY
    clear hY
    obtain ⟨K, hK⟩ : ∃ K, Pr.gdC a b q c d e f = K := ⟨_, rfl⟩
    have HK := Lib.hid hK
    clear hK
    obtain ⟨V, hV⟩ : ∃ V, Pr.wsR a b q c d e f = V := ⟨_, rfl⟩
    have HV := Lib.hid hV
    clear hV
    obtain ⟨S1, hS1⟩ : ∃ S1, Pr.shB a b q = S1 := ⟨_, rfl⟩
    have HS1 := Lib.hid hS1
    clear hS1
    obtain ⟨S2, hS2⟩ : ∃ S2, Pr.tmB c d e f = S2 := ⟨_, rfl⟩
    have HS2 := Lib.hid hS2
    clear hS2
    go_wp2_with fail
    refine (implGd_any a b q c d e f X Y K r _ HX.out HY.out HK.out).mono ?_
    rintro e' w2 ⟨rfl, hb2⟩
    have N2_0 := ((Blk.new (w := w1) (g := w1.heap.size) #[.int .i64 a, .int .i64 b, .int .i64 q, .bool r] 25 (by simp)).alloc (.cells #[.int .i64 c, .int .i64 d, .int .i64 e, .int .i64 f] 27))
    have B2_0 := Lib.hid (N2_0.below hb2 N2_0.lt)
    clear N2_0
    have N2_1 := (Blk.new (w := (w1.alloc (.cells #[.int .i64 a, .int .i64 b, .int .i64 q, .bool r] 25))) (g := w1.heap.size + 1) #[.int .i64 c, .int .i64 d, .int .i64 e, .int .i64 f] 27 (by simp))
    have B2_1 := Lib.hid (N2_1.below hb2 N2_1.lt)
    clear N2_1
    replace hb2 := ((below_new w1 (.cells #[.int .i64 a, .int .i64 b, .int .i64 q, .bool r] 25)).alloc (by simp <;> omega) (.cells #[.int .i64 c, .int .i64 d, .int .i64 e, .int .i64 f] 27)).trans (hb2.mono (by simp <;> omega))
    have z2 : w.heap.size + 0 ≤ w2.heap.size := Nat.le_trans z1 hb2.size
    have HB2 := Lib.hid (HB1.out.trans (hb2.mono (by omega)))
    clear hb2
    have c2_0_0 := B2_0.out.cell 0 (v := .int .i64 a) rfl
    have c2_0_1 := B2_0.out.cell 1 (v := .int .i64 b) rfl
    have c2_0_2 := B2_0.out.cell 2 (v := .int .i64 q) rfl
    have c2_0_3 := B2_0.out.cell 3 (v := .bool r) rfl
    have c2_1_0 := B2_1.out.cell 0 (v := .int .i64 c) rfl
    have c2_1_1 := B2_1.out.cell 1 (v := .int .i64 d) rfl
    have c2_1_2 := B2_1.out.cell 2 (v := .int .i64 e) rfl
    have c2_1_3 := B2_1.out.cell 3 (v := .int .i64 f) rfl
    go_wp2_with fail
    refine (specGd_any a b q c d e f X Y K r _ HX.out HY.out HK.out).mono ?_
    rintro e' w3 ⟨rfl, hb3⟩
    have z3 : w.heap.size + 0 ≤ w3.heap.size := Nat.le_trans z2 hb3.size
    have HB3 := Lib.hid (HB2.out.trans (hb3.mono (by omega)))
    have B3_0 := Lib.hid (B2_0.out.below hb3 B2_0.out.lt)
    have B3_1 := Lib.hid (B2_1.out.below hb3 B2_1.out.lt)
    clear hb3
    clear c2_0_0 c2_0_1 c2_0_2 c2_0_3 c2_1_0 c2_1_1 c2_1_2 c2_1_3
    go_wp2_with fail
    refine (DrawCr8_any N C w.heap.size A l _ (h.below HB3.out (Nat.le_refl _)) hl (by omega) (by omega)).mono ?_
    rintro e' w4 ⟨a2, b2, q2, r2, c2, d2, e2, f2, i, j, rfl, hb4⟩
    have z4 : w.heap.size + 0 ≤ w4.heap.size := Nat.le_trans z3 hb4.size
    have HB4 := Lib.hid (HB3.out.trans (hb4.mono (by omega)))
    have B4_0 := Lib.hid (B3_0.out.below hb4 B3_0.out.lt)
    have B4_1 := Lib.hid (B3_1.out.below hb4 B3_1.out.lt)
    clear hb4
    obtain ⟨X2, hX2⟩ : ∃ X2, Pr.crX a2 b2 q2 c2 d2 e2 f2 i j = X2 := ⟨_, rfl⟩
    have HX2 := Lib.hid hX2
    clear hX2
    obtain ⟨Y2, hY2⟩ : ∃ Y2, Pr.crY a2 b2 q2 c2 d2 e2 f2 i j = Y2 := ⟨_, rfl⟩
    have HY2 := Lib.hid hY2
    clear hY2
    obtain ⟨K2, hK2⟩ : ∃ K2, Pr.crC a2 b2 q2 c2 d2 e2 f2 i j = K2 := ⟨_, rfl⟩
    have HK2 := Lib.hid hK2
    clear hK2
    go_wp2_with fail
    refine (implCr8_any a2 b2 q2 c2 d2 e2 f2 i j X2 Y2 K2 r2 _ HX2.out HY2.out HK2.out).mono ?_
    rintro e' w5 ⟨rfl, hb5⟩
    have N5_2 := ((Blk.new (w := w4) (g := w4.heap.size) #[.int .i64 a2, .int .i64 b2, .int .i64 q2, .bool r2] 25 (by simp)).alloc (.cells #[.int .i64 c2, .int .i64 d2, .int .i64 e2, .int .i64 f2] 27))
    have B5_2 := Lib.hid (N5_2.below hb5 N5_2.lt)
    clear N5_2
    have N5_3 := (Blk.new (w := (w4.alloc (.cells #[.int .i64 a2, .int .i64 b2, .int .i64 q2, .bool r2] 25))) (g := w4.heap.size + 1) #[.int .i64 c2, .int .i64 d2, .int .i64 e2, .int .i64 f2] 27 (by simp))
    have B5_3 := Lib.hid (N5_3.below hb5 N5_3.lt)
    clear N5_3
    replace hb5 := ((below_new w4 (.cells #[.int .i64 a2, .int .i64 b2, .int .i64 q2, .bool r2] 25)).alloc (by simp <;> omega) (.cells #[.int .i64 c2, .int .i64 d2, .int .i64 e2, .int .i64 f2] 27)).trans (hb5.mono (by simp <;> omega))
    have z5 : w.heap.size + 0 ≤ w5.heap.size := Nat.le_trans z4 hb5.size
    have HB5 := Lib.hid (HB4.out.trans (hb5.mono (by omega)))
    have B5_0 := Lib.hid (B4_0.out.below hb5 B4_0.out.lt)
    have B5_1 := Lib.hid (B4_1.out.below hb5 B4_1.out.lt)
    clear hb5
    have c5_2_0 := B5_2.out.cell 0 (v := .int .i64 a2) rfl
    have c5_2_1 := B5_2.out.cell 1 (v := .int .i64 b2) rfl
    have c5_2_2 := B5_2.out.cell 2 (v := .int .i64 q2) rfl
    have c5_2_3 := B5_2.out.cell 3 (v := .bool r2) rfl
    have c5_3_0 := B5_3.out.cell 0 (v := .int .i64 c2) rfl
    have c5_3_1 := B5_3.out.cell 1 (v := .int .i64 d2) rfl
    have c5_3_2 := B5_3.out.cell 2 (v := .int .i64 e2) rfl
    have c5_3_3 := B5_3.out.cell 3 (v := .int .i64 f2) rfl
    go_wp2_with fail
    refine (specCr8_any a2 b2 q2 c2 d2 e2 f2 i j X2 Y2 K2 r2 _ HX2.out HY2.out HK2.out).mono ?_
    rintro e' w6 ⟨rfl, hb6⟩
    have z6 : w.heap.size + 0 ≤ w6.heap.size := Nat.le_trans z5 hb6.size
    have HB6 := Lib.hid (HB5.out.trans (hb6.mono (by omega)))
    have B6_0 := Lib.hid (B5_0.out.below hb6 B5_0.out.lt)
    have B6_1 := Lib.hid (B5_1.out.below hb6 B5_1.out.lt)
    have B6_2 := Lib.hid (B5_2.out.below hb6 B5_2.out.lt)
    have B6_3 := Lib.hid (B5_3.out.below hb6 B5_3.out.lt)
    clear hb6
    clear c5_2_0 c5_2_1 c5_2_2 c5_2_3 c5_3_0 c5_3_1 c5_3_2 c5_3_3
    have c6_0_0 := B6_0.out.cell 0 (v := .int .i64 a) rfl
    have c6_0_1 := B6_0.out.cell 1 (v := .int .i64 b) rfl
    have c6_0_2 := B6_0.out.cell 2 (v := .int .i64 q) rfl
    have c6_0_3 := B6_0.out.cell 3 (v := .bool r) rfl
    have c6_1_0 := B6_1.out.cell 0 (v := .int .i64 c) rfl
    have c6_1_1 := B6_1.out.cell 1 (v := .int .i64 d) rfl
    have c6_1_2 := B6_1.out.cell 2 (v := .int .i64 e) rfl
    have c6_1_3 := B6_1.out.cell 3 (v := .int .i64 f) rfl
    go_wp2_with fail
    refine (implWs_any a b q c d e f V K r _ HV.out HK.out).mono ?_
    rintro e' w7 ⟨rfl, hb7⟩
    have z7 : w.heap.size + 0 ≤ w7.heap.size := Nat.le_trans z6 hb7.size
    have HB7 := Lib.hid (HB6.out.trans (hb7.mono (by omega)))
    have B7_0 := Lib.hid (B6_0.out.below hb7 B6_0.out.lt)
    have B7_1 := Lib.hid (B6_1.out.below hb7 B6_1.out.lt)
    have B7_2 := Lib.hid (B6_2.out.below hb7 B6_2.out.lt)
    have B7_3 := Lib.hid (B6_3.out.below hb7 B6_3.out.lt)
    clear hb7
    clear c6_0_0 c6_0_1 c6_0_2 c6_0_3 c6_1_0 c6_1_1 c6_1_2 c6_1_3
    have c7_0_0 := B7_0.out.cell 0 (v := .int .i64 a) rfl
    have c7_0_1 := B7_0.out.cell 1 (v := .int .i64 b) rfl
    have c7_0_2 := B7_0.out.cell 2 (v := .int .i64 q) rfl
    have c7_0_3 := B7_0.out.cell 3 (v := .bool r) rfl
    have c7_1_0 := B7_1.out.cell 0 (v := .int .i64 c) rfl
    have c7_1_1 := B7_1.out.cell 1 (v := .int .i64 d) rfl
    have c7_1_2 := B7_1.out.cell 2 (v := .int .i64 e) rfl
    have c7_1_3 := B7_1.out.cell 3 (v := .int .i64 f) rfl
    go_wp2_with fail
    refine (specWs_any a b q c d e f V K r _ HV.out HK.out).mono ?_
    rintro e' w8 ⟨rfl, hb8⟩
    have z8 : w.heap.size + 0 ≤ w8.heap.size := Nat.le_trans z7 hb8.size
    have HB8 := Lib.hid (HB7.out.trans (hb8.mono (by omega)))
    have B8_0 := Lib.hid (B7_0.out.below hb8 B7_0.out.lt)
    have B8_1 := Lib.hid (B7_1.out.below hb8 B7_1.out.lt)
    have B8_2 := Lib.hid (B7_2.out.below hb8 B7_2.out.lt)
    have B8_3 := Lib.hid (B7_3.out.below hb8 B7_3.out.lt)
    clear hb8
    clear c7_0_0 c7_0_1 c7_0_2 c7_0_3 c7_1_0 c7_1_1 c7_1_2 c7_1_3
    have c8_0_0 := B8_0.out.cell 0 (v := .int .i64 a) rfl
    have c8_0_1 := B8_0.out.cell 1 (v := .int .i64 b) rfl
    have c8_0_2 := B8_0.out.cell 2 (v := .int .i64 q) rfl
    have c8_0_3 := B8_0.out.cell 3 (v := .bool r) rfl
    have c8_1_0 := B8_1.out.cell 0 (v := .int .i64 c) rfl
    have c8_1_1 := B8_1.out.cell 1 (v := .int .i64 d) rfl
    have c8_1_2 := B8_1.out.cell 2 (v := .int .i64 e) rfl
    have c8_1_3 := B8_1.out.cell 3 (v := .int .i64 f) rfl
    have bl0_ := B8_0.out.lt
    have bl1_ := B8_1.out.lt
    have bl2_ := B8_2.out.lt
    have bl3_ := B8_3.out.lt
    go_wp2_with fail
    go_region_held3 (fun V => V.cell? ⟨w1.heap.size, 0, none⟩ = some (.int .i64 a) ∧ V.cell? ⟨w1.heap.size, 1, none⟩ = some (.int .i64 b) ∧ V.cell? ⟨w1.heap.size, 2, none⟩ = some (.int .i64 q) ∧ V.cell? ⟨w1.heap.size, 3, none⟩ = some (.bool r) ∧ V.cell? ⟨w1.heap.size + 1, 0, none⟩ = some (.int .i64 c) ∧ V.cell? ⟨w1.heap.size + 1, 1, none⟩ = some (.int .i64 d) ∧ V.cell? ⟨w1.heap.size + 1, 2, none⟩ = some (.int .i64 e) ∧ V.cell? ⟨w1.heap.size + 1, 3, none⟩ = some (.int .i64 f))
      (first | go_keep | (refine ⟨?_, ?_, ?_, ?_, ?_, ?_, ?_, ?_⟩ <;> (first | go_keep | (rw [hbk.cell (by first | omega | (simp; omega) | simp)]; first | assumption | go_keep))))
      (first
        | (go_at_call 25; with_reducible refine (specTm_any c d e f S2 _ HS2.out).mono ?_; rintro e' w12 ⟨rfl, hbk⟩; have hbk12 := hbk; have zk12 := hbk.size)
        | (go_at_call 24; with_reducible refine (implTm_any c d e f S2 _ HS2.out).mono ?_; rintro e' w11 ⟨rfl, hbk⟩; have hbk11 := hbk; have zk11 := hbk.size)
        | (go_at_call 23; with_reducible refine (specPr_any a b q r S1 _ HS1.out).mono ?_; rintro e' w10 ⟨rfl, hbk⟩; have hbk10 := hbk; have zk10 := hbk.size)
        | (go_at_call 22; with_reducible refine (implPr_any a b q r S1 _ HS1.out).mono ?_; rintro e' w9 ⟨rfl, hbk⟩; have hbk9 := hbk; have zk9 := sz_drew hbk))
    have hb12 : Below w8.heap.size w8 w12 := (below_drewN' (Below.refl _ w8) 1).trans (hbk9.trans ((hbk10.trans ((hbk11.trans (hbk12.mono hbk11.size)).mono hbk10.size)).mono hbk9.size))
    clear hbk hbk9 zk9 hbk10 zk10 hbk11 zk11 hbk12 zk12
    have z12 : w.heap.size + 0 ≤ w12.heap.size := Nat.le_trans z8 hb12.size
    have HB12 := Lib.hid (HB8.out.trans (hb12.mono (by omega)))
    have B12_0 := Lib.hid (B8_0.out.below hb12 B8_0.out.lt)
    have B12_1 := Lib.hid (B8_1.out.below hb12 B8_1.out.lt)
    have B12_2 := Lib.hid (B8_2.out.below hb12 B8_2.out.lt)
    have B12_3 := Lib.hid (B8_3.out.below hb12 B8_3.out.lt)
    clear hb12
    clear c8_0_0 c8_0_1 c8_0_2 c8_0_3 c8_1_0 c8_1_1 c8_1_2 c8_1_3
    have c12_0_0 := B12_0.out.cell 0 (v := .int .i64 a) rfl
    have c12_0_1 := B12_0.out.cell 1 (v := .int .i64 b) rfl
    have c12_0_2 := B12_0.out.cell 2 (v := .int .i64 q) rfl
    have c12_0_3 := B12_0.out.cell 3 (v := .bool r) rfl
    have c12_1_0 := B12_1.out.cell 0 (v := .int .i64 c) rfl
    have c12_1_1 := B12_1.out.cell 1 (v := .int .i64 d) rfl
    have c12_1_2 := B12_1.out.cell 2 (v := .int .i64 e) rfl
    have c12_1_3 := B12_1.out.cell 3 (v := .int .i64 f) rfl
    have c12_2_0 := B12_2.out.cell 0 (v := .int .i64 a2) rfl
    have c12_2_1 := B12_2.out.cell 1 (v := .int .i64 b2) rfl
    have c12_2_2 := B12_2.out.cell 2 (v := .int .i64 q2) rfl
    have c12_2_3 := B12_2.out.cell 3 (v := .bool r2) rfl
    have c12_3_0 := B12_3.out.cell 0 (v := .int .i64 c2) rfl
    have c12_3_1 := B12_3.out.cell 1 (v := .int .i64 d2) rfl
    have c12_3_2 := B12_3.out.cell 2 (v := .int .i64 e2) rfl
    have c12_3_3 := B12_3.out.cell 3 (v := .int .i64 f2) rfl
    have hcc := Pr.c_cases a2 b2 q2 c2 d2 e2 f2 i j HX2.out HY2.out HK2.out
    have hkk := Pr.k_cases a b q c d e f HX.out HY.out HK.out HV.out
    rcases hcc with ⟨hk2, hsh, htm, hx2, hy2⟩ | hk2
    · obtain ⟨⟨A1, A2⟩, ⟨A3, A4⟩, A5, A6⟩ := hsh
      obtain ⟨⟨C1, C2⟩, ⟨C3, C4⟩, ⟨C5, C6⟩, C7, C8⟩ := htm
      subst hk2
      have f1 : IntKind.i64.wrap (X2 + c2) = X2 + c2 := IntWalk.i64_in _ (by omega)
      have f2_ : IntKind.i64.wrap (X2 + c2 + e2) = X2 + c2 + e2 := IntWalk.i64_in _ (by omega)
      have f3 : IntKind.i64.wrap (Y2 + d2) = Y2 + d2 := IntWalk.i64_in _ (by omega)
      have f4 : IntKind.i64.wrap (Y2 + d2 + e2) = Y2 + d2 + e2 := IntWalk.i64_in _ (by omega)
      have f5 : IntKind.i64.wrap (b2 - q2) = b2 - q2 := IntWalk.i64_in _ (by omega)
      have g1 : ¬ a2 < X2 + c2 + e2 := by omega
      have g2 : ¬ b2 - q2 < Y2 + d2 + e2 := by omega
      have g3 : ¬ X2 < e2 := by omega
      have g4 : ¬ Y2 < e2 := by omega
      have g1d : decide (a2 < X2 + c2 + e2) = false := decide_eq_false g1
      have g2d : decide (b2 - q2 < Y2 + d2 + e2) = false := decide_eq_false g2
      have g3d : decide (X2 < e2) = false := decide_eq_false g3
      have g4d : decide (Y2 < e2) = false := decide_eq_false g4
      clear hx2 hy2
      rcases hkk with ⟨hk, ⟨hsp, htt⟩, hX, hY, n1, n2, hV⟩ | hk
      · obtain ⟨a0, b0, q0, q1⟩ := Pr.sh_out hsp
        obtain ⟨c0, d0, e0, f0⟩ := Pr.tm_out htt
        subst hk
        obtain ⟨p1, p2, hp1, hp2, hp3, hp4, xb, p1b, p2b, r1, r2_⟩ := Pr.row_facts c0 e0 f0 a0.2 hX n1
        obtain ⟨s1, s2, hs1, hs2, hs3, hs4, yb, s1b, s2b, r3, r4⟩ := Pr.row_facts d0 e0 f0 (by omega) hY n2
        obtain ⟨t1, t2, t3, t4, ht1, ht2, ht3, ht4, t1b, t2b, t3b, t4b⟩ := Pr.ws_bd hsp htt hX hY n1 n2
        rw [ht1, ht2, ht3, ht4] at hV
        have i1 : IntKind.i64.wrap (X * c) = p1 := by rw [hp1]; exact IntWalk.i64_in _ (by omega)
        have i2 : IntKind.i64.wrap (X - 1) = X - 1 := by exact IntWalk.i64_in _ (by omega)
        have i3 : IntKind.i64.wrap ((X - 1) * f) = p2 := by rw [hp2]; exact IntWalk.i64_in _ (by omega)
        have i4 : IntKind.i64.wrap (p1 + p2) = p1 + p2 := by exact IntWalk.i64_in _ (by omega)
        have i5 : IntKind.i64.wrap (2 * e) = 2 * e := by exact IntWalk.i64_in _ (by omega)
        have i6 : IntKind.i64.wrap (p1 + p2 + 2 * e) = p1 + p2 + 2 * e := by exact IntWalk.i64_in _ (by omega)
        have i7 : IntKind.i64.wrap (X + 1) = X + 1 := by exact IntWalk.i64_in _ (by omega)
        have i8 : IntKind.i64.wrap ((X + 1) * c) = p1 + c := by rw [hp3]; exact IntWalk.i64_in _ (by omega)
        have i9 : IntKind.i64.wrap (X * f) = p2 + f := by rw [hp4]; exact IntWalk.i64_in _ (by omega)
        have i10 : IntKind.i64.wrap (p1 + c + (p2 + f)) = p1 + c + (p2 + f) := by exact IntWalk.i64_in _ (by omega)
        have i11 : IntKind.i64.wrap (p1 + c + (p2 + f) + 2 * e) = p1 + c + (p2 + f) + 2 * e := by exact IntWalk.i64_in _ (by omega)
        have j1 : IntKind.i64.wrap (Y * d) = s1 := by rw [hs1]; exact IntWalk.i64_in _ (by omega)
        have j2 : IntKind.i64.wrap (Y - 1) = Y - 1 := by exact IntWalk.i64_in _ (by omega)
        have j3 : IntKind.i64.wrap ((Y - 1) * f) = s2 := by rw [hs2]; exact IntWalk.i64_in _ (by omega)
        have j4 : IntKind.i64.wrap (s1 + s2) = s1 + s2 := by exact IntWalk.i64_in _ (by omega)
        have j6 : IntKind.i64.wrap (s1 + s2 + 2 * e) = s1 + s2 + 2 * e := by exact IntWalk.i64_in _ (by omega)
        have j7 : IntKind.i64.wrap (Y + 1) = Y + 1 := by exact IntWalk.i64_in _ (by omega)
        have j8 : IntKind.i64.wrap ((Y + 1) * d) = s1 + d := by rw [hs3]; exact IntWalk.i64_in _ (by omega)
        have j9 : IntKind.i64.wrap (Y * f) = s2 + f := by rw [hs4]; exact IntWalk.i64_in _ (by omega)
        have j10 : IntKind.i64.wrap (s1 + d + (s2 + f)) = s1 + d + (s2 + f) := by exact IntWalk.i64_in _ (by omega)
        have j11 : IntKind.i64.wrap (s1 + d + (s2 + f) + 2 * e) = s1 + d + (s2 + f) + 2 * e := by exact IntWalk.i64_in _ (by omega)
        have j12 : IntKind.i64.wrap (b - q) = b - q := by exact IntWalk.i64_in _ (by omega)
        have k1 : IntKind.i64.wrap (a * b) = t4 := by rw [ht4]; exact IntWalk.i64_in _ (by omega)
        have k2 : IntKind.i64.wrap (X * Y) = t1 := by rw [ht1]; exact IntWalk.i64_in _ (by omega)
        have k3 : IntKind.i64.wrap (t1 * c) = t2 := by rw [ht2]; exact IntWalk.i64_in _ (by omega)
        have k4 : IntKind.i64.wrap (t2 * d) = t3 := by rw [ht3]; exact IntWalk.i64_in _ (by omega)
        have k5 : IntKind.i64.wrap (t4 - t3) = V := by rw [hV]; exact IntWalk.i64_in _ (by omega)
        have m1 : ¬ a < p1 + p2 + 2 * e := by omega
        have m2 : ¬ p1 + c + (p2 + f) + 2 * e ≤ a := by omega
        have m3 : ¬ b - q < s1 + s2 + 2 * e := by omega
        have m4 : ¬ s1 + d + (s2 + f) + 2 * e ≤ b - q := by omega
        have m5 : 0 ≤ V := by omega
        have m1d : decide (a < p1 + p2 + 2 * e) = false := decide_eq_false m1
        have m2d : decide (p1 + c + (p2 + f) + 2 * e ≤ a) = false := decide_eq_false m2
        have m3d : decide (b - q < s1 + s2 + 2 * e) = false := decide_eq_false m3
        have m4d : decide (s1 + d + (s2 + f) + 2 * e ≤ b - q) = false := decide_eq_false m4
        clear hX hY hV hsp htt hp1 hp2 hp3 hp4 hs1 hs2 hs3 hs4 ht1 ht2 ht3 ht4 n1 n2
        go_wp2_with fail
        go_ret
        exact ⟨ret_b (by first | rfl | simp | (simp; omega)), HB12.out⟩
      · have hk' : (K == 0) = false := by simpa using hk
        go_wp2_with fail
        go_ret
        exact ⟨ret_b (by first | rfl | simp | (simp; omega)), HB12.out⟩
    · have hk2' : (K2 == 0) = false := by simpa using hk2
      rcases hkk with ⟨hk, ⟨hsp, htt⟩, hX, hY, n1, n2, hV⟩ | hk
      · obtain ⟨a0, b0, q0, q1⟩ := Pr.sh_out hsp
        obtain ⟨c0, d0, e0, f0⟩ := Pr.tm_out htt
        subst hk
        obtain ⟨p1, p2, hp1, hp2, hp3, hp4, xb, p1b, p2b, r1, r2_⟩ := Pr.row_facts c0 e0 f0 a0.2 hX n1
        obtain ⟨s1, s2, hs1, hs2, hs3, hs4, yb, s1b, s2b, r3, r4⟩ := Pr.row_facts d0 e0 f0 (by omega) hY n2
        obtain ⟨t1, t2, t3, t4, ht1, ht2, ht3, ht4, t1b, t2b, t3b, t4b⟩ := Pr.ws_bd hsp htt hX hY n1 n2
        rw [ht1, ht2, ht3, ht4] at hV
        have i1 : IntKind.i64.wrap (X * c) = p1 := by rw [hp1]; exact IntWalk.i64_in _ (by omega)
        have i2 : IntKind.i64.wrap (X - 1) = X - 1 := by exact IntWalk.i64_in _ (by omega)
        have i3 : IntKind.i64.wrap ((X - 1) * f) = p2 := by rw [hp2]; exact IntWalk.i64_in _ (by omega)
        have i4 : IntKind.i64.wrap (p1 + p2) = p1 + p2 := by exact IntWalk.i64_in _ (by omega)
        have i5 : IntKind.i64.wrap (2 * e) = 2 * e := by exact IntWalk.i64_in _ (by omega)
        have i6 : IntKind.i64.wrap (p1 + p2 + 2 * e) = p1 + p2 + 2 * e := by exact IntWalk.i64_in _ (by omega)
        have i7 : IntKind.i64.wrap (X + 1) = X + 1 := by exact IntWalk.i64_in _ (by omega)
        have i8 : IntKind.i64.wrap ((X + 1) * c) = p1 + c := by rw [hp3]; exact IntWalk.i64_in _ (by omega)
        have i9 : IntKind.i64.wrap (X * f) = p2 + f := by rw [hp4]; exact IntWalk.i64_in _ (by omega)
        have i10 : IntKind.i64.wrap (p1 + c + (p2 + f)) = p1 + c + (p2 + f) := by exact IntWalk.i64_in _ (by omega)
        have i11 : IntKind.i64.wrap (p1 + c + (p2 + f) + 2 * e) = p1 + c + (p2 + f) + 2 * e := by exact IntWalk.i64_in _ (by omega)
        have j1 : IntKind.i64.wrap (Y * d) = s1 := by rw [hs1]; exact IntWalk.i64_in _ (by omega)
        have j2 : IntKind.i64.wrap (Y - 1) = Y - 1 := by exact IntWalk.i64_in _ (by omega)
        have j3 : IntKind.i64.wrap ((Y - 1) * f) = s2 := by rw [hs2]; exact IntWalk.i64_in _ (by omega)
        have j4 : IntKind.i64.wrap (s1 + s2) = s1 + s2 := by exact IntWalk.i64_in _ (by omega)
        have j6 : IntKind.i64.wrap (s1 + s2 + 2 * e) = s1 + s2 + 2 * e := by exact IntWalk.i64_in _ (by omega)
        have j7 : IntKind.i64.wrap (Y + 1) = Y + 1 := by exact IntWalk.i64_in _ (by omega)
        have j8 : IntKind.i64.wrap ((Y + 1) * d) = s1 + d := by rw [hs3]; exact IntWalk.i64_in _ (by omega)
        have j9 : IntKind.i64.wrap (Y * f) = s2 + f := by rw [hs4]; exact IntWalk.i64_in _ (by omega)
        have j10 : IntKind.i64.wrap (s1 + d + (s2 + f)) = s1 + d + (s2 + f) := by exact IntWalk.i64_in _ (by omega)
        have j11 : IntKind.i64.wrap (s1 + d + (s2 + f) + 2 * e) = s1 + d + (s2 + f) + 2 * e := by exact IntWalk.i64_in _ (by omega)
        have j12 : IntKind.i64.wrap (b - q) = b - q := by exact IntWalk.i64_in _ (by omega)
        have k1 : IntKind.i64.wrap (a * b) = t4 := by rw [ht4]; exact IntWalk.i64_in _ (by omega)
        have k2 : IntKind.i64.wrap (X * Y) = t1 := by rw [ht1]; exact IntWalk.i64_in _ (by omega)
        have k3 : IntKind.i64.wrap (t1 * c) = t2 := by rw [ht2]; exact IntWalk.i64_in _ (by omega)
        have k4 : IntKind.i64.wrap (t2 * d) = t3 := by rw [ht3]; exact IntWalk.i64_in _ (by omega)
        have k5 : IntKind.i64.wrap (t4 - t3) = V := by rw [hV]; exact IntWalk.i64_in _ (by omega)
        have m1 : ¬ a < p1 + p2 + 2 * e := by omega
        have m2 : ¬ p1 + c + (p2 + f) + 2 * e ≤ a := by omega
        have m3 : ¬ b - q < s1 + s2 + 2 * e := by omega
        have m4 : ¬ s1 + d + (s2 + f) + 2 * e ≤ b - q := by omega
        have m5 : 0 ≤ V := by omega
        have m1d : decide (a < p1 + p2 + 2 * e) = false := decide_eq_false m1
        have m2d : decide (p1 + c + (p2 + f) + 2 * e ≤ a) = false := decide_eq_false m2
        have m3d : decide (b - q < s1 + s2 + 2 * e) = false := decide_eq_false m3
        have m4d : decide (s1 + d + (s2 + f) + 2 * e ≤ b - q) = false := decide_eq_false m4
        clear hX hY hV hsp htt hp1 hp2 hp3 hp4 hs1 hs2 hs3 hs4 ht1 ht2 ht3 ht4 n1 n2
        go_wp2_with fail
        go_ret
        exact ⟨ret_b (by first | rfl | simp | (simp; omega)), HB12.out⟩
      · have hk' : (K == 0) = false := by simpa using hk
        go_wp2_with fail
        go_ret
        exact ⟨ret_b (by first | rfl | simp | (simp; omega)), HB12.out⟩
  · have HF : Hid (decide (4096 < N) = true) := decide_eq_true (by omega)
    go_enter Try.func3, Try.ntmps3
    go_wp2_with fail
    refine (sgBig_any A N C _).mono ?_
    rintro e _ ⟨rfl, rfl⟩
    rw [HF.out]
    go_wp2_with fail
    go_ret
    exact ⟨rfl, Below.refl _ _⟩
end Go.Proofs.Ythepfejoneeaeaa
