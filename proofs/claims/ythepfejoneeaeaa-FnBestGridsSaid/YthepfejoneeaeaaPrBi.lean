/- Contract of the program's BestGrid. -/
import Derived.Test.YthepfejoneeaeaaPrIf
import Derived.Test.YthepfejoneeaeaaPrBs
namespace Go.Proofs.Ythepfejoneeaeaa
open Go.RowKit

theorem ix0 (u v : Value) (w : World) : (Instr.index 75 (.agg #[.iface 65 u, .iface 74 v]) (.int .i64 0)).run Try.prog w = .ok (.iface 65 u) w := by kernel_rfl
theorem ix1 (u v : Value) (w : World) : (Instr.index 75 (.agg #[.iface 65 u, .iface 74 v]) (.int .i64 1)).run Try.prog w = .ok (.iface 74 v) w := by kernel_rfl

set_option maxRecDepth 100000 in
set_option maxHeartbeats 4000000 in
theorem implBg_any (a b g c d e f x k : Int) (r o z : Bool) (w : World) (h : Pr.bgP a b g r c d e f o z x k) :
    Calls Try.prog 27 #[PV a b g r, TV c d e f, .bool o] w fun e' w' => e' = .returned (.tuple #[.bool z, .int .i64 x, .int .i64 k]) ∧ Below w.heap.size w w' := by
  have h_ := Pr.bg_ways h
  clear h
  rcases h_ with ⟨hb, rfl, rfl, rfl⟩ | ⟨U, V, ⟨hp, ht⟩, ⟨hU, u0, u1⟩, ⟨hV, v0, v1⟩, h⟩
  · rcases Pr.both_no hb with h1 | ⟨h1, h2⟩
    · have Q1 := Lib.hid h1
      clear hb h1
      have B0_0 := Lib.hid ((Blk.new (w := w) (g := w.heap.size) #[.int .i64 a, .int .i64 b, .int .i64 g, .bool r] 25 (by simp)).alloc (.cells #[.int .i64 c, .int .i64 d, .int .i64 e, .int .i64 f] 27))
      have B0_1 := Lib.hid (Blk.new (w := (w.alloc (.cells #[.int .i64 a, .int .i64 b, .int .i64 g, .bool r] 25))) (g := w.heap.size + 1) #[.int .i64 c, .int .i64 d, .int .i64 e, .int .i64 f] 27 (by simp))
      have HB0 := Lib.hid ((below_new w (.cells #[.int .i64 a, .int .i64 b, .int .i64 g, .bool r] 25)).alloc (by simp <;> omega) (.cells #[.int .i64 c, .int .i64 d, .int .i64 e, .int .i64 f] 27))
      have Z0 : ((w.alloc (.cells #[.int .i64 a, .int .i64 b, .int .i64 g, .bool r] 25)).alloc (.cells #[.int .i64 c, .int .i64 d, .int .i64 e, .int .i64 f] 27)).heap.size = w.heap.size + 2 := by simp
      have HZ0 := Lib.hid Z0
      clear Z0
      go_enter Try.func27, Try.ntmps27
      go_wp2_with fail
      refine (implPr_any a b g r false _ Q1.out).mono ?_
      rintro e' w1 ⟨rfl, hb1⟩
      have z1 : w.heap.size + 2 ≤ w1.heap.size := by have h_ := hb1.size; rw [HZ0.out] at h_; exact h_
      have HB1 := Lib.hid (HB0.out.trans (hb1.mono (by rw [HZ0.out]; omega)))
      have B1_0 := Lib.hid (B0_0.out.below hb1 (by rw [HZ0.out]; omega))
      have c1_0_0 := B1_0.out.cell 0 (v := .int .i64 a) rfl
      have c1_0_1 := B1_0.out.cell 1 (v := .int .i64 b) rfl
      have c1_0_2 := B1_0.out.cell 2 (v := .int .i64 g) rfl
      have c1_0_3 := B1_0.out.cell 3 (v := .bool r) rfl
      have B1_1 := Lib.hid (B0_1.out.below hb1 (by rw [HZ0.out]; omega))
      have c1_1_0 := B1_1.out.cell 0 (v := .int .i64 c) rfl
      have c1_1_1 := B1_1.out.cell 1 (v := .int .i64 d) rfl
      have c1_1_2 := B1_1.out.cell 2 (v := .int .i64 e) rfl
      have c1_1_3 := B1_1.out.cell 3 (v := .int .i64 f) rfl
      clear hb1
      go_wp2_with fail
      go_ret3
      exact ⟨rfl, HB1.out⟩
    · have Q1 := Lib.hid h1
      have Q2 := Lib.hid h2
      clear hb h1 h2
      have B0_0 := Lib.hid ((Blk.new (w := w) (g := w.heap.size) #[.int .i64 a, .int .i64 b, .int .i64 g, .bool r] 25 (by simp)).alloc (.cells #[.int .i64 c, .int .i64 d, .int .i64 e, .int .i64 f] 27))
      have B0_1 := Lib.hid (Blk.new (w := (w.alloc (.cells #[.int .i64 a, .int .i64 b, .int .i64 g, .bool r] 25))) (g := w.heap.size + 1) #[.int .i64 c, .int .i64 d, .int .i64 e, .int .i64 f] 27 (by simp))
      have HB0 := Lib.hid ((below_new w (.cells #[.int .i64 a, .int .i64 b, .int .i64 g, .bool r] 25)).alloc (by simp <;> omega) (.cells #[.int .i64 c, .int .i64 d, .int .i64 e, .int .i64 f] 27))
      have Z0 : ((w.alloc (.cells #[.int .i64 a, .int .i64 b, .int .i64 g, .bool r] 25)).alloc (.cells #[.int .i64 c, .int .i64 d, .int .i64 e, .int .i64 f] 27)).heap.size = w.heap.size + 2 := by simp
      have HZ0 := Lib.hid Z0
      clear Z0
      go_enter Try.func27, Try.ntmps27
      go_wp2_with fail
      refine (implPr_any a b g r true _ Q1.out).mono ?_
      rintro e' w1 ⟨rfl, hb1⟩
      have z1 : w.heap.size + 2 ≤ w1.heap.size := by have h_ := hb1.size; rw [HZ0.out] at h_; exact h_
      have HB1 := Lib.hid (HB0.out.trans (hb1.mono (by rw [HZ0.out]; omega)))
      have B1_0 := Lib.hid (B0_0.out.below hb1 (by rw [HZ0.out]; omega))
      have c1_0_0 := B1_0.out.cell 0 (v := .int .i64 a) rfl
      have c1_0_1 := B1_0.out.cell 1 (v := .int .i64 b) rfl
      have c1_0_2 := B1_0.out.cell 2 (v := .int .i64 g) rfl
      have c1_0_3 := B1_0.out.cell 3 (v := .bool r) rfl
      have B1_1 := Lib.hid (B0_1.out.below hb1 (by rw [HZ0.out]; omega))
      have c1_1_0 := B1_1.out.cell 0 (v := .int .i64 c) rfl
      have c1_1_1 := B1_1.out.cell 1 (v := .int .i64 d) rfl
      have c1_1_2 := B1_1.out.cell 2 (v := .int .i64 e) rfl
      have c1_1_3 := B1_1.out.cell 3 (v := .int .i64 f) rfl
      clear hb1
      go_wp2_with fail
      refine (implTm_any c d e f false _ Q2.out).mono ?_
      rintro e' w2 ⟨rfl, hb2⟩
      have z2 : w.heap.size + 2 ≤ w2.heap.size := Nat.le_trans z1 hb2.size
      have HB2 := Lib.hid (HB1.out.trans (hb2.mono (by omega)))
      clear c1_0_0 c1_0_1 c1_0_2 c1_0_3 c1_1_0 c1_1_1 c1_1_2 c1_1_3
      have B2_0 := Lib.hid (B1_0.out.below hb2 (by omega))
      have c2_0_0 := B2_0.out.cell 0 (v := .int .i64 a) rfl
      have c2_0_1 := B2_0.out.cell 1 (v := .int .i64 b) rfl
      have c2_0_2 := B2_0.out.cell 2 (v := .int .i64 g) rfl
      have c2_0_3 := B2_0.out.cell 3 (v := .bool r) rfl
      have B2_1 := Lib.hid (B1_1.out.below hb2 (by omega))
      have c2_1_0 := B2_1.out.cell 0 (v := .int .i64 c) rfl
      have c2_1_1 := B2_1.out.cell 1 (v := .int .i64 d) rfl
      have c2_1_2 := B2_1.out.cell 2 (v := .int .i64 e) rfl
      have c2_1_3 := B2_1.out.cell 3 (v := .int .i64 f) rfl
      clear hb2
      go_wp2_with fail
      go_ret3
      exact ⟨rfl, HB2.out⟩
  · rcases h with ⟨rfl, h⟩ | ⟨rfl, rfl, h⟩ | ⟨rfl, rfl, h⟩
    · rcases h with ⟨rfl, rfl, rfl, rfl, rfl⟩ | ⟨q, rfl, rfl, rfl⟩ | ⟨q, rfl, rfl, rfl, rfl⟩ | ⟨q, rfl, rfl, rfl⟩
      · have Q1 := Lib.hid hp
        have Q2 := Lib.hid ht
        have j0 := ix0 (GV a b g r c d e f) (GV a b g r c d e f)
        have j1 := ix1 (GV a b g r c d e f) (GV a b g r c d e f)
        have q1_ := asUT (GV a b g r c d e f)
        have q2_ := asTT (GV a b g r c d e f)
        have HC1 := fun (W : World) => pagesU_any a b g c d e f 0 r W hp ht hU
        have HC2 := fun (W : World) => pagesT_any a b g c d e f 0 r W hp ht hV
        clear hp ht hU hV
        have B0_0 := Lib.hid ((Blk.new (w := w) (g := w.heap.size) #[.int .i64 a, .int .i64 b, .int .i64 g, .bool r] 25 (by simp)).alloc (.cells #[.int .i64 c, .int .i64 d, .int .i64 e, .int .i64 f] 27))
        have B0_1 := Lib.hid (Blk.new (w := (w.alloc (.cells #[.int .i64 a, .int .i64 b, .int .i64 g, .bool r] 25))) (g := w.heap.size + 1) #[.int .i64 c, .int .i64 d, .int .i64 e, .int .i64 f] 27 (by simp))
        have HB0 := Lib.hid ((below_new w (.cells #[.int .i64 a, .int .i64 b, .int .i64 g, .bool r] 25)).alloc (by simp <;> omega) (.cells #[.int .i64 c, .int .i64 d, .int .i64 e, .int .i64 f] 27))
        have Z0 : ((w.alloc (.cells #[.int .i64 a, .int .i64 b, .int .i64 g, .bool r] 25)).alloc (.cells #[.int .i64 c, .int .i64 d, .int .i64 e, .int .i64 f] 27)).heap.size = w.heap.size + 2 := by simp
        have HZ0 := Lib.hid Z0
        clear Z0
        go_enter Try.func27, Try.ntmps27
        go_wp2_with fail
        refine (implPr_any a b g r true _ Q1.out).mono ?_
        rintro e' w1 ⟨rfl, hb1⟩
        have z1 : w.heap.size + 2 ≤ w1.heap.size := by have h_ := hb1.size; rw [HZ0.out] at h_; exact h_
        have HB1 := Lib.hid (HB0.out.trans (hb1.mono (by rw [HZ0.out]; omega)))
        have B1_0 := Lib.hid (B0_0.out.below hb1 (by rw [HZ0.out]; omega))
        have c1_0_0 := B1_0.out.cell 0 (v := .int .i64 a) rfl
        have c1_0_1 := B1_0.out.cell 1 (v := .int .i64 b) rfl
        have c1_0_2 := B1_0.out.cell 2 (v := .int .i64 g) rfl
        have c1_0_3 := B1_0.out.cell 3 (v := .bool r) rfl
        have B1_1 := Lib.hid (B0_1.out.below hb1 (by rw [HZ0.out]; omega))
        have c1_1_0 := B1_1.out.cell 0 (v := .int .i64 c) rfl
        have c1_1_1 := B1_1.out.cell 1 (v := .int .i64 d) rfl
        have c1_1_2 := B1_1.out.cell 2 (v := .int .i64 e) rfl
        have c1_1_3 := B1_1.out.cell 3 (v := .int .i64 f) rfl
        clear hb1
        go_wp2_with fail
        refine (implTm_any c d e f true _ Q2.out).mono ?_
        rintro e' w2 ⟨rfl, hb2⟩
        have z2 : w.heap.size + 2 ≤ w2.heap.size := Nat.le_trans z1 hb2.size
        have HB2 := Lib.hid (HB1.out.trans (hb2.mono (by omega)))
        clear c1_0_0 c1_0_1 c1_0_2 c1_0_3 c1_1_0 c1_1_1 c1_1_2 c1_1_3
        have B2_0 := Lib.hid (B1_0.out.below hb2 (by omega))
        have c2_0_0 := B2_0.out.cell 0 (v := .int .i64 a) rfl
        have c2_0_1 := B2_0.out.cell 1 (v := .int .i64 b) rfl
        have c2_0_2 := B2_0.out.cell 2 (v := .int .i64 g) rfl
        have c2_0_3 := B2_0.out.cell 3 (v := .bool r) rfl
        have B2_1 := Lib.hid (B1_1.out.below hb2 (by omega))
        have c2_1_0 := B2_1.out.cell 0 (v := .int .i64 c) rfl
        have c2_1_1 := B2_1.out.cell 1 (v := .int .i64 d) rfl
        have c2_1_2 := B2_1.out.cell 2 (v := .int .i64 e) rfl
        have c2_1_3 := B2_1.out.cell 3 (v := .int .i64 f) rfl
        clear hb2
        go_wp2_with fail
        refine wp_loop_rounds 3 ?_
        rw [rounds_succ]
        go_wp2_with fail
        refine (HC1 _).mono ?_
        rintro e' w3 ⟨rfl, hb3⟩
        have z3 : w.heap.size + 2 ≤ w3.heap.size := Nat.le_trans z2 hb3.size
        have HB3 := Lib.hid (HB2.out.trans (hb3.mono (by omega)))
        clear c2_0_0 c2_0_1 c2_0_2 c2_0_3 c2_1_0 c2_1_1 c2_1_2 c2_1_3
        have B3_0 := Lib.hid (B2_0.out.below hb3 (by omega))
        have B3_1 := Lib.hid (B2_1.out.below hb3 (by omega))
        clear hb3
        go_wp2_with fail
        rw [rounds_succ]
        go_wp2_with fail
        refine (HC2 _).mono ?_
        rintro e' w4 ⟨rfl, hb4⟩
        have z4 : w.heap.size + 2 ≤ w4.heap.size := Nat.le_trans z3 hb4.size
        have HB4 := Lib.hid (HB3.out.trans (hb4.mono (by omega)))
        have B4_0 := Lib.hid (B3_0.out.below hb4 (by omega))
        have B4_1 := Lib.hid (B3_1.out.below hb4 (by omega))
        clear hb4
        go_wp2_with fail
        rw [rounds_succ]
        go_wp2_with fail
        go_ret3
        first
          | exact ⟨ret_z (by first | rfl | exact decide_eq_true (by omega) | exact decide_eq_false (by omega)), HB4.out⟩
          | exact ⟨ret_z (by first | rfl | exact decide_eq_true (by omega) | exact decide_eq_false (by omega)), HB4.out.alloc (by omega) _⟩
      · by_cases hu0 : U = 0
        · subst hu0
          have Q1 := Lib.hid hp
          have Q2 := Lib.hid ht
          have j0 := ix0 (GV a b g r c d e f) (GV a b g r c d e f)
          have j1 := ix1 (GV a b g r c d e f) (GV a b g r c d e f)
          have q1_ := asUT (GV a b g r c d e f)
          have q2_ := asTT (GV a b g r c d e f)
          have HC1 := fun (W : World) => pagesU_any a b g c d e f 0 r W hp ht hU
          have HC2 := fun (W : World) => pagesT_any a b g c d e f x r W hp ht hV
          clear hp ht hU hV
          have p1 : 0 < x := by omega
          have n1 : ¬ x = 0 := by omega
          have n1' : (x == 0) = false := by simpa using n1
          have B0_0 := Lib.hid ((Blk.new (w := w) (g := w.heap.size) #[.int .i64 a, .int .i64 b, .int .i64 g, .bool r] 25 (by simp)).alloc (.cells #[.int .i64 c, .int .i64 d, .int .i64 e, .int .i64 f] 27))
          have B0_1 := Lib.hid (Blk.new (w := (w.alloc (.cells #[.int .i64 a, .int .i64 b, .int .i64 g, .bool r] 25))) (g := w.heap.size + 1) #[.int .i64 c, .int .i64 d, .int .i64 e, .int .i64 f] 27 (by simp))
          have HB0 := Lib.hid ((below_new w (.cells #[.int .i64 a, .int .i64 b, .int .i64 g, .bool r] 25)).alloc (by simp <;> omega) (.cells #[.int .i64 c, .int .i64 d, .int .i64 e, .int .i64 f] 27))
          have Z0 : ((w.alloc (.cells #[.int .i64 a, .int .i64 b, .int .i64 g, .bool r] 25)).alloc (.cells #[.int .i64 c, .int .i64 d, .int .i64 e, .int .i64 f] 27)).heap.size = w.heap.size + 2 := by simp
          have HZ0 := Lib.hid Z0
          clear Z0
          go_enter Try.func27, Try.ntmps27
          go_wp2_with fail
          refine (implPr_any a b g r true _ Q1.out).mono ?_
          rintro e' w1 ⟨rfl, hb1⟩
          have z1 : w.heap.size + 2 ≤ w1.heap.size := by have h_ := hb1.size; rw [HZ0.out] at h_; exact h_
          have HB1 := Lib.hid (HB0.out.trans (hb1.mono (by rw [HZ0.out]; omega)))
          have B1_0 := Lib.hid (B0_0.out.below hb1 (by rw [HZ0.out]; omega))
          have c1_0_0 := B1_0.out.cell 0 (v := .int .i64 a) rfl
          have c1_0_1 := B1_0.out.cell 1 (v := .int .i64 b) rfl
          have c1_0_2 := B1_0.out.cell 2 (v := .int .i64 g) rfl
          have c1_0_3 := B1_0.out.cell 3 (v := .bool r) rfl
          have B1_1 := Lib.hid (B0_1.out.below hb1 (by rw [HZ0.out]; omega))
          have c1_1_0 := B1_1.out.cell 0 (v := .int .i64 c) rfl
          have c1_1_1 := B1_1.out.cell 1 (v := .int .i64 d) rfl
          have c1_1_2 := B1_1.out.cell 2 (v := .int .i64 e) rfl
          have c1_1_3 := B1_1.out.cell 3 (v := .int .i64 f) rfl
          clear hb1
          go_wp2_with fail
          refine (implTm_any c d e f true _ Q2.out).mono ?_
          rintro e' w2 ⟨rfl, hb2⟩
          have z2 : w.heap.size + 2 ≤ w2.heap.size := Nat.le_trans z1 hb2.size
          have HB2 := Lib.hid (HB1.out.trans (hb2.mono (by omega)))
          clear c1_0_0 c1_0_1 c1_0_2 c1_0_3 c1_1_0 c1_1_1 c1_1_2 c1_1_3
          have B2_0 := Lib.hid (B1_0.out.below hb2 (by omega))
          have c2_0_0 := B2_0.out.cell 0 (v := .int .i64 a) rfl
          have c2_0_1 := B2_0.out.cell 1 (v := .int .i64 b) rfl
          have c2_0_2 := B2_0.out.cell 2 (v := .int .i64 g) rfl
          have c2_0_3 := B2_0.out.cell 3 (v := .bool r) rfl
          have B2_1 := Lib.hid (B1_1.out.below hb2 (by omega))
          have c2_1_0 := B2_1.out.cell 0 (v := .int .i64 c) rfl
          have c2_1_1 := B2_1.out.cell 1 (v := .int .i64 d) rfl
          have c2_1_2 := B2_1.out.cell 2 (v := .int .i64 e) rfl
          have c2_1_3 := B2_1.out.cell 3 (v := .int .i64 f) rfl
          clear hb2
          go_wp2_with fail
          refine wp_loop_rounds 3 ?_
          rw [rounds_succ]
          go_wp2_with fail
          refine (HC1 _).mono ?_
          rintro e' w3 ⟨rfl, hb3⟩
          have z3 : w.heap.size + 2 ≤ w3.heap.size := Nat.le_trans z2 hb3.size
          have HB3 := Lib.hid (HB2.out.trans (hb3.mono (by omega)))
          clear c2_0_0 c2_0_1 c2_0_2 c2_0_3 c2_1_0 c2_1_1 c2_1_2 c2_1_3
          have B3_0 := Lib.hid (B2_0.out.below hb3 (by omega))
          have B3_1 := Lib.hid (B2_1.out.below hb3 (by omega))
          clear hb3
          go_wp2_with fail
          rw [rounds_succ]
          go_wp2_with fail
          refine (HC2 _).mono ?_
          rintro e' w4 ⟨rfl, hb4⟩
          have z4 : w.heap.size + 2 ≤ w4.heap.size := Nat.le_trans z3 hb4.size
          have HB4 := Lib.hid (HB3.out.trans (hb4.mono (by omega)))
          have B4_0 := Lib.hid (B3_0.out.below hb4 (by omega))
          have B4_1 := Lib.hid (B3_1.out.below hb4 (by omega))
          clear hb4
          go_wp2_with fail
          rw [rounds_succ]
          go_wp2_with fail
          go_ret3
          first
            | exact ⟨ret_z (by first | rfl | exact decide_eq_true (by omega) | exact decide_eq_false (by omega)), HB4.out⟩
            | exact ⟨ret_z (by first | rfl | exact decide_eq_true (by omega) | exact decide_eq_false (by omega)), HB4.out.alloc (by omega) _⟩
        · have u2 : 0 < U := by omega
          have Q1 := Lib.hid hp
          have Q2 := Lib.hid ht
          have j0 := ix0 (GV a b g r c d e f) (GV a b g r c d e f)
          have j1 := ix1 (GV a b g r c d e f) (GV a b g r c d e f)
          have q1_ := asUT (GV a b g r c d e f)
          have q2_ := asTT (GV a b g r c d e f)
          have HC1 := fun (W : World) => pagesU_any a b g c d e f U r W hp ht hU
          have HC2 := fun (W : World) => pagesT_any a b g c d e f x r W hp ht hV
          clear hp ht hU hV
          have p1 : 0 < x := by omega
          have n1 : ¬ x = 0 := by omega
          have n1' : (x == 0) = false := by simpa using n1
          have B0_0 := Lib.hid ((Blk.new (w := w) (g := w.heap.size) #[.int .i64 a, .int .i64 b, .int .i64 g, .bool r] 25 (by simp)).alloc (.cells #[.int .i64 c, .int .i64 d, .int .i64 e, .int .i64 f] 27))
          have B0_1 := Lib.hid (Blk.new (w := (w.alloc (.cells #[.int .i64 a, .int .i64 b, .int .i64 g, .bool r] 25))) (g := w.heap.size + 1) #[.int .i64 c, .int .i64 d, .int .i64 e, .int .i64 f] 27 (by simp))
          have HB0 := Lib.hid ((below_new w (.cells #[.int .i64 a, .int .i64 b, .int .i64 g, .bool r] 25)).alloc (by simp <;> omega) (.cells #[.int .i64 c, .int .i64 d, .int .i64 e, .int .i64 f] 27))
          have Z0 : ((w.alloc (.cells #[.int .i64 a, .int .i64 b, .int .i64 g, .bool r] 25)).alloc (.cells #[.int .i64 c, .int .i64 d, .int .i64 e, .int .i64 f] 27)).heap.size = w.heap.size + 2 := by simp
          have HZ0 := Lib.hid Z0
          clear Z0
          go_enter Try.func27, Try.ntmps27
          go_wp2_with fail
          refine (implPr_any a b g r true _ Q1.out).mono ?_
          rintro e' w1 ⟨rfl, hb1⟩
          have z1 : w.heap.size + 2 ≤ w1.heap.size := by have h_ := hb1.size; rw [HZ0.out] at h_; exact h_
          have HB1 := Lib.hid (HB0.out.trans (hb1.mono (by rw [HZ0.out]; omega)))
          have B1_0 := Lib.hid (B0_0.out.below hb1 (by rw [HZ0.out]; omega))
          have c1_0_0 := B1_0.out.cell 0 (v := .int .i64 a) rfl
          have c1_0_1 := B1_0.out.cell 1 (v := .int .i64 b) rfl
          have c1_0_2 := B1_0.out.cell 2 (v := .int .i64 g) rfl
          have c1_0_3 := B1_0.out.cell 3 (v := .bool r) rfl
          have B1_1 := Lib.hid (B0_1.out.below hb1 (by rw [HZ0.out]; omega))
          have c1_1_0 := B1_1.out.cell 0 (v := .int .i64 c) rfl
          have c1_1_1 := B1_1.out.cell 1 (v := .int .i64 d) rfl
          have c1_1_2 := B1_1.out.cell 2 (v := .int .i64 e) rfl
          have c1_1_3 := B1_1.out.cell 3 (v := .int .i64 f) rfl
          clear hb1
          go_wp2_with fail
          refine (implTm_any c d e f true _ Q2.out).mono ?_
          rintro e' w2 ⟨rfl, hb2⟩
          have z2 : w.heap.size + 2 ≤ w2.heap.size := Nat.le_trans z1 hb2.size
          have HB2 := Lib.hid (HB1.out.trans (hb2.mono (by omega)))
          clear c1_0_0 c1_0_1 c1_0_2 c1_0_3 c1_1_0 c1_1_1 c1_1_2 c1_1_3
          have B2_0 := Lib.hid (B1_0.out.below hb2 (by omega))
          have c2_0_0 := B2_0.out.cell 0 (v := .int .i64 a) rfl
          have c2_0_1 := B2_0.out.cell 1 (v := .int .i64 b) rfl
          have c2_0_2 := B2_0.out.cell 2 (v := .int .i64 g) rfl
          have c2_0_3 := B2_0.out.cell 3 (v := .bool r) rfl
          have B2_1 := Lib.hid (B1_1.out.below hb2 (by omega))
          have c2_1_0 := B2_1.out.cell 0 (v := .int .i64 c) rfl
          have c2_1_1 := B2_1.out.cell 1 (v := .int .i64 d) rfl
          have c2_1_2 := B2_1.out.cell 2 (v := .int .i64 e) rfl
          have c2_1_3 := B2_1.out.cell 3 (v := .int .i64 f) rfl
          clear hb2
          go_wp2_with fail
          refine wp_loop_rounds 3 ?_
          rw [rounds_succ]
          go_wp2_with fail
          refine (HC1 _).mono ?_
          rintro e' w3 ⟨rfl, hb3⟩
          have z3 : w.heap.size + 2 ≤ w3.heap.size := Nat.le_trans z2 hb3.size
          have HB3 := Lib.hid (HB2.out.trans (hb3.mono (by omega)))
          clear c2_0_0 c2_0_1 c2_0_2 c2_0_3 c2_1_0 c2_1_1 c2_1_2 c2_1_3
          have B3_0 := Lib.hid (B2_0.out.below hb3 (by omega))
          have B3_1 := Lib.hid (B2_1.out.below hb3 (by omega))
          clear hb3
          go_wp2_with fail
          rw [rounds_succ]
          go_wp2_with fail
          refine (HC2 _).mono ?_
          rintro e' w4 ⟨rfl, hb4⟩
          have z4 : w.heap.size + 2 ≤ w4.heap.size := Nat.le_trans z3 hb4.size
          have HB4 := Lib.hid (HB3.out.trans (hb4.mono (by omega)))
          have B4_0 := Lib.hid (B3_0.out.below hb4 (by omega))
          have B4_1 := Lib.hid (B3_1.out.below hb4 (by omega))
          clear hb4
          go_wp2_with fail
          rw [rounds_succ]
          go_wp2_with fail
          go_ret3
          first
            | exact ⟨ret_z (by first | rfl | exact decide_eq_true (by omega) | exact decide_eq_false (by omega)), HB4.out⟩
            | exact ⟨ret_z (by first | rfl | exact decide_eq_true (by omega) | exact decide_eq_false (by omega)), HB4.out.alloc (by omega) _⟩
      · have Q1 := Lib.hid hp
        have Q2 := Lib.hid ht
        have j0 := ix0 (GV a b g r c d e f) (GV a b g r c d e f)
        have j1 := ix1 (GV a b g r c d e f) (GV a b g r c d e f)
        have q1_ := asUT (GV a b g r c d e f)
        have q2_ := asTT (GV a b g r c d e f)
        have HC1 := fun (W : World) => pagesU_any a b g c d e f x r W hp ht hU
        have HC2 := fun (W : World) => pagesT_any a b g c d e f x r W hp ht hV
        clear hp ht hU hV
        have p1 : 0 < x := by omega
        have n1 : ¬ x = 0 := by omega
        have n1' : (x == 0) = false := by simpa using n1
        have B0_0 := Lib.hid ((Blk.new (w := w) (g := w.heap.size) #[.int .i64 a, .int .i64 b, .int .i64 g, .bool r] 25 (by simp)).alloc (.cells #[.int .i64 c, .int .i64 d, .int .i64 e, .int .i64 f] 27))
        have B0_1 := Lib.hid (Blk.new (w := (w.alloc (.cells #[.int .i64 a, .int .i64 b, .int .i64 g, .bool r] 25))) (g := w.heap.size + 1) #[.int .i64 c, .int .i64 d, .int .i64 e, .int .i64 f] 27 (by simp))
        have HB0 := Lib.hid ((below_new w (.cells #[.int .i64 a, .int .i64 b, .int .i64 g, .bool r] 25)).alloc (by simp <;> omega) (.cells #[.int .i64 c, .int .i64 d, .int .i64 e, .int .i64 f] 27))
        have Z0 : ((w.alloc (.cells #[.int .i64 a, .int .i64 b, .int .i64 g, .bool r] 25)).alloc (.cells #[.int .i64 c, .int .i64 d, .int .i64 e, .int .i64 f] 27)).heap.size = w.heap.size + 2 := by simp
        have HZ0 := Lib.hid Z0
        clear Z0
        go_enter Try.func27, Try.ntmps27
        go_wp2_with fail
        refine (implPr_any a b g r true _ Q1.out).mono ?_
        rintro e' w1 ⟨rfl, hb1⟩
        have z1 : w.heap.size + 2 ≤ w1.heap.size := by have h_ := hb1.size; rw [HZ0.out] at h_; exact h_
        have HB1 := Lib.hid (HB0.out.trans (hb1.mono (by rw [HZ0.out]; omega)))
        have B1_0 := Lib.hid (B0_0.out.below hb1 (by rw [HZ0.out]; omega))
        have c1_0_0 := B1_0.out.cell 0 (v := .int .i64 a) rfl
        have c1_0_1 := B1_0.out.cell 1 (v := .int .i64 b) rfl
        have c1_0_2 := B1_0.out.cell 2 (v := .int .i64 g) rfl
        have c1_0_3 := B1_0.out.cell 3 (v := .bool r) rfl
        have B1_1 := Lib.hid (B0_1.out.below hb1 (by rw [HZ0.out]; omega))
        have c1_1_0 := B1_1.out.cell 0 (v := .int .i64 c) rfl
        have c1_1_1 := B1_1.out.cell 1 (v := .int .i64 d) rfl
        have c1_1_2 := B1_1.out.cell 2 (v := .int .i64 e) rfl
        have c1_1_3 := B1_1.out.cell 3 (v := .int .i64 f) rfl
        clear hb1
        go_wp2_with fail
        refine (implTm_any c d e f true _ Q2.out).mono ?_
        rintro e' w2 ⟨rfl, hb2⟩
        have z2 : w.heap.size + 2 ≤ w2.heap.size := Nat.le_trans z1 hb2.size
        have HB2 := Lib.hid (HB1.out.trans (hb2.mono (by omega)))
        clear c1_0_0 c1_0_1 c1_0_2 c1_0_3 c1_1_0 c1_1_1 c1_1_2 c1_1_3
        have B2_0 := Lib.hid (B1_0.out.below hb2 (by omega))
        have c2_0_0 := B2_0.out.cell 0 (v := .int .i64 a) rfl
        have c2_0_1 := B2_0.out.cell 1 (v := .int .i64 b) rfl
        have c2_0_2 := B2_0.out.cell 2 (v := .int .i64 g) rfl
        have c2_0_3 := B2_0.out.cell 3 (v := .bool r) rfl
        have B2_1 := Lib.hid (B1_1.out.below hb2 (by omega))
        have c2_1_0 := B2_1.out.cell 0 (v := .int .i64 c) rfl
        have c2_1_1 := B2_1.out.cell 1 (v := .int .i64 d) rfl
        have c2_1_2 := B2_1.out.cell 2 (v := .int .i64 e) rfl
        have c2_1_3 := B2_1.out.cell 3 (v := .int .i64 f) rfl
        clear hb2
        go_wp2_with fail
        refine wp_loop_rounds 3 ?_
        rw [rounds_succ]
        go_wp2_with fail
        refine (HC1 _).mono ?_
        rintro e' w3 ⟨rfl, hb3⟩
        have z3 : w.heap.size + 2 ≤ w3.heap.size := Nat.le_trans z2 hb3.size
        have HB3 := Lib.hid (HB2.out.trans (hb3.mono (by omega)))
        clear c2_0_0 c2_0_1 c2_0_2 c2_0_3 c2_1_0 c2_1_1 c2_1_2 c2_1_3
        have B3_0 := Lib.hid (B2_0.out.below hb3 (by omega))
        have B3_1 := Lib.hid (B2_1.out.below hb3 (by omega))
        clear hb3
        go_wp2_with fail
        rw [rounds_succ]
        go_wp2_with fail
        refine (HC2 _).mono ?_
        rintro e' w4 ⟨rfl, hb4⟩
        have z4 : w.heap.size + 2 ≤ w4.heap.size := Nat.le_trans z3 hb4.size
        have HB4 := Lib.hid (HB3.out.trans (hb4.mono (by omega)))
        have B4_0 := Lib.hid (B3_0.out.below hb4 (by omega))
        have B4_1 := Lib.hid (B3_1.out.below hb4 (by omega))
        clear hb4
        go_wp2_with fail
        rw [rounds_succ]
        go_wp2_with fail
        go_ret3
        first
          | exact ⟨ret_z (by first | rfl | exact decide_eq_true (by omega) | exact decide_eq_false (by omega)), HB4.out⟩
          | exact ⟨ret_z (by first | rfl | exact decide_eq_true (by omega) | exact decide_eq_false (by omega)), HB4.out.alloc (by omega) _⟩
      · have Q1 := Lib.hid hp
        have Q2 := Lib.hid ht
        have j0 := ix0 (GV a b g r c d e f) (GV a b g r c d e f)
        have j1 := ix1 (GV a b g r c d e f) (GV a b g r c d e f)
        have q1_ := asUT (GV a b g r c d e f)
        have q2_ := asTT (GV a b g r c d e f)
        have HC1 := fun (W : World) => pagesU_any a b g c d e f x r W hp ht hU
        have HC2 := fun (W : World) => pagesT_any a b g c d e f V r W hp ht hV
        clear hp ht hU hV
        have p1 : 0 < x := by omega
        have n1 : ¬ x = 0 := by omega
        have n1' : (x == 0) = false := by simpa using n1
        have l3 : ¬ x < V := by omega
        have B0_0 := Lib.hid ((Blk.new (w := w) (g := w.heap.size) #[.int .i64 a, .int .i64 b, .int .i64 g, .bool r] 25 (by simp)).alloc (.cells #[.int .i64 c, .int .i64 d, .int .i64 e, .int .i64 f] 27))
        have B0_1 := Lib.hid (Blk.new (w := (w.alloc (.cells #[.int .i64 a, .int .i64 b, .int .i64 g, .bool r] 25))) (g := w.heap.size + 1) #[.int .i64 c, .int .i64 d, .int .i64 e, .int .i64 f] 27 (by simp))
        have HB0 := Lib.hid ((below_new w (.cells #[.int .i64 a, .int .i64 b, .int .i64 g, .bool r] 25)).alloc (by simp <;> omega) (.cells #[.int .i64 c, .int .i64 d, .int .i64 e, .int .i64 f] 27))
        have Z0 : ((w.alloc (.cells #[.int .i64 a, .int .i64 b, .int .i64 g, .bool r] 25)).alloc (.cells #[.int .i64 c, .int .i64 d, .int .i64 e, .int .i64 f] 27)).heap.size = w.heap.size + 2 := by simp
        have HZ0 := Lib.hid Z0
        clear Z0
        go_enter Try.func27, Try.ntmps27
        go_wp2_with fail
        refine (implPr_any a b g r true _ Q1.out).mono ?_
        rintro e' w1 ⟨rfl, hb1⟩
        have z1 : w.heap.size + 2 ≤ w1.heap.size := by have h_ := hb1.size; rw [HZ0.out] at h_; exact h_
        have HB1 := Lib.hid (HB0.out.trans (hb1.mono (by rw [HZ0.out]; omega)))
        have B1_0 := Lib.hid (B0_0.out.below hb1 (by rw [HZ0.out]; omega))
        have c1_0_0 := B1_0.out.cell 0 (v := .int .i64 a) rfl
        have c1_0_1 := B1_0.out.cell 1 (v := .int .i64 b) rfl
        have c1_0_2 := B1_0.out.cell 2 (v := .int .i64 g) rfl
        have c1_0_3 := B1_0.out.cell 3 (v := .bool r) rfl
        have B1_1 := Lib.hid (B0_1.out.below hb1 (by rw [HZ0.out]; omega))
        have c1_1_0 := B1_1.out.cell 0 (v := .int .i64 c) rfl
        have c1_1_1 := B1_1.out.cell 1 (v := .int .i64 d) rfl
        have c1_1_2 := B1_1.out.cell 2 (v := .int .i64 e) rfl
        have c1_1_3 := B1_1.out.cell 3 (v := .int .i64 f) rfl
        clear hb1
        go_wp2_with fail
        refine (implTm_any c d e f true _ Q2.out).mono ?_
        rintro e' w2 ⟨rfl, hb2⟩
        have z2 : w.heap.size + 2 ≤ w2.heap.size := Nat.le_trans z1 hb2.size
        have HB2 := Lib.hid (HB1.out.trans (hb2.mono (by omega)))
        clear c1_0_0 c1_0_1 c1_0_2 c1_0_3 c1_1_0 c1_1_1 c1_1_2 c1_1_3
        have B2_0 := Lib.hid (B1_0.out.below hb2 (by omega))
        have c2_0_0 := B2_0.out.cell 0 (v := .int .i64 a) rfl
        have c2_0_1 := B2_0.out.cell 1 (v := .int .i64 b) rfl
        have c2_0_2 := B2_0.out.cell 2 (v := .int .i64 g) rfl
        have c2_0_3 := B2_0.out.cell 3 (v := .bool r) rfl
        have B2_1 := Lib.hid (B1_1.out.below hb2 (by omega))
        have c2_1_0 := B2_1.out.cell 0 (v := .int .i64 c) rfl
        have c2_1_1 := B2_1.out.cell 1 (v := .int .i64 d) rfl
        have c2_1_2 := B2_1.out.cell 2 (v := .int .i64 e) rfl
        have c2_1_3 := B2_1.out.cell 3 (v := .int .i64 f) rfl
        clear hb2
        go_wp2_with fail
        refine wp_loop_rounds 3 ?_
        rw [rounds_succ]
        go_wp2_with fail
        refine (HC1 _).mono ?_
        rintro e' w3 ⟨rfl, hb3⟩
        have z3 : w.heap.size + 2 ≤ w3.heap.size := Nat.le_trans z2 hb3.size
        have HB3 := Lib.hid (HB2.out.trans (hb3.mono (by omega)))
        clear c2_0_0 c2_0_1 c2_0_2 c2_0_3 c2_1_0 c2_1_1 c2_1_2 c2_1_3
        have B3_0 := Lib.hid (B2_0.out.below hb3 (by omega))
        have B3_1 := Lib.hid (B2_1.out.below hb3 (by omega))
        clear hb3
        go_wp2_with fail
        rw [rounds_succ]
        go_wp2_with fail
        refine (HC2 _).mono ?_
        rintro e' w4 ⟨rfl, hb4⟩
        have z4 : w.heap.size + 2 ≤ w4.heap.size := Nat.le_trans z3 hb4.size
        have HB4 := Lib.hid (HB3.out.trans (hb4.mono (by omega)))
        have B4_0 := Lib.hid (B3_0.out.below hb4 (by omega))
        have B4_1 := Lib.hid (B3_1.out.below hb4 (by omega))
        clear hb4
        go_wp2_with fail
        rw [rounds_succ]
        go_wp2_with fail
        go_ret3
        first
          | exact ⟨ret_z (by first | rfl | exact decide_eq_true (by omega) | exact decide_eq_false (by omega)), HB4.out⟩
          | exact ⟨ret_z (by first | rfl | exact decide_eq_true (by omega) | exact decide_eq_false (by omega)), HB4.out.alloc (by omega) _⟩
    · rcases h with ⟨rfl, rfl, rfl, rfl⟩ | ⟨q, rfl, rfl, rfl⟩
      · have Q1 := Lib.hid hp
        have Q2 := Lib.hid ht
        have j0 := ix0 (GV a b g true c d e f) (GV a b g true c d e f)
        have j1 := ix1 (GV a b g true c d e f) (GV a b g true c d e f)
        have q1_ := asUT (GV a b g true c d e f)
        have q2_ := asTT (GV a b g true c d e f)
        have HC1 := fun (W : World) => pagesU_any a b g c d e f 0 true W hp ht hU
        have HC2 := fun (W : World) => pagesT_any a b g c d e f V true W hp ht hV
        clear hp ht hU hV
        have B0_0 := Lib.hid ((Blk.new (w := w) (g := w.heap.size) #[.int .i64 a, .int .i64 b, .int .i64 g, .bool true] 25 (by simp)).alloc (.cells #[.int .i64 c, .int .i64 d, .int .i64 e, .int .i64 f] 27))
        have B0_1 := Lib.hid (Blk.new (w := (w.alloc (.cells #[.int .i64 a, .int .i64 b, .int .i64 g, .bool true] 25))) (g := w.heap.size + 1) #[.int .i64 c, .int .i64 d, .int .i64 e, .int .i64 f] 27 (by simp))
        have HB0 := Lib.hid ((below_new w (.cells #[.int .i64 a, .int .i64 b, .int .i64 g, .bool true] 25)).alloc (by simp <;> omega) (.cells #[.int .i64 c, .int .i64 d, .int .i64 e, .int .i64 f] 27))
        have Z0 : ((w.alloc (.cells #[.int .i64 a, .int .i64 b, .int .i64 g, .bool true] 25)).alloc (.cells #[.int .i64 c, .int .i64 d, .int .i64 e, .int .i64 f] 27)).heap.size = w.heap.size + 2 := by simp
        have HZ0 := Lib.hid Z0
        clear Z0
        go_enter Try.func27, Try.ntmps27
        go_wp2_with fail
        refine (implPr_any a b g true true _ Q1.out).mono ?_
        rintro e' w1 ⟨rfl, hb1⟩
        have z1 : w.heap.size + 2 ≤ w1.heap.size := by have h_ := hb1.size; rw [HZ0.out] at h_; exact h_
        have HB1 := Lib.hid (HB0.out.trans (hb1.mono (by rw [HZ0.out]; omega)))
        have B1_0 := Lib.hid (B0_0.out.below hb1 (by rw [HZ0.out]; omega))
        have c1_0_0 := B1_0.out.cell 0 (v := .int .i64 a) rfl
        have c1_0_1 := B1_0.out.cell 1 (v := .int .i64 b) rfl
        have c1_0_2 := B1_0.out.cell 2 (v := .int .i64 g) rfl
        have c1_0_3 := B1_0.out.cell 3 (v := .bool true) rfl
        have B1_1 := Lib.hid (B0_1.out.below hb1 (by rw [HZ0.out]; omega))
        have c1_1_0 := B1_1.out.cell 0 (v := .int .i64 c) rfl
        have c1_1_1 := B1_1.out.cell 1 (v := .int .i64 d) rfl
        have c1_1_2 := B1_1.out.cell 2 (v := .int .i64 e) rfl
        have c1_1_3 := B1_1.out.cell 3 (v := .int .i64 f) rfl
        clear hb1
        go_wp2_with fail
        refine (implTm_any c d e f true _ Q2.out).mono ?_
        rintro e' w2 ⟨rfl, hb2⟩
        have z2 : w.heap.size + 2 ≤ w2.heap.size := Nat.le_trans z1 hb2.size
        have HB2 := Lib.hid (HB1.out.trans (hb2.mono (by omega)))
        clear c1_0_0 c1_0_1 c1_0_2 c1_0_3 c1_1_0 c1_1_1 c1_1_2 c1_1_3
        have B2_0 := Lib.hid (B1_0.out.below hb2 (by omega))
        have c2_0_0 := B2_0.out.cell 0 (v := .int .i64 a) rfl
        have c2_0_1 := B2_0.out.cell 1 (v := .int .i64 b) rfl
        have c2_0_2 := B2_0.out.cell 2 (v := .int .i64 g) rfl
        have c2_0_3 := B2_0.out.cell 3 (v := .bool true) rfl
        have B2_1 := Lib.hid (B1_1.out.below hb2 (by omega))
        have c2_1_0 := B2_1.out.cell 0 (v := .int .i64 c) rfl
        have c2_1_1 := B2_1.out.cell 1 (v := .int .i64 d) rfl
        have c2_1_2 := B2_1.out.cell 2 (v := .int .i64 e) rfl
        have c2_1_3 := B2_1.out.cell 3 (v := .int .i64 f) rfl
        clear hb2
        go_wp2_with fail
        refine wp_loop_rounds 3 ?_
        rw [rounds_succ]
        go_wp2_with fail
        refine (follU_any a b g c d e f true _).mono ?_
        rintro e' w3 ⟨rfl, hb3⟩
        have z3 : w.heap.size + 2 ≤ w3.heap.size := Nat.le_trans z2 hb3.size
        have HB3 := Lib.hid (HB2.out.trans (hb3.mono (by omega)))
        clear c2_0_0 c2_0_1 c2_0_2 c2_0_3 c2_1_0 c2_1_1 c2_1_2 c2_1_3
        have B3_0 := Lib.hid (B2_0.out.below hb3 (by omega))
        have B3_1 := Lib.hid (B2_1.out.below hb3 (by omega))
        clear hb3
        go_wp2_with fail
        refine (HC1 _).mono ?_
        rintro e' w4 ⟨rfl, hb4⟩
        have z4 : w.heap.size + 2 ≤ w4.heap.size := Nat.le_trans z3 hb4.size
        have HB4 := Lib.hid (HB3.out.trans (hb4.mono (by omega)))
        have B4_0 := Lib.hid (B3_0.out.below hb4 (by omega))
        have B4_1 := Lib.hid (B3_1.out.below hb4 (by omega))
        clear hb4
        go_wp2_with fail
        rw [rounds_succ]
        go_wp2_with fail
        refine (follT_any a b g c d e f true _).mono ?_
        rintro e' w5 ⟨rfl, hb5⟩
        have z5 : w.heap.size + 2 ≤ w5.heap.size := Nat.le_trans z4 hb5.size
        have HB5 := Lib.hid (HB4.out.trans (hb5.mono (by omega)))
        have B5_0 := Lib.hid (B4_0.out.below hb5 (by omega))
        have B5_1 := Lib.hid (B4_1.out.below hb5 (by omega))
        clear hb5
        go_wp2_with fail
        rw [rounds_succ]
        go_wp2_with fail
        go_ret3
        first
          | exact ⟨ret_z (by first | rfl | exact decide_eq_true (by omega) | exact decide_eq_false (by omega)), HB5.out⟩
          | exact ⟨ret_z (by first | rfl | exact decide_eq_true (by omega) | exact decide_eq_false (by omega)), HB5.out.alloc (by omega) _⟩
      · have Q1 := Lib.hid hp
        have Q2 := Lib.hid ht
        have j0 := ix0 (GV a b g true c d e f) (GV a b g true c d e f)
        have j1 := ix1 (GV a b g true c d e f) (GV a b g true c d e f)
        have q1_ := asUT (GV a b g true c d e f)
        have q2_ := asTT (GV a b g true c d e f)
        have HC1 := fun (W : World) => pagesU_any a b g c d e f x true W hp ht hU
        have HC2 := fun (W : World) => pagesT_any a b g c d e f V true W hp ht hV
        clear hp ht hU hV
        have p1 : 0 < x := by omega
        have n1 : ¬ x = 0 := by omega
        have n1' : (x == 0) = false := by simpa using n1
        have B0_0 := Lib.hid ((Blk.new (w := w) (g := w.heap.size) #[.int .i64 a, .int .i64 b, .int .i64 g, .bool true] 25 (by simp)).alloc (.cells #[.int .i64 c, .int .i64 d, .int .i64 e, .int .i64 f] 27))
        have B0_1 := Lib.hid (Blk.new (w := (w.alloc (.cells #[.int .i64 a, .int .i64 b, .int .i64 g, .bool true] 25))) (g := w.heap.size + 1) #[.int .i64 c, .int .i64 d, .int .i64 e, .int .i64 f] 27 (by simp))
        have HB0 := Lib.hid ((below_new w (.cells #[.int .i64 a, .int .i64 b, .int .i64 g, .bool true] 25)).alloc (by simp <;> omega) (.cells #[.int .i64 c, .int .i64 d, .int .i64 e, .int .i64 f] 27))
        have Z0 : ((w.alloc (.cells #[.int .i64 a, .int .i64 b, .int .i64 g, .bool true] 25)).alloc (.cells #[.int .i64 c, .int .i64 d, .int .i64 e, .int .i64 f] 27)).heap.size = w.heap.size + 2 := by simp
        have HZ0 := Lib.hid Z0
        clear Z0
        go_enter Try.func27, Try.ntmps27
        go_wp2_with fail
        refine (implPr_any a b g true true _ Q1.out).mono ?_
        rintro e' w1 ⟨rfl, hb1⟩
        have z1 : w.heap.size + 2 ≤ w1.heap.size := by have h_ := hb1.size; rw [HZ0.out] at h_; exact h_
        have HB1 := Lib.hid (HB0.out.trans (hb1.mono (by rw [HZ0.out]; omega)))
        have B1_0 := Lib.hid (B0_0.out.below hb1 (by rw [HZ0.out]; omega))
        have c1_0_0 := B1_0.out.cell 0 (v := .int .i64 a) rfl
        have c1_0_1 := B1_0.out.cell 1 (v := .int .i64 b) rfl
        have c1_0_2 := B1_0.out.cell 2 (v := .int .i64 g) rfl
        have c1_0_3 := B1_0.out.cell 3 (v := .bool true) rfl
        have B1_1 := Lib.hid (B0_1.out.below hb1 (by rw [HZ0.out]; omega))
        have c1_1_0 := B1_1.out.cell 0 (v := .int .i64 c) rfl
        have c1_1_1 := B1_1.out.cell 1 (v := .int .i64 d) rfl
        have c1_1_2 := B1_1.out.cell 2 (v := .int .i64 e) rfl
        have c1_1_3 := B1_1.out.cell 3 (v := .int .i64 f) rfl
        clear hb1
        go_wp2_with fail
        refine (implTm_any c d e f true _ Q2.out).mono ?_
        rintro e' w2 ⟨rfl, hb2⟩
        have z2 : w.heap.size + 2 ≤ w2.heap.size := Nat.le_trans z1 hb2.size
        have HB2 := Lib.hid (HB1.out.trans (hb2.mono (by omega)))
        clear c1_0_0 c1_0_1 c1_0_2 c1_0_3 c1_1_0 c1_1_1 c1_1_2 c1_1_3
        have B2_0 := Lib.hid (B1_0.out.below hb2 (by omega))
        have c2_0_0 := B2_0.out.cell 0 (v := .int .i64 a) rfl
        have c2_0_1 := B2_0.out.cell 1 (v := .int .i64 b) rfl
        have c2_0_2 := B2_0.out.cell 2 (v := .int .i64 g) rfl
        have c2_0_3 := B2_0.out.cell 3 (v := .bool true) rfl
        have B2_1 := Lib.hid (B1_1.out.below hb2 (by omega))
        have c2_1_0 := B2_1.out.cell 0 (v := .int .i64 c) rfl
        have c2_1_1 := B2_1.out.cell 1 (v := .int .i64 d) rfl
        have c2_1_2 := B2_1.out.cell 2 (v := .int .i64 e) rfl
        have c2_1_3 := B2_1.out.cell 3 (v := .int .i64 f) rfl
        clear hb2
        go_wp2_with fail
        refine wp_loop_rounds 3 ?_
        rw [rounds_succ]
        go_wp2_with fail
        refine (follU_any a b g c d e f true _).mono ?_
        rintro e' w3 ⟨rfl, hb3⟩
        have z3 : w.heap.size + 2 ≤ w3.heap.size := Nat.le_trans z2 hb3.size
        have HB3 := Lib.hid (HB2.out.trans (hb3.mono (by omega)))
        clear c2_0_0 c2_0_1 c2_0_2 c2_0_3 c2_1_0 c2_1_1 c2_1_2 c2_1_3
        have B3_0 := Lib.hid (B2_0.out.below hb3 (by omega))
        have B3_1 := Lib.hid (B2_1.out.below hb3 (by omega))
        clear hb3
        go_wp2_with fail
        refine (HC1 _).mono ?_
        rintro e' w4 ⟨rfl, hb4⟩
        have z4 : w.heap.size + 2 ≤ w4.heap.size := Nat.le_trans z3 hb4.size
        have HB4 := Lib.hid (HB3.out.trans (hb4.mono (by omega)))
        have B4_0 := Lib.hid (B3_0.out.below hb4 (by omega))
        have B4_1 := Lib.hid (B3_1.out.below hb4 (by omega))
        clear hb4
        go_wp2_with fail
        rw [rounds_succ]
        go_wp2_with fail
        refine (follT_any a b g c d e f true _).mono ?_
        rintro e' w5 ⟨rfl, hb5⟩
        have z5 : w.heap.size + 2 ≤ w5.heap.size := Nat.le_trans z4 hb5.size
        have HB5 := Lib.hid (HB4.out.trans (hb5.mono (by omega)))
        have B5_0 := Lib.hid (B4_0.out.below hb5 (by omega))
        have B5_1 := Lib.hid (B4_1.out.below hb5 (by omega))
        clear hb5
        go_wp2_with fail
        rw [rounds_succ]
        go_wp2_with fail
        go_ret3
        first
          | exact ⟨ret_z (by first | rfl | exact decide_eq_true (by omega) | exact decide_eq_false (by omega)), HB5.out⟩
          | exact ⟨ret_z (by first | rfl | exact decide_eq_true (by omega) | exact decide_eq_false (by omega)), HB5.out.alloc (by omega) _⟩
    · rcases h with ⟨rfl, rfl, rfl, rfl⟩ | ⟨q, rfl, rfl, rfl⟩
      · have Q1 := Lib.hid hp
        have Q2 := Lib.hid ht
        have j0 := ix0 (GV a b g false c d e f) (GV a b g false c d e f)
        have j1 := ix1 (GV a b g false c d e f) (GV a b g false c d e f)
        have q1_ := asUT (GV a b g false c d e f)
        have q2_ := asTT (GV a b g false c d e f)
        have HC1 := fun (W : World) => pagesU_any a b g c d e f U false W hp ht hU
        have HC2 := fun (W : World) => pagesT_any a b g c d e f 0 false W hp ht hV
        clear hp ht hU hV
        have B0_0 := Lib.hid ((Blk.new (w := w) (g := w.heap.size) #[.int .i64 a, .int .i64 b, .int .i64 g, .bool false] 25 (by simp)).alloc (.cells #[.int .i64 c, .int .i64 d, .int .i64 e, .int .i64 f] 27))
        have B0_1 := Lib.hid (Blk.new (w := (w.alloc (.cells #[.int .i64 a, .int .i64 b, .int .i64 g, .bool false] 25))) (g := w.heap.size + 1) #[.int .i64 c, .int .i64 d, .int .i64 e, .int .i64 f] 27 (by simp))
        have HB0 := Lib.hid ((below_new w (.cells #[.int .i64 a, .int .i64 b, .int .i64 g, .bool false] 25)).alloc (by simp <;> omega) (.cells #[.int .i64 c, .int .i64 d, .int .i64 e, .int .i64 f] 27))
        have Z0 : ((w.alloc (.cells #[.int .i64 a, .int .i64 b, .int .i64 g, .bool false] 25)).alloc (.cells #[.int .i64 c, .int .i64 d, .int .i64 e, .int .i64 f] 27)).heap.size = w.heap.size + 2 := by simp
        have HZ0 := Lib.hid Z0
        clear Z0
        go_enter Try.func27, Try.ntmps27
        go_wp2_with fail
        refine (implPr_any a b g false true _ Q1.out).mono ?_
        rintro e' w1 ⟨rfl, hb1⟩
        have z1 : w.heap.size + 2 ≤ w1.heap.size := by have h_ := hb1.size; rw [HZ0.out] at h_; exact h_
        have HB1 := Lib.hid (HB0.out.trans (hb1.mono (by rw [HZ0.out]; omega)))
        have B1_0 := Lib.hid (B0_0.out.below hb1 (by rw [HZ0.out]; omega))
        have c1_0_0 := B1_0.out.cell 0 (v := .int .i64 a) rfl
        have c1_0_1 := B1_0.out.cell 1 (v := .int .i64 b) rfl
        have c1_0_2 := B1_0.out.cell 2 (v := .int .i64 g) rfl
        have c1_0_3 := B1_0.out.cell 3 (v := .bool false) rfl
        have B1_1 := Lib.hid (B0_1.out.below hb1 (by rw [HZ0.out]; omega))
        have c1_1_0 := B1_1.out.cell 0 (v := .int .i64 c) rfl
        have c1_1_1 := B1_1.out.cell 1 (v := .int .i64 d) rfl
        have c1_1_2 := B1_1.out.cell 2 (v := .int .i64 e) rfl
        have c1_1_3 := B1_1.out.cell 3 (v := .int .i64 f) rfl
        clear hb1
        go_wp2_with fail
        refine (implTm_any c d e f true _ Q2.out).mono ?_
        rintro e' w2 ⟨rfl, hb2⟩
        have z2 : w.heap.size + 2 ≤ w2.heap.size := Nat.le_trans z1 hb2.size
        have HB2 := Lib.hid (HB1.out.trans (hb2.mono (by omega)))
        clear c1_0_0 c1_0_1 c1_0_2 c1_0_3 c1_1_0 c1_1_1 c1_1_2 c1_1_3
        have B2_0 := Lib.hid (B1_0.out.below hb2 (by omega))
        have c2_0_0 := B2_0.out.cell 0 (v := .int .i64 a) rfl
        have c2_0_1 := B2_0.out.cell 1 (v := .int .i64 b) rfl
        have c2_0_2 := B2_0.out.cell 2 (v := .int .i64 g) rfl
        have c2_0_3 := B2_0.out.cell 3 (v := .bool false) rfl
        have B2_1 := Lib.hid (B1_1.out.below hb2 (by omega))
        have c2_1_0 := B2_1.out.cell 0 (v := .int .i64 c) rfl
        have c2_1_1 := B2_1.out.cell 1 (v := .int .i64 d) rfl
        have c2_1_2 := B2_1.out.cell 2 (v := .int .i64 e) rfl
        have c2_1_3 := B2_1.out.cell 3 (v := .int .i64 f) rfl
        clear hb2
        go_wp2_with fail
        refine wp_loop_rounds 3 ?_
        rw [rounds_succ]
        go_wp2_with fail
        refine (follU_any a b g c d e f false _).mono ?_
        rintro e' w3 ⟨rfl, hb3⟩
        have z3 : w.heap.size + 2 ≤ w3.heap.size := Nat.le_trans z2 hb3.size
        have HB3 := Lib.hid (HB2.out.trans (hb3.mono (by omega)))
        clear c2_0_0 c2_0_1 c2_0_2 c2_0_3 c2_1_0 c2_1_1 c2_1_2 c2_1_3
        have B3_0 := Lib.hid (B2_0.out.below hb3 (by omega))
        have B3_1 := Lib.hid (B2_1.out.below hb3 (by omega))
        clear hb3
        go_wp2_with fail
        rw [rounds_succ]
        go_wp2_with fail
        refine (follT_any a b g c d e f false _).mono ?_
        rintro e' w4 ⟨rfl, hb4⟩
        have z4 : w.heap.size + 2 ≤ w4.heap.size := Nat.le_trans z3 hb4.size
        have HB4 := Lib.hid (HB3.out.trans (hb4.mono (by omega)))
        have B4_0 := Lib.hid (B3_0.out.below hb4 (by omega))
        have B4_1 := Lib.hid (B3_1.out.below hb4 (by omega))
        clear hb4
        go_wp2_with fail
        refine (HC2 _).mono ?_
        rintro e' w5 ⟨rfl, hb5⟩
        have z5 : w.heap.size + 2 ≤ w5.heap.size := Nat.le_trans z4 hb5.size
        have HB5 := Lib.hid (HB4.out.trans (hb5.mono (by omega)))
        have B5_0 := Lib.hid (B4_0.out.below hb5 (by omega))
        have B5_1 := Lib.hid (B4_1.out.below hb5 (by omega))
        clear hb5
        go_wp2_with fail
        rw [rounds_succ]
        go_wp2_with fail
        go_ret3
        first
          | exact ⟨ret_z (by first | rfl | exact decide_eq_true (by omega) | exact decide_eq_false (by omega)), HB5.out⟩
          | exact ⟨ret_z (by first | rfl | exact decide_eq_true (by omega) | exact decide_eq_false (by omega)), HB5.out.alloc (by omega) _⟩
      · have Q1 := Lib.hid hp
        have Q2 := Lib.hid ht
        have j0 := ix0 (GV a b g false c d e f) (GV a b g false c d e f)
        have j1 := ix1 (GV a b g false c d e f) (GV a b g false c d e f)
        have q1_ := asUT (GV a b g false c d e f)
        have q2_ := asTT (GV a b g false c d e f)
        have HC1 := fun (W : World) => pagesU_any a b g c d e f U false W hp ht hU
        have HC2 := fun (W : World) => pagesT_any a b g c d e f x false W hp ht hV
        clear hp ht hU hV
        have p1 : 0 < x := by omega
        have n1 : ¬ x = 0 := by omega
        have n1' : (x == 0) = false := by simpa using n1
        have B0_0 := Lib.hid ((Blk.new (w := w) (g := w.heap.size) #[.int .i64 a, .int .i64 b, .int .i64 g, .bool false] 25 (by simp)).alloc (.cells #[.int .i64 c, .int .i64 d, .int .i64 e, .int .i64 f] 27))
        have B0_1 := Lib.hid (Blk.new (w := (w.alloc (.cells #[.int .i64 a, .int .i64 b, .int .i64 g, .bool false] 25))) (g := w.heap.size + 1) #[.int .i64 c, .int .i64 d, .int .i64 e, .int .i64 f] 27 (by simp))
        have HB0 := Lib.hid ((below_new w (.cells #[.int .i64 a, .int .i64 b, .int .i64 g, .bool false] 25)).alloc (by simp <;> omega) (.cells #[.int .i64 c, .int .i64 d, .int .i64 e, .int .i64 f] 27))
        have Z0 : ((w.alloc (.cells #[.int .i64 a, .int .i64 b, .int .i64 g, .bool false] 25)).alloc (.cells #[.int .i64 c, .int .i64 d, .int .i64 e, .int .i64 f] 27)).heap.size = w.heap.size + 2 := by simp
        have HZ0 := Lib.hid Z0
        clear Z0
        go_enter Try.func27, Try.ntmps27
        go_wp2_with fail
        refine (implPr_any a b g false true _ Q1.out).mono ?_
        rintro e' w1 ⟨rfl, hb1⟩
        have z1 : w.heap.size + 2 ≤ w1.heap.size := by have h_ := hb1.size; rw [HZ0.out] at h_; exact h_
        have HB1 := Lib.hid (HB0.out.trans (hb1.mono (by rw [HZ0.out]; omega)))
        have B1_0 := Lib.hid (B0_0.out.below hb1 (by rw [HZ0.out]; omega))
        have c1_0_0 := B1_0.out.cell 0 (v := .int .i64 a) rfl
        have c1_0_1 := B1_0.out.cell 1 (v := .int .i64 b) rfl
        have c1_0_2 := B1_0.out.cell 2 (v := .int .i64 g) rfl
        have c1_0_3 := B1_0.out.cell 3 (v := .bool false) rfl
        have B1_1 := Lib.hid (B0_1.out.below hb1 (by rw [HZ0.out]; omega))
        have c1_1_0 := B1_1.out.cell 0 (v := .int .i64 c) rfl
        have c1_1_1 := B1_1.out.cell 1 (v := .int .i64 d) rfl
        have c1_1_2 := B1_1.out.cell 2 (v := .int .i64 e) rfl
        have c1_1_3 := B1_1.out.cell 3 (v := .int .i64 f) rfl
        clear hb1
        go_wp2_with fail
        refine (implTm_any c d e f true _ Q2.out).mono ?_
        rintro e' w2 ⟨rfl, hb2⟩
        have z2 : w.heap.size + 2 ≤ w2.heap.size := Nat.le_trans z1 hb2.size
        have HB2 := Lib.hid (HB1.out.trans (hb2.mono (by omega)))
        clear c1_0_0 c1_0_1 c1_0_2 c1_0_3 c1_1_0 c1_1_1 c1_1_2 c1_1_3
        have B2_0 := Lib.hid (B1_0.out.below hb2 (by omega))
        have c2_0_0 := B2_0.out.cell 0 (v := .int .i64 a) rfl
        have c2_0_1 := B2_0.out.cell 1 (v := .int .i64 b) rfl
        have c2_0_2 := B2_0.out.cell 2 (v := .int .i64 g) rfl
        have c2_0_3 := B2_0.out.cell 3 (v := .bool false) rfl
        have B2_1 := Lib.hid (B1_1.out.below hb2 (by omega))
        have c2_1_0 := B2_1.out.cell 0 (v := .int .i64 c) rfl
        have c2_1_1 := B2_1.out.cell 1 (v := .int .i64 d) rfl
        have c2_1_2 := B2_1.out.cell 2 (v := .int .i64 e) rfl
        have c2_1_3 := B2_1.out.cell 3 (v := .int .i64 f) rfl
        clear hb2
        go_wp2_with fail
        refine wp_loop_rounds 3 ?_
        rw [rounds_succ]
        go_wp2_with fail
        refine (follU_any a b g c d e f false _).mono ?_
        rintro e' w3 ⟨rfl, hb3⟩
        have z3 : w.heap.size + 2 ≤ w3.heap.size := Nat.le_trans z2 hb3.size
        have HB3 := Lib.hid (HB2.out.trans (hb3.mono (by omega)))
        clear c2_0_0 c2_0_1 c2_0_2 c2_0_3 c2_1_0 c2_1_1 c2_1_2 c2_1_3
        have B3_0 := Lib.hid (B2_0.out.below hb3 (by omega))
        have B3_1 := Lib.hid (B2_1.out.below hb3 (by omega))
        clear hb3
        go_wp2_with fail
        rw [rounds_succ]
        go_wp2_with fail
        refine (follT_any a b g c d e f false _).mono ?_
        rintro e' w4 ⟨rfl, hb4⟩
        have z4 : w.heap.size + 2 ≤ w4.heap.size := Nat.le_trans z3 hb4.size
        have HB4 := Lib.hid (HB3.out.trans (hb4.mono (by omega)))
        have B4_0 := Lib.hid (B3_0.out.below hb4 (by omega))
        have B4_1 := Lib.hid (B3_1.out.below hb4 (by omega))
        clear hb4
        go_wp2_with fail
        refine (HC2 _).mono ?_
        rintro e' w5 ⟨rfl, hb5⟩
        have z5 : w.heap.size + 2 ≤ w5.heap.size := Nat.le_trans z4 hb5.size
        have HB5 := Lib.hid (HB4.out.trans (hb5.mono (by omega)))
        have B5_0 := Lib.hid (B4_0.out.below hb5 (by omega))
        have B5_1 := Lib.hid (B4_1.out.below hb5 (by omega))
        clear hb5
        go_wp2_with fail
        rw [rounds_succ]
        go_wp2_with fail
        go_ret3
        first
          | exact ⟨ret_z (by first | rfl | exact decide_eq_true (by omega) | exact decide_eq_false (by omega)), HB5.out⟩
          | exact ⟨ret_z (by first | rfl | exact decide_eq_true (by omega) | exact decide_eq_false (by omega)), HB5.out.alloc (by omega) _⟩
end Go.Proofs.Ythepfejoneeaeaa
