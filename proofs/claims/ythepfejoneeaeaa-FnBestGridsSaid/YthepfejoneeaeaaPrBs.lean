/- Contract of the model's BestGrid. -/
import Derived.Test.YthepfejoneeaeaaPrCo
import Derived.Test.YthepfejoneeaeaaPrMa2
namespace Go.Proofs.Ythepfejoneeaeaa
open Go.RowKit

theorem ret_z {B B' : Bool} {x k : Int} (h : B = B') : Ending.returned (.tuple #[.bool B, .int .i64 x, .int .i64 k]) = .returned (.tuple #[.bool B', .int .i64 x, .int .i64 k]) := by rw [h]

set_option maxRecDepth 100000 in
set_option maxHeartbeats 4000000 in
theorem specBg_any (a b g c d e f x k : Int) (r o z : Bool) (w : World) (h : Pr.bgP a b g r c d e f o z x k) :
    Calls Try.prog 28 #[PV a b g r, TV c d e f, .bool o] w fun e' w' => e' = .returned (.tuple #[.bool z, .int .i64 x, .int .i64 k]) ∧ Below w.heap.size w w' := by
  have h_ := Pr.bg_ways h
  clear h
  rcases h_ with ⟨hb, rfl, rfl, rfl⟩ | ⟨U, V, ⟨hp, ht⟩, ⟨hU, u0, u1⟩, ⟨hV, v0, v1⟩, h⟩
  · rcases Pr.both_no hb with h1 | ⟨h1, h2⟩
    · have Q1 := Lib.hid h1
      clear hb h1
      have B0_0 := Lib.hid ((Blk.new (w := w) (g := w.heap.size) #[.int .i64 a, .int .i64 b, .int .i64 g, .bool r] 25 (by simp)).alloc (.cells #[.int .i64 c, .int .i64 d, .int .i64 e, .int .i64 f] 27))
      have B0_1 := Lib.hid (Blk.new (w := (w.alloc (.cells #[.int .i64 a, .int .i64 b, .int .i64 g, .bool r] 25))) (g := w.heap.size + 1) #[.int .i64 c, .int .i64 d, .int .i64 e, .int .i64 f] 27 (by simp))
      have HB0 := Lib.hid ((below_new w (.cells #[.int .i64 a, .int .i64 b, .int .i64 g, .bool r] 25)).alloc (by simp <;> omega) (.cells #[.int .i64 c, .int .i64 d, .int .i64 e, .int .i64 f] 27))
      have Z0 : ((w.alloc (.cells #[.int .i64 a, .int .i64 b, .int .i64 g, .bool r] 25)).alloc (.cells #[.int .i64 c, .int .i64 d, .int .i64 e, .int .i64 f] 27)).heap.size = w.heap.size + 2 := by simp
      have HZ0 := Lib.hid Z0
      clear Z0
      go_enter Try.func28, Try.ntmps28
      go_wp2_with fail
      refine (specPr_any a b g r false _ Q1.out).mono ?_
      rintro e' w1 ⟨rfl, hb1⟩
      have z1 : w.heap.size + 2 ≤ w1.heap.size := by have h_ := hb1.size; rw [HZ0.out] at h_; exact h_
      have HB1 := Lib.hid (HB0.out.trans (hb1.mono (by rw [HZ0.out]; omega)))
      have B1_0 := Lib.hid (B0_0.out.below hb1 (by rw [HZ0.out]; omega))
      have c1_0_0 := B1_0.out.cell 0 (v := .int .i64 a) rfl
      have c1_0_1 := B1_0.out.cell 1 (v := .int .i64 b) rfl
      have c1_0_2 := B1_0.out.cell 2 (v := .int .i64 g) rfl
      have c1_0_3 := B1_0.out.cell 3 (v := .bool r) rfl
      have B1_1 := Lib.hid (B0_1.out.below hb1 (by rw [HZ0.out]; omega))
      have c1_1_0 := B1_1.out.cell 0 (v := .int .i64 c) rfl
      have c1_1_1 := B1_1.out.cell 1 (v := .int .i64 d) rfl
      have c1_1_2 := B1_1.out.cell 2 (v := .int .i64 e) rfl
      have c1_1_3 := B1_1.out.cell 3 (v := .int .i64 f) rfl
      clear hb1
      go_wp2_with fail
      go_ret3
      exact ⟨rfl, HB1.out⟩
    · have Q1 := Lib.hid h1
      have Q2 := Lib.hid h2
      clear hb h1 h2
      have B0_0 := Lib.hid ((Blk.new (w := w) (g := w.heap.size) #[.int .i64 a, .int .i64 b, .int .i64 g, .bool r] 25 (by simp)).alloc (.cells #[.int .i64 c, .int .i64 d, .int .i64 e, .int .i64 f] 27))
      have B0_1 := Lib.hid (Blk.new (w := (w.alloc (.cells #[.int .i64 a, .int .i64 b, .int .i64 g, .bool r] 25))) (g := w.heap.size + 1) #[.int .i64 c, .int .i64 d, .int .i64 e, .int .i64 f] 27 (by simp))
      have HB0 := Lib.hid ((below_new w (.cells #[.int .i64 a, .int .i64 b, .int .i64 g, .bool r] 25)).alloc (by simp <;> omega) (.cells #[.int .i64 c, .int .i64 d, .int .i64 e, .int .i64 f] 27))
      have Z0 : ((w.alloc (.cells #[.int .i64 a, .int .i64 b, .int .i64 g, .bool r] 25)).alloc (.cells #[.int .i64 c, .int .i64 d, .int .i64 e, .int .i64 f] 27)).heap.size = w.heap.size + 2 := by simp
      have HZ0 := Lib.hid Z0
      clear Z0
      go_enter Try.func28, Try.ntmps28
      go_wp2_with fail
      refine (specPr_any a b g r true _ Q1.out).mono ?_
      rintro e' w1 ⟨rfl, hb1⟩
      have z1 : w.heap.size + 2 ≤ w1.heap.size := by have h_ := hb1.size; rw [HZ0.out] at h_; exact h_
      have HB1 := Lib.hid (HB0.out.trans (hb1.mono (by rw [HZ0.out]; omega)))
      have B1_0 := Lib.hid (B0_0.out.below hb1 (by rw [HZ0.out]; omega))
      have c1_0_0 := B1_0.out.cell 0 (v := .int .i64 a) rfl
      have c1_0_1 := B1_0.out.cell 1 (v := .int .i64 b) rfl
      have c1_0_2 := B1_0.out.cell 2 (v := .int .i64 g) rfl
      have c1_0_3 := B1_0.out.cell 3 (v := .bool r) rfl
      have B1_1 := Lib.hid (B0_1.out.below hb1 (by rw [HZ0.out]; omega))
      have c1_1_0 := B1_1.out.cell 0 (v := .int .i64 c) rfl
      have c1_1_1 := B1_1.out.cell 1 (v := .int .i64 d) rfl
      have c1_1_2 := B1_1.out.cell 2 (v := .int .i64 e) rfl
      have c1_1_3 := B1_1.out.cell 3 (v := .int .i64 f) rfl
      clear hb1
      go_wp2_with fail
      refine (specTm_any c d e f false _ Q2.out).mono ?_
      rintro e' w2 ⟨rfl, hb2⟩
      have z2 : w.heap.size + 2 ≤ w2.heap.size := Nat.le_trans z1 hb2.size
      have HB2 := Lib.hid (HB1.out.trans (hb2.mono (by omega)))
      clear c1_0_0 c1_0_1 c1_0_2 c1_0_3 c1_1_0 c1_1_1 c1_1_2 c1_1_3
      have B2_0 := Lib.hid (B1_0.out.below hb2 (by omega))
      have c2_0_0 := B2_0.out.cell 0 (v := .int .i64 a) rfl
      have c2_0_1 := B2_0.out.cell 1 (v := .int .i64 b) rfl
      have c2_0_2 := B2_0.out.cell 2 (v := .int .i64 g) rfl
      have c2_0_3 := B2_0.out.cell 3 (v := .bool r) rfl
      have B2_1 := Lib.hid (B1_1.out.below hb2 (by omega))
      have c2_1_0 := B2_1.out.cell 0 (v := .int .i64 c) rfl
      have c2_1_1 := B2_1.out.cell 1 (v := .int .i64 d) rfl
      have c2_1_2 := B2_1.out.cell 2 (v := .int .i64 e) rfl
      have c2_1_3 := B2_1.out.cell 3 (v := .int .i64 f) rfl
      clear hb2
      go_wp2_with fail
      go_ret3
      exact ⟨rfl, HB2.out⟩
  · rcases h with ⟨rfl, h⟩ | ⟨rfl, rfl, h⟩ | ⟨rfl, rfl, h⟩
    · rcases h with ⟨rfl, rfl, rfl, rfl, rfl⟩ | ⟨q, rfl, rfl, rfl⟩ | ⟨q, rfl, rfl, rfl, rfl⟩ | ⟨q, rfl, rfl, rfl⟩
      · obtain ⟨X, hX⟩ : ∃ X, Pr.ct a c e f = X := ⟨_, rfl⟩
        obtain ⟨Y, hY⟩ : ∃ Y, Pr.ct (b - g) d e f = Y := ⟨_, rfl⟩
        obtain ⟨X2, hX2⟩ : ∃ X, Pr.ct a d e f = X := ⟨_, rfl⟩
        obtain ⟨Y2, hY2⟩ : ∃ Y, Pr.ct (b - g) c e f = Y := ⟨_, rfl⟩
        unfold Pr.up at hU hV
        rw [hX, hY] at hU
        rw [hX2, hY2] at hV
        have m1 : IntKind.i64.wrap (X * Y) = 0 := by rw [hU]; exact IntWalk.i64_in _ (by omega)
        have m2 : IntKind.i64.wrap (X2 * Y2) = 0 := by rw [hV]; exact IntWalk.i64_in _ (by omega)
        have HX := Lib.hid hX
        have HY := Lib.hid hY
        have HX2 := Lib.hid hX2
        have HY2 := Lib.hid hY2
        have Q1 := Lib.hid hp
        have Q2 := Lib.hid ht
        have HC1 := fun (W : World) => specTurn_any c d e f W
        have HC2 := fun (W : World) => specGrid_any a b g d c e f X2 Y2 r W hp (by rw [Pr.tm_turn]; exact ht) hX2 hY2
        clear hX hY hX2 hY2 hp ht hU hV
        have B0_0 := Lib.hid ((Blk.new (w := w) (g := w.heap.size) #[.int .i64 a, .int .i64 b, .int .i64 g, .bool r] 25 (by simp)).alloc (.cells #[.int .i64 c, .int .i64 d, .int .i64 e, .int .i64 f] 27))
        have B0_1 := Lib.hid (Blk.new (w := (w.alloc (.cells #[.int .i64 a, .int .i64 b, .int .i64 g, .bool r] 25))) (g := w.heap.size + 1) #[.int .i64 c, .int .i64 d, .int .i64 e, .int .i64 f] 27 (by simp))
        have HB0 := Lib.hid ((below_new w (.cells #[.int .i64 a, .int .i64 b, .int .i64 g, .bool r] 25)).alloc (by simp <;> omega) (.cells #[.int .i64 c, .int .i64 d, .int .i64 e, .int .i64 f] 27))
        have Z0 : ((w.alloc (.cells #[.int .i64 a, .int .i64 b, .int .i64 g, .bool r] 25)).alloc (.cells #[.int .i64 c, .int .i64 d, .int .i64 e, .int .i64 f] 27)).heap.size = w.heap.size + 2 := by simp
        have HZ0 := Lib.hid Z0
        clear Z0
        go_enter Try.func28, Try.ntmps28
        go_wp2_with fail
        refine (specPr_any a b g r true _ Q1.out).mono ?_
        rintro e' w1 ⟨rfl, hb1⟩
        have z1 : w.heap.size + 2 ≤ w1.heap.size := by have h_ := hb1.size; rw [HZ0.out] at h_; exact h_
        have HB1 := Lib.hid (HB0.out.trans (hb1.mono (by rw [HZ0.out]; omega)))
        have B1_0 := Lib.hid (B0_0.out.below hb1 (by rw [HZ0.out]; omega))
        have c1_0_0 := B1_0.out.cell 0 (v := .int .i64 a) rfl
        have c1_0_1 := B1_0.out.cell 1 (v := .int .i64 b) rfl
        have c1_0_2 := B1_0.out.cell 2 (v := .int .i64 g) rfl
        have c1_0_3 := B1_0.out.cell 3 (v := .bool r) rfl
        have B1_1 := Lib.hid (B0_1.out.below hb1 (by rw [HZ0.out]; omega))
        have c1_1_0 := B1_1.out.cell 0 (v := .int .i64 c) rfl
        have c1_1_1 := B1_1.out.cell 1 (v := .int .i64 d) rfl
        have c1_1_2 := B1_1.out.cell 2 (v := .int .i64 e) rfl
        have c1_1_3 := B1_1.out.cell 3 (v := .int .i64 f) rfl
        clear hb1
        go_wp2_with fail
        refine (specTm_any c d e f true _ Q2.out).mono ?_
        rintro e' w2 ⟨rfl, hb2⟩
        have z2 : w.heap.size + 2 ≤ w2.heap.size := Nat.le_trans z1 hb2.size
        have HB2 := Lib.hid (HB1.out.trans (hb2.mono (by omega)))
        clear c1_0_0 c1_0_1 c1_0_2 c1_0_3 c1_1_0 c1_1_1 c1_1_2 c1_1_3
        have B2_0 := Lib.hid (B1_0.out.below hb2 (by omega))
        have c2_0_0 := B2_0.out.cell 0 (v := .int .i64 a) rfl
        have c2_0_1 := B2_0.out.cell 1 (v := .int .i64 b) rfl
        have c2_0_2 := B2_0.out.cell 2 (v := .int .i64 g) rfl
        have c2_0_3 := B2_0.out.cell 3 (v := .bool r) rfl
        have B2_1 := Lib.hid (B1_1.out.below hb2 (by omega))
        have c2_1_0 := B2_1.out.cell 0 (v := .int .i64 c) rfl
        have c2_1_1 := B2_1.out.cell 1 (v := .int .i64 d) rfl
        have c2_1_2 := B2_1.out.cell 2 (v := .int .i64 e) rfl
        have c2_1_3 := B2_1.out.cell 3 (v := .int .i64 f) rfl
        clear hb2
        go_wp2_with fail
        refine (specGrid_any a b g c d e f X Y r _ Q1.out Q2.out HX.out HY.out).mono ?_
        rintro e' w3 ⟨rfl, hb3⟩
        have z3 : w.heap.size + 2 ≤ w3.heap.size := Nat.le_trans z2 hb3.size
        have HB3 := Lib.hid (HB2.out.trans (hb3.mono (by omega)))
        clear c2_0_0 c2_0_1 c2_0_2 c2_0_3 c2_1_0 c2_1_1 c2_1_2 c2_1_3
        have B3_0 := Lib.hid (B2_0.out.below hb3 (by omega))
        have c3_0_0 := B3_0.out.cell 0 (v := .int .i64 a) rfl
        have c3_0_1 := B3_0.out.cell 1 (v := .int .i64 b) rfl
        have c3_0_2 := B3_0.out.cell 2 (v := .int .i64 g) rfl
        have c3_0_3 := B3_0.out.cell 3 (v := .bool r) rfl
        have B3_1 := Lib.hid (B2_1.out.below hb3 (by omega))
        have c3_1_0 := B3_1.out.cell 0 (v := .int .i64 c) rfl
        have c3_1_1 := B3_1.out.cell 1 (v := .int .i64 d) rfl
        have c3_1_2 := B3_1.out.cell 2 (v := .int .i64 e) rfl
        have c3_1_3 := B3_1.out.cell 3 (v := .int .i64 f) rfl
        clear hb3
        go_wp2_with fail
        go_region_held3 (fun V => V.cell? ⟨w.heap.size, 0, none⟩ = some (.int .i64 a) ∧ V.cell? ⟨w.heap.size, 1, none⟩ = some (.int .i64 b) ∧ V.cell? ⟨w.heap.size, 2, none⟩ = some (.int .i64 g) ∧ V.cell? ⟨w.heap.size, 3, none⟩ = some (.bool r) ∧ V.cell? ⟨w.heap.size + 1, 0, none⟩ = some (.int .i64 c) ∧ V.cell? ⟨w.heap.size + 1, 1, none⟩ = some (.int .i64 d) ∧ V.cell? ⟨w.heap.size + 1, 2, none⟩ = some (.int .i64 e) ∧ V.cell? ⟨w.heap.size + 1, 3, none⟩ = some (.int .i64 f))
          (first | go_keep | (refine ⟨?_, ?_, ?_, ?_, ?_, ?_, ?_, ?_⟩ <;> (first | go_keep | (rw [hbk.cell (by first | omega | (simp; omega) | simp)]; first | assumption | go_keep))))
          (first
            | (go_at_call 42; with_reducible refine (HC2 _).mono ?_; rintro e' w5 ⟨rfl, hbk⟩; have hbk5 := hbk)
            | (go_at_call 50; with_reducible refine (HC1 _).mono ?_; rintro e' w4 ⟨rfl, hbk⟩; have hbk4 := hbk; have zk : w.heap.size + 2 ≤ w4.heap.size := Nat.le_trans z3 (sz_drew hbk)))
        have z5 : w4.heap.size ≤ w5.heap.size := hbk5.size
        have HB5 := Lib.hid ((below_drewN' HB3.out 1).trans ((hbk4.trans (hbk5.mono hbk4.size)).mono (show w.heap.size ≤ w3.heap.size by omega)))
        have hb35 : Below w3.heap.size w3 w5 := (below_drewN' (Below.refl _ w3) 1).trans (hbk4.trans (hbk5.mono hbk4.size))
        have B5_0 := B3_0.out.below hb35 (by omega)
        clear c3_0_0 c3_0_1 c3_0_2 c3_0_3 c3_1_0 c3_1_1 c3_1_2 c3_1_3
        have c5_3 := B5_0.cell 3 (v := .bool r) rfl
        clear hb35 hbk4 hbk5 hbk
        go_wp2_with fail
        all_goals
          go_ret3
          exact ⟨ret_z (by first | rfl | exact decide_eq_true (by omega) | exact decide_eq_false (by omega)), HB5.out⟩
      · obtain ⟨X, hX⟩ : ∃ X, Pr.ct a c e f = X := ⟨_, rfl⟩
        obtain ⟨Y, hY⟩ : ∃ Y, Pr.ct (b - g) d e f = Y := ⟨_, rfl⟩
        obtain ⟨X2, hX2⟩ : ∃ X, Pr.ct a d e f = X := ⟨_, rfl⟩
        obtain ⟨Y2, hY2⟩ : ∃ Y, Pr.ct (b - g) c e f = Y := ⟨_, rfl⟩
        unfold Pr.up at hU hV
        rw [hX, hY] at hU
        rw [hX2, hY2] at hV
        have m1 : IntKind.i64.wrap (X * Y) = U := by rw [hU]; exact IntWalk.i64_in _ (by omega)
        have m2 : IntKind.i64.wrap (X2 * Y2) = x := by rw [hV]; exact IntWalk.i64_in _ (by omega)
        have HX := Lib.hid hX
        have HY := Lib.hid hY
        have HX2 := Lib.hid hX2
        have HY2 := Lib.hid hY2
        have Q1 := Lib.hid hp
        have Q2 := Lib.hid ht
        have HC1 := fun (W : World) => specTurn_any c d e f W
        have HC2 := fun (W : World) => specGrid_any a b g d c e f X2 Y2 r W hp (by rw [Pr.tm_turn]; exact ht) hX2 hY2
        clear hX hY hX2 hY2 hp ht hU hV
        have n1 : ¬ x = 0 := by omega
        have n1' : (x == 0) = false := by simpa using n1
        have l1 : U ≤ x := by omega
        have l2 : ¬ x ≤ U := by omega
        have hmax : max U x = x := by omega
        have B0_0 := Lib.hid ((Blk.new (w := w) (g := w.heap.size) #[.int .i64 a, .int .i64 b, .int .i64 g, .bool r] 25 (by simp)).alloc (.cells #[.int .i64 c, .int .i64 d, .int .i64 e, .int .i64 f] 27))
        have B0_1 := Lib.hid (Blk.new (w := (w.alloc (.cells #[.int .i64 a, .int .i64 b, .int .i64 g, .bool r] 25))) (g := w.heap.size + 1) #[.int .i64 c, .int .i64 d, .int .i64 e, .int .i64 f] 27 (by simp))
        have HB0 := Lib.hid ((below_new w (.cells #[.int .i64 a, .int .i64 b, .int .i64 g, .bool r] 25)).alloc (by simp <;> omega) (.cells #[.int .i64 c, .int .i64 d, .int .i64 e, .int .i64 f] 27))
        have Z0 : ((w.alloc (.cells #[.int .i64 a, .int .i64 b, .int .i64 g, .bool r] 25)).alloc (.cells #[.int .i64 c, .int .i64 d, .int .i64 e, .int .i64 f] 27)).heap.size = w.heap.size + 2 := by simp
        have HZ0 := Lib.hid Z0
        clear Z0
        go_enter Try.func28, Try.ntmps28
        go_wp2_with fail
        refine (specPr_any a b g r true _ Q1.out).mono ?_
        rintro e' w1 ⟨rfl, hb1⟩
        have z1 : w.heap.size + 2 ≤ w1.heap.size := by have h_ := hb1.size; rw [HZ0.out] at h_; exact h_
        have HB1 := Lib.hid (HB0.out.trans (hb1.mono (by rw [HZ0.out]; omega)))
        have B1_0 := Lib.hid (B0_0.out.below hb1 (by rw [HZ0.out]; omega))
        have c1_0_0 := B1_0.out.cell 0 (v := .int .i64 a) rfl
        have c1_0_1 := B1_0.out.cell 1 (v := .int .i64 b) rfl
        have c1_0_2 := B1_0.out.cell 2 (v := .int .i64 g) rfl
        have c1_0_3 := B1_0.out.cell 3 (v := .bool r) rfl
        have B1_1 := Lib.hid (B0_1.out.below hb1 (by rw [HZ0.out]; omega))
        have c1_1_0 := B1_1.out.cell 0 (v := .int .i64 c) rfl
        have c1_1_1 := B1_1.out.cell 1 (v := .int .i64 d) rfl
        have c1_1_2 := B1_1.out.cell 2 (v := .int .i64 e) rfl
        have c1_1_3 := B1_1.out.cell 3 (v := .int .i64 f) rfl
        clear hb1
        go_wp2_with fail
        refine (specTm_any c d e f true _ Q2.out).mono ?_
        rintro e' w2 ⟨rfl, hb2⟩
        have z2 : w.heap.size + 2 ≤ w2.heap.size := Nat.le_trans z1 hb2.size
        have HB2 := Lib.hid (HB1.out.trans (hb2.mono (by omega)))
        clear c1_0_0 c1_0_1 c1_0_2 c1_0_3 c1_1_0 c1_1_1 c1_1_2 c1_1_3
        have B2_0 := Lib.hid (B1_0.out.below hb2 (by omega))
        have c2_0_0 := B2_0.out.cell 0 (v := .int .i64 a) rfl
        have c2_0_1 := B2_0.out.cell 1 (v := .int .i64 b) rfl
        have c2_0_2 := B2_0.out.cell 2 (v := .int .i64 g) rfl
        have c2_0_3 := B2_0.out.cell 3 (v := .bool r) rfl
        have B2_1 := Lib.hid (B1_1.out.below hb2 (by omega))
        have c2_1_0 := B2_1.out.cell 0 (v := .int .i64 c) rfl
        have c2_1_1 := B2_1.out.cell 1 (v := .int .i64 d) rfl
        have c2_1_2 := B2_1.out.cell 2 (v := .int .i64 e) rfl
        have c2_1_3 := B2_1.out.cell 3 (v := .int .i64 f) rfl
        clear hb2
        go_wp2_with fail
        refine (specGrid_any a b g c d e f X Y r _ Q1.out Q2.out HX.out HY.out).mono ?_
        rintro e' w3 ⟨rfl, hb3⟩
        have z3 : w.heap.size + 2 ≤ w3.heap.size := Nat.le_trans z2 hb3.size
        have HB3 := Lib.hid (HB2.out.trans (hb3.mono (by omega)))
        clear c2_0_0 c2_0_1 c2_0_2 c2_0_3 c2_1_0 c2_1_1 c2_1_2 c2_1_3
        have B3_0 := Lib.hid (B2_0.out.below hb3 (by omega))
        have c3_0_0 := B3_0.out.cell 0 (v := .int .i64 a) rfl
        have c3_0_1 := B3_0.out.cell 1 (v := .int .i64 b) rfl
        have c3_0_2 := B3_0.out.cell 2 (v := .int .i64 g) rfl
        have c3_0_3 := B3_0.out.cell 3 (v := .bool r) rfl
        have B3_1 := Lib.hid (B2_1.out.below hb3 (by omega))
        have c3_1_0 := B3_1.out.cell 0 (v := .int .i64 c) rfl
        have c3_1_1 := B3_1.out.cell 1 (v := .int .i64 d) rfl
        have c3_1_2 := B3_1.out.cell 2 (v := .int .i64 e) rfl
        have c3_1_3 := B3_1.out.cell 3 (v := .int .i64 f) rfl
        clear hb3
        go_wp2_with fail
        go_region_held3 (fun V => V.cell? ⟨w.heap.size, 0, none⟩ = some (.int .i64 a) ∧ V.cell? ⟨w.heap.size, 1, none⟩ = some (.int .i64 b) ∧ V.cell? ⟨w.heap.size, 2, none⟩ = some (.int .i64 g) ∧ V.cell? ⟨w.heap.size, 3, none⟩ = some (.bool r) ∧ V.cell? ⟨w.heap.size + 1, 0, none⟩ = some (.int .i64 c) ∧ V.cell? ⟨w.heap.size + 1, 1, none⟩ = some (.int .i64 d) ∧ V.cell? ⟨w.heap.size + 1, 2, none⟩ = some (.int .i64 e) ∧ V.cell? ⟨w.heap.size + 1, 3, none⟩ = some (.int .i64 f))
          (first | go_keep | (refine ⟨?_, ?_, ?_, ?_, ?_, ?_, ?_, ?_⟩ <;> (first | go_keep | (rw [hbk.cell (by first | omega | (simp; omega) | simp)]; first | assumption | go_keep))))
          (first
            | (go_at_call 42; with_reducible refine (HC2 _).mono ?_; rintro e' w5 ⟨rfl, hbk⟩; have hbk5 := hbk)
            | (go_at_call 50; with_reducible refine (HC1 _).mono ?_; rintro e' w4 ⟨rfl, hbk⟩; have hbk4 := hbk; have zk : w.heap.size + 2 ≤ w4.heap.size := Nat.le_trans z3 (sz_drew hbk)))
        have z5 : w4.heap.size ≤ w5.heap.size := hbk5.size
        have HB5 := Lib.hid ((below_drewN' HB3.out 1).trans ((hbk4.trans (hbk5.mono hbk4.size)).mono (show w.heap.size ≤ w3.heap.size by omega)))
        have hb35 : Below w3.heap.size w3 w5 := (below_drewN' (Below.refl _ w3) 1).trans (hbk4.trans (hbk5.mono hbk4.size))
        have B5_0 := B3_0.out.below hb35 (by omega)
        clear c3_0_0 c3_0_1 c3_0_2 c3_0_3 c3_1_0 c3_1_1 c3_1_2 c3_1_3
        have c5_3 := B5_0.cell 3 (v := .bool r) rfl
        clear hb35 hbk4 hbk5 hbk
        go_wp2_with fail
        all_goals
          go_ret3
          exact ⟨ret_z (by first | rfl | exact decide_eq_true (by omega) | exact decide_eq_false (by omega)), HB5.out⟩
      · obtain ⟨X, hX⟩ : ∃ X, Pr.ct a c e f = X := ⟨_, rfl⟩
        obtain ⟨Y, hY⟩ : ∃ Y, Pr.ct (b - g) d e f = Y := ⟨_, rfl⟩
        obtain ⟨X2, hX2⟩ : ∃ X, Pr.ct a d e f = X := ⟨_, rfl⟩
        obtain ⟨Y2, hY2⟩ : ∃ Y, Pr.ct (b - g) c e f = Y := ⟨_, rfl⟩
        unfold Pr.up at hU hV
        rw [hX, hY] at hU
        rw [hX2, hY2] at hV
        have m1 : IntKind.i64.wrap (X * Y) = x := by rw [hU]; exact IntWalk.i64_in _ (by omega)
        have m2 : IntKind.i64.wrap (X2 * Y2) = x := by rw [hV]; exact IntWalk.i64_in _ (by omega)
        have HX := Lib.hid hX
        have HY := Lib.hid hY
        have HX2 := Lib.hid hX2
        have HY2 := Lib.hid hY2
        have Q1 := Lib.hid hp
        have Q2 := Lib.hid ht
        have HC1 := fun (W : World) => specTurn_any c d e f W
        have HC2 := fun (W : World) => specGrid_any a b g d c e f X2 Y2 r W hp (by rw [Pr.tm_turn]; exact ht) hX2 hY2
        clear hX hY hX2 hY2 hp ht hU hV
        have n1 : ¬ x = 0 := by omega
        have n1' : (x == 0) = false := by simpa using n1
        have hmax : max x x = x := by omega
        have B0_0 := Lib.hid ((Blk.new (w := w) (g := w.heap.size) #[.int .i64 a, .int .i64 b, .int .i64 g, .bool r] 25 (by simp)).alloc (.cells #[.int .i64 c, .int .i64 d, .int .i64 e, .int .i64 f] 27))
        have B0_1 := Lib.hid (Blk.new (w := (w.alloc (.cells #[.int .i64 a, .int .i64 b, .int .i64 g, .bool r] 25))) (g := w.heap.size + 1) #[.int .i64 c, .int .i64 d, .int .i64 e, .int .i64 f] 27 (by simp))
        have HB0 := Lib.hid ((below_new w (.cells #[.int .i64 a, .int .i64 b, .int .i64 g, .bool r] 25)).alloc (by simp <;> omega) (.cells #[.int .i64 c, .int .i64 d, .int .i64 e, .int .i64 f] 27))
        have Z0 : ((w.alloc (.cells #[.int .i64 a, .int .i64 b, .int .i64 g, .bool r] 25)).alloc (.cells #[.int .i64 c, .int .i64 d, .int .i64 e, .int .i64 f] 27)).heap.size = w.heap.size + 2 := by simp
        have HZ0 := Lib.hid Z0
        clear Z0
        go_enter Try.func28, Try.ntmps28
        go_wp2_with fail
        refine (specPr_any a b g r true _ Q1.out).mono ?_
        rintro e' w1 ⟨rfl, hb1⟩
        have z1 : w.heap.size + 2 ≤ w1.heap.size := by have h_ := hb1.size; rw [HZ0.out] at h_; exact h_
        have HB1 := Lib.hid (HB0.out.trans (hb1.mono (by rw [HZ0.out]; omega)))
        have B1_0 := Lib.hid (B0_0.out.below hb1 (by rw [HZ0.out]; omega))
        have c1_0_0 := B1_0.out.cell 0 (v := .int .i64 a) rfl
        have c1_0_1 := B1_0.out.cell 1 (v := .int .i64 b) rfl
        have c1_0_2 := B1_0.out.cell 2 (v := .int .i64 g) rfl
        have c1_0_3 := B1_0.out.cell 3 (v := .bool r) rfl
        have B1_1 := Lib.hid (B0_1.out.below hb1 (by rw [HZ0.out]; omega))
        have c1_1_0 := B1_1.out.cell 0 (v := .int .i64 c) rfl
        have c1_1_1 := B1_1.out.cell 1 (v := .int .i64 d) rfl
        have c1_1_2 := B1_1.out.cell 2 (v := .int .i64 e) rfl
        have c1_1_3 := B1_1.out.cell 3 (v := .int .i64 f) rfl
        clear hb1
        go_wp2_with fail
        refine (specTm_any c d e f true _ Q2.out).mono ?_
        rintro e' w2 ⟨rfl, hb2⟩
        have z2 : w.heap.size + 2 ≤ w2.heap.size := Nat.le_trans z1 hb2.size
        have HB2 := Lib.hid (HB1.out.trans (hb2.mono (by omega)))
        clear c1_0_0 c1_0_1 c1_0_2 c1_0_3 c1_1_0 c1_1_1 c1_1_2 c1_1_3
        have B2_0 := Lib.hid (B1_0.out.below hb2 (by omega))
        have c2_0_0 := B2_0.out.cell 0 (v := .int .i64 a) rfl
        have c2_0_1 := B2_0.out.cell 1 (v := .int .i64 b) rfl
        have c2_0_2 := B2_0.out.cell 2 (v := .int .i64 g) rfl
        have c2_0_3 := B2_0.out.cell 3 (v := .bool r) rfl
        have B2_1 := Lib.hid (B1_1.out.below hb2 (by omega))
        have c2_1_0 := B2_1.out.cell 0 (v := .int .i64 c) rfl
        have c2_1_1 := B2_1.out.cell 1 (v := .int .i64 d) rfl
        have c2_1_2 := B2_1.out.cell 2 (v := .int .i64 e) rfl
        have c2_1_3 := B2_1.out.cell 3 (v := .int .i64 f) rfl
        clear hb2
        go_wp2_with fail
        refine (specGrid_any a b g c d e f X Y r _ Q1.out Q2.out HX.out HY.out).mono ?_
        rintro e' w3 ⟨rfl, hb3⟩
        have z3 : w.heap.size + 2 ≤ w3.heap.size := Nat.le_trans z2 hb3.size
        have HB3 := Lib.hid (HB2.out.trans (hb3.mono (by omega)))
        clear c2_0_0 c2_0_1 c2_0_2 c2_0_3 c2_1_0 c2_1_1 c2_1_2 c2_1_3
        have B3_0 := Lib.hid (B2_0.out.below hb3 (by omega))
        have c3_0_0 := B3_0.out.cell 0 (v := .int .i64 a) rfl
        have c3_0_1 := B3_0.out.cell 1 (v := .int .i64 b) rfl
        have c3_0_2 := B3_0.out.cell 2 (v := .int .i64 g) rfl
        have c3_0_3 := B3_0.out.cell 3 (v := .bool r) rfl
        have B3_1 := Lib.hid (B2_1.out.below hb3 (by omega))
        have c3_1_0 := B3_1.out.cell 0 (v := .int .i64 c) rfl
        have c3_1_1 := B3_1.out.cell 1 (v := .int .i64 d) rfl
        have c3_1_2 := B3_1.out.cell 2 (v := .int .i64 e) rfl
        have c3_1_3 := B3_1.out.cell 3 (v := .int .i64 f) rfl
        clear hb3
        go_wp2_with fail
        go_region_held3 (fun V => V.cell? ⟨w.heap.size, 0, none⟩ = some (.int .i64 a) ∧ V.cell? ⟨w.heap.size, 1, none⟩ = some (.int .i64 b) ∧ V.cell? ⟨w.heap.size, 2, none⟩ = some (.int .i64 g) ∧ V.cell? ⟨w.heap.size, 3, none⟩ = some (.bool r) ∧ V.cell? ⟨w.heap.size + 1, 0, none⟩ = some (.int .i64 c) ∧ V.cell? ⟨w.heap.size + 1, 1, none⟩ = some (.int .i64 d) ∧ V.cell? ⟨w.heap.size + 1, 2, none⟩ = some (.int .i64 e) ∧ V.cell? ⟨w.heap.size + 1, 3, none⟩ = some (.int .i64 f))
          (first | go_keep | (refine ⟨?_, ?_, ?_, ?_, ?_, ?_, ?_, ?_⟩ <;> (first | go_keep | (rw [hbk.cell (by first | omega | (simp; omega) | simp)]; first | assumption | go_keep))))
          (first
            | (go_at_call 42; with_reducible refine (HC2 _).mono ?_; rintro e' w5 ⟨rfl, hbk⟩; have hbk5 := hbk)
            | (go_at_call 50; with_reducible refine (HC1 _).mono ?_; rintro e' w4 ⟨rfl, hbk⟩; have hbk4 := hbk; have zk : w.heap.size + 2 ≤ w4.heap.size := Nat.le_trans z3 (sz_drew hbk)))
        have z5 : w4.heap.size ≤ w5.heap.size := hbk5.size
        have HB5 := Lib.hid ((below_drewN' HB3.out 1).trans ((hbk4.trans (hbk5.mono hbk4.size)).mono (show w.heap.size ≤ w3.heap.size by omega)))
        have hb35 : Below w3.heap.size w3 w5 := (below_drewN' (Below.refl _ w3) 1).trans (hbk4.trans (hbk5.mono hbk4.size))
        have B5_0 := B3_0.out.below hb35 (by omega)
        clear c3_0_0 c3_0_1 c3_0_2 c3_0_3 c3_1_0 c3_1_1 c3_1_2 c3_1_3
        have c5_3 := B5_0.cell 3 (v := .bool r) rfl
        clear hb35 hbk4 hbk5 hbk
        go_wp2_with fail
        all_goals
          go_ret3
          exact ⟨ret_z (by first | rfl | exact decide_eq_true (by omega) | exact decide_eq_false (by omega)), HB5.out⟩
      · obtain ⟨X, hX⟩ : ∃ X, Pr.ct a c e f = X := ⟨_, rfl⟩
        obtain ⟨Y, hY⟩ : ∃ Y, Pr.ct (b - g) d e f = Y := ⟨_, rfl⟩
        obtain ⟨X2, hX2⟩ : ∃ X, Pr.ct a d e f = X := ⟨_, rfl⟩
        obtain ⟨Y2, hY2⟩ : ∃ Y, Pr.ct (b - g) c e f = Y := ⟨_, rfl⟩
        unfold Pr.up at hU hV
        rw [hX, hY] at hU
        rw [hX2, hY2] at hV
        have m1 : IntKind.i64.wrap (X * Y) = x := by rw [hU]; exact IntWalk.i64_in _ (by omega)
        have m2 : IntKind.i64.wrap (X2 * Y2) = V := by rw [hV]; exact IntWalk.i64_in _ (by omega)
        have HX := Lib.hid hX
        have HY := Lib.hid hY
        have HX2 := Lib.hid hX2
        have HY2 := Lib.hid hY2
        have Q1 := Lib.hid hp
        have Q2 := Lib.hid ht
        have HC1 := fun (W : World) => specTurn_any c d e f W
        have HC2 := fun (W : World) => specGrid_any a b g d c e f X2 Y2 r W hp (by rw [Pr.tm_turn]; exact ht) hX2 hY2
        clear hX hY hX2 hY2 hp ht hU hV
        have n1 : ¬ x = 0 := by omega
        have n1' : (x == 0) = false := by simpa using n1
        have l1 : V ≤ x := by omega
        have l2 : ¬ x ≤ V := by omega
        have l3 : ¬ x < V := by omega
        have hmax : max x V = x := by omega
        have B0_0 := Lib.hid ((Blk.new (w := w) (g := w.heap.size) #[.int .i64 a, .int .i64 b, .int .i64 g, .bool r] 25 (by simp)).alloc (.cells #[.int .i64 c, .int .i64 d, .int .i64 e, .int .i64 f] 27))
        have B0_1 := Lib.hid (Blk.new (w := (w.alloc (.cells #[.int .i64 a, .int .i64 b, .int .i64 g, .bool r] 25))) (g := w.heap.size + 1) #[.int .i64 c, .int .i64 d, .int .i64 e, .int .i64 f] 27 (by simp))
        have HB0 := Lib.hid ((below_new w (.cells #[.int .i64 a, .int .i64 b, .int .i64 g, .bool r] 25)).alloc (by simp <;> omega) (.cells #[.int .i64 c, .int .i64 d, .int .i64 e, .int .i64 f] 27))
        have Z0 : ((w.alloc (.cells #[.int .i64 a, .int .i64 b, .int .i64 g, .bool r] 25)).alloc (.cells #[.int .i64 c, .int .i64 d, .int .i64 e, .int .i64 f] 27)).heap.size = w.heap.size + 2 := by simp
        have HZ0 := Lib.hid Z0
        clear Z0
        go_enter Try.func28, Try.ntmps28
        go_wp2_with fail
        refine (specPr_any a b g r true _ Q1.out).mono ?_
        rintro e' w1 ⟨rfl, hb1⟩
        have z1 : w.heap.size + 2 ≤ w1.heap.size := by have h_ := hb1.size; rw [HZ0.out] at h_; exact h_
        have HB1 := Lib.hid (HB0.out.trans (hb1.mono (by rw [HZ0.out]; omega)))
        have B1_0 := Lib.hid (B0_0.out.below hb1 (by rw [HZ0.out]; omega))
        have c1_0_0 := B1_0.out.cell 0 (v := .int .i64 a) rfl
        have c1_0_1 := B1_0.out.cell 1 (v := .int .i64 b) rfl
        have c1_0_2 := B1_0.out.cell 2 (v := .int .i64 g) rfl
        have c1_0_3 := B1_0.out.cell 3 (v := .bool r) rfl
        have B1_1 := Lib.hid (B0_1.out.below hb1 (by rw [HZ0.out]; omega))
        have c1_1_0 := B1_1.out.cell 0 (v := .int .i64 c) rfl
        have c1_1_1 := B1_1.out.cell 1 (v := .int .i64 d) rfl
        have c1_1_2 := B1_1.out.cell 2 (v := .int .i64 e) rfl
        have c1_1_3 := B1_1.out.cell 3 (v := .int .i64 f) rfl
        clear hb1
        go_wp2_with fail
        refine (specTm_any c d e f true _ Q2.out).mono ?_
        rintro e' w2 ⟨rfl, hb2⟩
        have z2 : w.heap.size + 2 ≤ w2.heap.size := Nat.le_trans z1 hb2.size
        have HB2 := Lib.hid (HB1.out.trans (hb2.mono (by omega)))
        clear c1_0_0 c1_0_1 c1_0_2 c1_0_3 c1_1_0 c1_1_1 c1_1_2 c1_1_3
        have B2_0 := Lib.hid (B1_0.out.below hb2 (by omega))
        have c2_0_0 := B2_0.out.cell 0 (v := .int .i64 a) rfl
        have c2_0_1 := B2_0.out.cell 1 (v := .int .i64 b) rfl
        have c2_0_2 := B2_0.out.cell 2 (v := .int .i64 g) rfl
        have c2_0_3 := B2_0.out.cell 3 (v := .bool r) rfl
        have B2_1 := Lib.hid (B1_1.out.below hb2 (by omega))
        have c2_1_0 := B2_1.out.cell 0 (v := .int .i64 c) rfl
        have c2_1_1 := B2_1.out.cell 1 (v := .int .i64 d) rfl
        have c2_1_2 := B2_1.out.cell 2 (v := .int .i64 e) rfl
        have c2_1_3 := B2_1.out.cell 3 (v := .int .i64 f) rfl
        clear hb2
        go_wp2_with fail
        refine (specGrid_any a b g c d e f X Y r _ Q1.out Q2.out HX.out HY.out).mono ?_
        rintro e' w3 ⟨rfl, hb3⟩
        have z3 : w.heap.size + 2 ≤ w3.heap.size := Nat.le_trans z2 hb3.size
        have HB3 := Lib.hid (HB2.out.trans (hb3.mono (by omega)))
        clear c2_0_0 c2_0_1 c2_0_2 c2_0_3 c2_1_0 c2_1_1 c2_1_2 c2_1_3
        have B3_0 := Lib.hid (B2_0.out.below hb3 (by omega))
        have c3_0_0 := B3_0.out.cell 0 (v := .int .i64 a) rfl
        have c3_0_1 := B3_0.out.cell 1 (v := .int .i64 b) rfl
        have c3_0_2 := B3_0.out.cell 2 (v := .int .i64 g) rfl
        have c3_0_3 := B3_0.out.cell 3 (v := .bool r) rfl
        have B3_1 := Lib.hid (B2_1.out.below hb3 (by omega))
        have c3_1_0 := B3_1.out.cell 0 (v := .int .i64 c) rfl
        have c3_1_1 := B3_1.out.cell 1 (v := .int .i64 d) rfl
        have c3_1_2 := B3_1.out.cell 2 (v := .int .i64 e) rfl
        have c3_1_3 := B3_1.out.cell 3 (v := .int .i64 f) rfl
        clear hb3
        go_wp2_with fail
        go_region_held3 (fun V => V.cell? ⟨w.heap.size, 0, none⟩ = some (.int .i64 a) ∧ V.cell? ⟨w.heap.size, 1, none⟩ = some (.int .i64 b) ∧ V.cell? ⟨w.heap.size, 2, none⟩ = some (.int .i64 g) ∧ V.cell? ⟨w.heap.size, 3, none⟩ = some (.bool r) ∧ V.cell? ⟨w.heap.size + 1, 0, none⟩ = some (.int .i64 c) ∧ V.cell? ⟨w.heap.size + 1, 1, none⟩ = some (.int .i64 d) ∧ V.cell? ⟨w.heap.size + 1, 2, none⟩ = some (.int .i64 e) ∧ V.cell? ⟨w.heap.size + 1, 3, none⟩ = some (.int .i64 f))
          (first | go_keep | (refine ⟨?_, ?_, ?_, ?_, ?_, ?_, ?_, ?_⟩ <;> (first | go_keep | (rw [hbk.cell (by first | omega | (simp; omega) | simp)]; first | assumption | go_keep))))
          (first
            | (go_at_call 42; with_reducible refine (HC2 _).mono ?_; rintro e' w5 ⟨rfl, hbk⟩; have hbk5 := hbk)
            | (go_at_call 50; with_reducible refine (HC1 _).mono ?_; rintro e' w4 ⟨rfl, hbk⟩; have hbk4 := hbk; have zk : w.heap.size + 2 ≤ w4.heap.size := Nat.le_trans z3 (sz_drew hbk)))
        have z5 : w4.heap.size ≤ w5.heap.size := hbk5.size
        have HB5 := Lib.hid ((below_drewN' HB3.out 1).trans ((hbk4.trans (hbk5.mono hbk4.size)).mono (show w.heap.size ≤ w3.heap.size by omega)))
        have hb35 : Below w3.heap.size w3 w5 := (below_drewN' (Below.refl _ w3) 1).trans (hbk4.trans (hbk5.mono hbk4.size))
        have B5_0 := B3_0.out.below hb35 (by omega)
        clear c3_0_0 c3_0_1 c3_0_2 c3_0_3 c3_1_0 c3_1_1 c3_1_2 c3_1_3
        have c5_3 := B5_0.cell 3 (v := .bool r) rfl
        clear hb35 hbk4 hbk5 hbk
        go_wp2_with fail
        all_goals
          go_ret3
          exact ⟨ret_z (by first | rfl | exact decide_eq_true (by omega) | exact decide_eq_false (by omega)), HB5.out⟩
    · rcases h with ⟨rfl, rfl, rfl, rfl⟩ | ⟨q, rfl, rfl, rfl⟩
      · obtain ⟨X, hX⟩ : ∃ X, Pr.ct a c e f = X := ⟨_, rfl⟩
        obtain ⟨Y, hY⟩ : ∃ Y, Pr.ct (b - g) d e f = Y := ⟨_, rfl⟩
        obtain ⟨X2, hX2⟩ : ∃ X, Pr.ct a d e f = X := ⟨_, rfl⟩
        obtain ⟨Y2, hY2⟩ : ∃ Y, Pr.ct (b - g) c e f = Y := ⟨_, rfl⟩
        unfold Pr.up at hU hV
        rw [hX, hY] at hU
        rw [hX2, hY2] at hV
        have m1 : IntKind.i64.wrap (X * Y) = 0 := by rw [hU]; exact IntWalk.i64_in _ (by omega)
        have m2 : IntKind.i64.wrap (X2 * Y2) = V := by rw [hV]; exact IntWalk.i64_in _ (by omega)
        have HX := Lib.hid hX
        have HY := Lib.hid hY
        have HX2 := Lib.hid hX2
        have HY2 := Lib.hid hY2
        have Q1 := Lib.hid hp
        have Q2 := Lib.hid ht
        have HC1 := fun (W : World) => specTurn_any c d e f W
        have HC2 := fun (W : World) => specGrid_any a b g d c e f X2 Y2 true W hp (by rw [Pr.tm_turn]; exact ht) hX2 hY2
        clear hX hY hX2 hY2 hp ht hU hV
        have B0_0 := Lib.hid ((Blk.new (w := w) (g := w.heap.size) #[.int .i64 a, .int .i64 b, .int .i64 g, .bool true] 25 (by simp)).alloc (.cells #[.int .i64 c, .int .i64 d, .int .i64 e, .int .i64 f] 27))
        have B0_1 := Lib.hid (Blk.new (w := (w.alloc (.cells #[.int .i64 a, .int .i64 b, .int .i64 g, .bool true] 25))) (g := w.heap.size + 1) #[.int .i64 c, .int .i64 d, .int .i64 e, .int .i64 f] 27 (by simp))
        have HB0 := Lib.hid ((below_new w (.cells #[.int .i64 a, .int .i64 b, .int .i64 g, .bool true] 25)).alloc (by simp <;> omega) (.cells #[.int .i64 c, .int .i64 d, .int .i64 e, .int .i64 f] 27))
        have Z0 : ((w.alloc (.cells #[.int .i64 a, .int .i64 b, .int .i64 g, .bool true] 25)).alloc (.cells #[.int .i64 c, .int .i64 d, .int .i64 e, .int .i64 f] 27)).heap.size = w.heap.size + 2 := by simp
        have HZ0 := Lib.hid Z0
        clear Z0
        go_enter Try.func28, Try.ntmps28
        go_wp2_with fail
        refine (specPr_any a b g true true _ Q1.out).mono ?_
        rintro e' w1 ⟨rfl, hb1⟩
        have z1 : w.heap.size + 2 ≤ w1.heap.size := by have h_ := hb1.size; rw [HZ0.out] at h_; exact h_
        have HB1 := Lib.hid (HB0.out.trans (hb1.mono (by rw [HZ0.out]; omega)))
        have B1_0 := Lib.hid (B0_0.out.below hb1 (by rw [HZ0.out]; omega))
        have c1_0_0 := B1_0.out.cell 0 (v := .int .i64 a) rfl
        have c1_0_1 := B1_0.out.cell 1 (v := .int .i64 b) rfl
        have c1_0_2 := B1_0.out.cell 2 (v := .int .i64 g) rfl
        have c1_0_3 := B1_0.out.cell 3 (v := .bool true) rfl
        have B1_1 := Lib.hid (B0_1.out.below hb1 (by rw [HZ0.out]; omega))
        have c1_1_0 := B1_1.out.cell 0 (v := .int .i64 c) rfl
        have c1_1_1 := B1_1.out.cell 1 (v := .int .i64 d) rfl
        have c1_1_2 := B1_1.out.cell 2 (v := .int .i64 e) rfl
        have c1_1_3 := B1_1.out.cell 3 (v := .int .i64 f) rfl
        clear hb1
        go_wp2_with fail
        refine (specTm_any c d e f true _ Q2.out).mono ?_
        rintro e' w2 ⟨rfl, hb2⟩
        have z2 : w.heap.size + 2 ≤ w2.heap.size := Nat.le_trans z1 hb2.size
        have HB2 := Lib.hid (HB1.out.trans (hb2.mono (by omega)))
        clear c1_0_0 c1_0_1 c1_0_2 c1_0_3 c1_1_0 c1_1_1 c1_1_2 c1_1_3
        have B2_0 := Lib.hid (B1_0.out.below hb2 (by omega))
        have c2_0_0 := B2_0.out.cell 0 (v := .int .i64 a) rfl
        have c2_0_1 := B2_0.out.cell 1 (v := .int .i64 b) rfl
        have c2_0_2 := B2_0.out.cell 2 (v := .int .i64 g) rfl
        have c2_0_3 := B2_0.out.cell 3 (v := .bool true) rfl
        have B2_1 := Lib.hid (B1_1.out.below hb2 (by omega))
        have c2_1_0 := B2_1.out.cell 0 (v := .int .i64 c) rfl
        have c2_1_1 := B2_1.out.cell 1 (v := .int .i64 d) rfl
        have c2_1_2 := B2_1.out.cell 2 (v := .int .i64 e) rfl
        have c2_1_3 := B2_1.out.cell 3 (v := .int .i64 f) rfl
        clear hb2
        go_wp2_with fail
        refine (specGrid_any a b g c d e f X Y true _ Q1.out Q2.out HX.out HY.out).mono ?_
        rintro e' w3 ⟨rfl, hb3⟩
        have z3 : w.heap.size + 2 ≤ w3.heap.size := Nat.le_trans z2 hb3.size
        have HB3 := Lib.hid (HB2.out.trans (hb3.mono (by omega)))
        clear c2_0_0 c2_0_1 c2_0_2 c2_0_3 c2_1_0 c2_1_1 c2_1_2 c2_1_3
        have B3_0 := Lib.hid (B2_0.out.below hb3 (by omega))
        have c3_0_0 := B3_0.out.cell 0 (v := .int .i64 a) rfl
        have c3_0_1 := B3_0.out.cell 1 (v := .int .i64 b) rfl
        have c3_0_2 := B3_0.out.cell 2 (v := .int .i64 g) rfl
        have c3_0_3 := B3_0.out.cell 3 (v := .bool true) rfl
        have B3_1 := Lib.hid (B2_1.out.below hb3 (by omega))
        have c3_1_0 := B3_1.out.cell 0 (v := .int .i64 c) rfl
        have c3_1_1 := B3_1.out.cell 1 (v := .int .i64 d) rfl
        have c3_1_2 := B3_1.out.cell 2 (v := .int .i64 e) rfl
        have c3_1_3 := B3_1.out.cell 3 (v := .int .i64 f) rfl
        clear hb3
        go_wp2_with fail
        go_region_held3 (fun V => V.cell? ⟨w.heap.size, 0, none⟩ = some (.int .i64 a) ∧ V.cell? ⟨w.heap.size, 1, none⟩ = some (.int .i64 b) ∧ V.cell? ⟨w.heap.size, 2, none⟩ = some (.int .i64 g) ∧ V.cell? ⟨w.heap.size, 3, none⟩ = some (.bool true) ∧ V.cell? ⟨w.heap.size + 1, 0, none⟩ = some (.int .i64 c) ∧ V.cell? ⟨w.heap.size + 1, 1, none⟩ = some (.int .i64 d) ∧ V.cell? ⟨w.heap.size + 1, 2, none⟩ = some (.int .i64 e) ∧ V.cell? ⟨w.heap.size + 1, 3, none⟩ = some (.int .i64 f))
          (first | go_keep | (refine ⟨?_, ?_, ?_, ?_, ?_, ?_, ?_, ?_⟩ <;> (first | go_keep | (rw [hbk.cell (by first | omega | (simp; omega) | simp)]; first | assumption | go_keep))))
          (first
            | (go_at_call 42; with_reducible refine (HC2 _).mono ?_; rintro e' w5 ⟨rfl, hbk⟩; have hbk5 := hbk)
            | (go_at_call 50; with_reducible refine (HC1 _).mono ?_; rintro e' w4 ⟨rfl, hbk⟩; have hbk4 := hbk; have zk : w.heap.size + 2 ≤ w4.heap.size := Nat.le_trans z3 (sz_drew hbk)))
        have z5 : w4.heap.size ≤ w5.heap.size := hbk5.size
        have HB5 := Lib.hid ((below_drewN' HB3.out 1).trans ((hbk4.trans (hbk5.mono hbk4.size)).mono (show w.heap.size ≤ w3.heap.size by omega)))
        have hb35 : Below w3.heap.size w3 w5 := (below_drewN' (Below.refl _ w3) 1).trans (hbk4.trans (hbk5.mono hbk4.size))
        have B5_0 := B3_0.out.below hb35 (by omega)
        clear c3_0_0 c3_0_1 c3_0_2 c3_0_3 c3_1_0 c3_1_1 c3_1_2 c3_1_3
        have c5_3 := B5_0.cell 3 (v := .bool true) rfl
        clear hb35 hbk4 hbk5 hbk
        go_wp2_with fail
        all_goals
          go_ret3
          exact ⟨ret_z (by first | rfl | exact decide_eq_true (by omega) | exact decide_eq_false (by omega)), HB5.out⟩
      · obtain ⟨X, hX⟩ : ∃ X, Pr.ct a c e f = X := ⟨_, rfl⟩
        obtain ⟨Y, hY⟩ : ∃ Y, Pr.ct (b - g) d e f = Y := ⟨_, rfl⟩
        obtain ⟨X2, hX2⟩ : ∃ X, Pr.ct a d e f = X := ⟨_, rfl⟩
        obtain ⟨Y2, hY2⟩ : ∃ Y, Pr.ct (b - g) c e f = Y := ⟨_, rfl⟩
        unfold Pr.up at hU hV
        rw [hX, hY] at hU
        rw [hX2, hY2] at hV
        have m1 : IntKind.i64.wrap (X * Y) = x := by rw [hU]; exact IntWalk.i64_in _ (by omega)
        have m2 : IntKind.i64.wrap (X2 * Y2) = V := by rw [hV]; exact IntWalk.i64_in _ (by omega)
        have HX := Lib.hid hX
        have HY := Lib.hid hY
        have HX2 := Lib.hid hX2
        have HY2 := Lib.hid hY2
        have Q1 := Lib.hid hp
        have Q2 := Lib.hid ht
        have HC1 := fun (W : World) => specTurn_any c d e f W
        have HC2 := fun (W : World) => specGrid_any a b g d c e f X2 Y2 true W hp (by rw [Pr.tm_turn]; exact ht) hX2 hY2
        clear hX hY hX2 hY2 hp ht hU hV
        have n1 : ¬ x = 0 := by omega
        have n1' : (x == 0) = false := by simpa using n1
        have l1 : 0 ≤ x := by omega
        have l2 : ¬ x ≤ 0 := by omega
        have l3 : ¬ x < 0 := by omega
        have hmax : max x 0 = x := by omega
        have B0_0 := Lib.hid ((Blk.new (w := w) (g := w.heap.size) #[.int .i64 a, .int .i64 b, .int .i64 g, .bool true] 25 (by simp)).alloc (.cells #[.int .i64 c, .int .i64 d, .int .i64 e, .int .i64 f] 27))
        have B0_1 := Lib.hid (Blk.new (w := (w.alloc (.cells #[.int .i64 a, .int .i64 b, .int .i64 g, .bool true] 25))) (g := w.heap.size + 1) #[.int .i64 c, .int .i64 d, .int .i64 e, .int .i64 f] 27 (by simp))
        have HB0 := Lib.hid ((below_new w (.cells #[.int .i64 a, .int .i64 b, .int .i64 g, .bool true] 25)).alloc (by simp <;> omega) (.cells #[.int .i64 c, .int .i64 d, .int .i64 e, .int .i64 f] 27))
        have Z0 : ((w.alloc (.cells #[.int .i64 a, .int .i64 b, .int .i64 g, .bool true] 25)).alloc (.cells #[.int .i64 c, .int .i64 d, .int .i64 e, .int .i64 f] 27)).heap.size = w.heap.size + 2 := by simp
        have HZ0 := Lib.hid Z0
        clear Z0
        go_enter Try.func28, Try.ntmps28
        go_wp2_with fail
        refine (specPr_any a b g true true _ Q1.out).mono ?_
        rintro e' w1 ⟨rfl, hb1⟩
        have z1 : w.heap.size + 2 ≤ w1.heap.size := by have h_ := hb1.size; rw [HZ0.out] at h_; exact h_
        have HB1 := Lib.hid (HB0.out.trans (hb1.mono (by rw [HZ0.out]; omega)))
        have B1_0 := Lib.hid (B0_0.out.below hb1 (by rw [HZ0.out]; omega))
        have c1_0_0 := B1_0.out.cell 0 (v := .int .i64 a) rfl
        have c1_0_1 := B1_0.out.cell 1 (v := .int .i64 b) rfl
        have c1_0_2 := B1_0.out.cell 2 (v := .int .i64 g) rfl
        have c1_0_3 := B1_0.out.cell 3 (v := .bool true) rfl
        have B1_1 := Lib.hid (B0_1.out.below hb1 (by rw [HZ0.out]; omega))
        have c1_1_0 := B1_1.out.cell 0 (v := .int .i64 c) rfl
        have c1_1_1 := B1_1.out.cell 1 (v := .int .i64 d) rfl
        have c1_1_2 := B1_1.out.cell 2 (v := .int .i64 e) rfl
        have c1_1_3 := B1_1.out.cell 3 (v := .int .i64 f) rfl
        clear hb1
        go_wp2_with fail
        refine (specTm_any c d e f true _ Q2.out).mono ?_
        rintro e' w2 ⟨rfl, hb2⟩
        have z2 : w.heap.size + 2 ≤ w2.heap.size := Nat.le_trans z1 hb2.size
        have HB2 := Lib.hid (HB1.out.trans (hb2.mono (by omega)))
        clear c1_0_0 c1_0_1 c1_0_2 c1_0_3 c1_1_0 c1_1_1 c1_1_2 c1_1_3
        have B2_0 := Lib.hid (B1_0.out.below hb2 (by omega))
        have c2_0_0 := B2_0.out.cell 0 (v := .int .i64 a) rfl
        have c2_0_1 := B2_0.out.cell 1 (v := .int .i64 b) rfl
        have c2_0_2 := B2_0.out.cell 2 (v := .int .i64 g) rfl
        have c2_0_3 := B2_0.out.cell 3 (v := .bool true) rfl
        have B2_1 := Lib.hid (B1_1.out.below hb2 (by omega))
        have c2_1_0 := B2_1.out.cell 0 (v := .int .i64 c) rfl
        have c2_1_1 := B2_1.out.cell 1 (v := .int .i64 d) rfl
        have c2_1_2 := B2_1.out.cell 2 (v := .int .i64 e) rfl
        have c2_1_3 := B2_1.out.cell 3 (v := .int .i64 f) rfl
        clear hb2
        go_wp2_with fail
        refine (specGrid_any a b g c d e f X Y true _ Q1.out Q2.out HX.out HY.out).mono ?_
        rintro e' w3 ⟨rfl, hb3⟩
        have z3 : w.heap.size + 2 ≤ w3.heap.size := Nat.le_trans z2 hb3.size
        have HB3 := Lib.hid (HB2.out.trans (hb3.mono (by omega)))
        clear c2_0_0 c2_0_1 c2_0_2 c2_0_3 c2_1_0 c2_1_1 c2_1_2 c2_1_3
        have B3_0 := Lib.hid (B2_0.out.below hb3 (by omega))
        have c3_0_0 := B3_0.out.cell 0 (v := .int .i64 a) rfl
        have c3_0_1 := B3_0.out.cell 1 (v := .int .i64 b) rfl
        have c3_0_2 := B3_0.out.cell 2 (v := .int .i64 g) rfl
        have c3_0_3 := B3_0.out.cell 3 (v := .bool true) rfl
        have B3_1 := Lib.hid (B2_1.out.below hb3 (by omega))
        have c3_1_0 := B3_1.out.cell 0 (v := .int .i64 c) rfl
        have c3_1_1 := B3_1.out.cell 1 (v := .int .i64 d) rfl
        have c3_1_2 := B3_1.out.cell 2 (v := .int .i64 e) rfl
        have c3_1_3 := B3_1.out.cell 3 (v := .int .i64 f) rfl
        clear hb3
        go_wp2_with fail
        go_region_held3 (fun V => V.cell? ⟨w.heap.size, 0, none⟩ = some (.int .i64 a) ∧ V.cell? ⟨w.heap.size, 1, none⟩ = some (.int .i64 b) ∧ V.cell? ⟨w.heap.size, 2, none⟩ = some (.int .i64 g) ∧ V.cell? ⟨w.heap.size, 3, none⟩ = some (.bool true) ∧ V.cell? ⟨w.heap.size + 1, 0, none⟩ = some (.int .i64 c) ∧ V.cell? ⟨w.heap.size + 1, 1, none⟩ = some (.int .i64 d) ∧ V.cell? ⟨w.heap.size + 1, 2, none⟩ = some (.int .i64 e) ∧ V.cell? ⟨w.heap.size + 1, 3, none⟩ = some (.int .i64 f))
          (first | go_keep | (refine ⟨?_, ?_, ?_, ?_, ?_, ?_, ?_, ?_⟩ <;> (first | go_keep | (rw [hbk.cell (by first | omega | (simp; omega) | simp)]; first | assumption | go_keep))))
          (first
            | (go_at_call 42; with_reducible refine (HC2 _).mono ?_; rintro e' w5 ⟨rfl, hbk⟩; have hbk5 := hbk)
            | (go_at_call 50; with_reducible refine (HC1 _).mono ?_; rintro e' w4 ⟨rfl, hbk⟩; have hbk4 := hbk; have zk : w.heap.size + 2 ≤ w4.heap.size := Nat.le_trans z3 (sz_drew hbk)))
        have z5 : w4.heap.size ≤ w5.heap.size := hbk5.size
        have HB5 := Lib.hid ((below_drewN' HB3.out 1).trans ((hbk4.trans (hbk5.mono hbk4.size)).mono (show w.heap.size ≤ w3.heap.size by omega)))
        have hb35 : Below w3.heap.size w3 w5 := (below_drewN' (Below.refl _ w3) 1).trans (hbk4.trans (hbk5.mono hbk4.size))
        have B5_0 := B3_0.out.below hb35 (by omega)
        clear c3_0_0 c3_0_1 c3_0_2 c3_0_3 c3_1_0 c3_1_1 c3_1_2 c3_1_3
        have c5_3 := B5_0.cell 3 (v := .bool true) rfl
        clear hb35 hbk4 hbk5 hbk
        go_wp2_with fail
        all_goals
          go_ret3
          exact ⟨ret_z (by first | rfl | exact decide_eq_true (by omega) | exact decide_eq_false (by omega)), HB5.out⟩
    · rcases h with ⟨rfl, rfl, rfl, rfl⟩ | ⟨q, rfl, rfl, rfl⟩
      · obtain ⟨X, hX⟩ : ∃ X, Pr.ct a c e f = X := ⟨_, rfl⟩
        obtain ⟨Y, hY⟩ : ∃ Y, Pr.ct (b - g) d e f = Y := ⟨_, rfl⟩
        obtain ⟨X2, hX2⟩ : ∃ X, Pr.ct a d e f = X := ⟨_, rfl⟩
        obtain ⟨Y2, hY2⟩ : ∃ Y, Pr.ct (b - g) c e f = Y := ⟨_, rfl⟩
        unfold Pr.up at hU hV
        rw [hX, hY] at hU
        rw [hX2, hY2] at hV
        have m1 : IntKind.i64.wrap (X * Y) = U := by rw [hU]; exact IntWalk.i64_in _ (by omega)
        have m2 : IntKind.i64.wrap (X2 * Y2) = 0 := by rw [hV]; exact IntWalk.i64_in _ (by omega)
        have HX := Lib.hid hX
        have HY := Lib.hid hY
        have HX2 := Lib.hid hX2
        have HY2 := Lib.hid hY2
        have Q1 := Lib.hid hp
        have Q2 := Lib.hid ht
        have HC1 := fun (W : World) => specTurn_any c d e f W
        have HC2 := fun (W : World) => specGrid_any a b g d c e f X2 Y2 false W hp (by rw [Pr.tm_turn]; exact ht) hX2 hY2
        clear hX hY hX2 hY2 hp ht hU hV
        have B0_0 := Lib.hid ((Blk.new (w := w) (g := w.heap.size) #[.int .i64 a, .int .i64 b, .int .i64 g, .bool false] 25 (by simp)).alloc (.cells #[.int .i64 c, .int .i64 d, .int .i64 e, .int .i64 f] 27))
        have B0_1 := Lib.hid (Blk.new (w := (w.alloc (.cells #[.int .i64 a, .int .i64 b, .int .i64 g, .bool false] 25))) (g := w.heap.size + 1) #[.int .i64 c, .int .i64 d, .int .i64 e, .int .i64 f] 27 (by simp))
        have HB0 := Lib.hid ((below_new w (.cells #[.int .i64 a, .int .i64 b, .int .i64 g, .bool false] 25)).alloc (by simp <;> omega) (.cells #[.int .i64 c, .int .i64 d, .int .i64 e, .int .i64 f] 27))
        have Z0 : ((w.alloc (.cells #[.int .i64 a, .int .i64 b, .int .i64 g, .bool false] 25)).alloc (.cells #[.int .i64 c, .int .i64 d, .int .i64 e, .int .i64 f] 27)).heap.size = w.heap.size + 2 := by simp
        have HZ0 := Lib.hid Z0
        clear Z0
        go_enter Try.func28, Try.ntmps28
        go_wp2_with fail
        refine (specPr_any a b g false true _ Q1.out).mono ?_
        rintro e' w1 ⟨rfl, hb1⟩
        have z1 : w.heap.size + 2 ≤ w1.heap.size := by have h_ := hb1.size; rw [HZ0.out] at h_; exact h_
        have HB1 := Lib.hid (HB0.out.trans (hb1.mono (by rw [HZ0.out]; omega)))
        have B1_0 := Lib.hid (B0_0.out.below hb1 (by rw [HZ0.out]; omega))
        have c1_0_0 := B1_0.out.cell 0 (v := .int .i64 a) rfl
        have c1_0_1 := B1_0.out.cell 1 (v := .int .i64 b) rfl
        have c1_0_2 := B1_0.out.cell 2 (v := .int .i64 g) rfl
        have c1_0_3 := B1_0.out.cell 3 (v := .bool false) rfl
        have B1_1 := Lib.hid (B0_1.out.below hb1 (by rw [HZ0.out]; omega))
        have c1_1_0 := B1_1.out.cell 0 (v := .int .i64 c) rfl
        have c1_1_1 := B1_1.out.cell 1 (v := .int .i64 d) rfl
        have c1_1_2 := B1_1.out.cell 2 (v := .int .i64 e) rfl
        have c1_1_3 := B1_1.out.cell 3 (v := .int .i64 f) rfl
        clear hb1
        go_wp2_with fail
        refine (specTm_any c d e f true _ Q2.out).mono ?_
        rintro e' w2 ⟨rfl, hb2⟩
        have z2 : w.heap.size + 2 ≤ w2.heap.size := Nat.le_trans z1 hb2.size
        have HB2 := Lib.hid (HB1.out.trans (hb2.mono (by omega)))
        clear c1_0_0 c1_0_1 c1_0_2 c1_0_3 c1_1_0 c1_1_1 c1_1_2 c1_1_3
        have B2_0 := Lib.hid (B1_0.out.below hb2 (by omega))
        have c2_0_0 := B2_0.out.cell 0 (v := .int .i64 a) rfl
        have c2_0_1 := B2_0.out.cell 1 (v := .int .i64 b) rfl
        have c2_0_2 := B2_0.out.cell 2 (v := .int .i64 g) rfl
        have c2_0_3 := B2_0.out.cell 3 (v := .bool false) rfl
        have B2_1 := Lib.hid (B1_1.out.below hb2 (by omega))
        have c2_1_0 := B2_1.out.cell 0 (v := .int .i64 c) rfl
        have c2_1_1 := B2_1.out.cell 1 (v := .int .i64 d) rfl
        have c2_1_2 := B2_1.out.cell 2 (v := .int .i64 e) rfl
        have c2_1_3 := B2_1.out.cell 3 (v := .int .i64 f) rfl
        clear hb2
        go_wp2_with fail
        refine (specGrid_any a b g c d e f X Y false _ Q1.out Q2.out HX.out HY.out).mono ?_
        rintro e' w3 ⟨rfl, hb3⟩
        have z3 : w.heap.size + 2 ≤ w3.heap.size := Nat.le_trans z2 hb3.size
        have HB3 := Lib.hid (HB2.out.trans (hb3.mono (by omega)))
        clear c2_0_0 c2_0_1 c2_0_2 c2_0_3 c2_1_0 c2_1_1 c2_1_2 c2_1_3
        have B3_0 := Lib.hid (B2_0.out.below hb3 (by omega))
        have c3_0_0 := B3_0.out.cell 0 (v := .int .i64 a) rfl
        have c3_0_1 := B3_0.out.cell 1 (v := .int .i64 b) rfl
        have c3_0_2 := B3_0.out.cell 2 (v := .int .i64 g) rfl
        have c3_0_3 := B3_0.out.cell 3 (v := .bool false) rfl
        have B3_1 := Lib.hid (B2_1.out.below hb3 (by omega))
        have c3_1_0 := B3_1.out.cell 0 (v := .int .i64 c) rfl
        have c3_1_1 := B3_1.out.cell 1 (v := .int .i64 d) rfl
        have c3_1_2 := B3_1.out.cell 2 (v := .int .i64 e) rfl
        have c3_1_3 := B3_1.out.cell 3 (v := .int .i64 f) rfl
        clear hb3
        go_wp2_with fail
        go_region_held3 (fun V => V.cell? ⟨w.heap.size, 0, none⟩ = some (.int .i64 a) ∧ V.cell? ⟨w.heap.size, 1, none⟩ = some (.int .i64 b) ∧ V.cell? ⟨w.heap.size, 2, none⟩ = some (.int .i64 g) ∧ V.cell? ⟨w.heap.size, 3, none⟩ = some (.bool false) ∧ V.cell? ⟨w.heap.size + 1, 0, none⟩ = some (.int .i64 c) ∧ V.cell? ⟨w.heap.size + 1, 1, none⟩ = some (.int .i64 d) ∧ V.cell? ⟨w.heap.size + 1, 2, none⟩ = some (.int .i64 e) ∧ V.cell? ⟨w.heap.size + 1, 3, none⟩ = some (.int .i64 f))
          (first | go_keep | (refine ⟨?_, ?_, ?_, ?_, ?_, ?_, ?_, ?_⟩ <;> (first | go_keep | (rw [hbk.cell (by first | omega | (simp; omega) | simp)]; first | assumption | go_keep))))
          (first
            | (go_at_call 42; with_reducible refine (HC2 _).mono ?_; rintro e' w5 ⟨rfl, hbk⟩; have hbk5 := hbk)
            | (go_at_call 50; with_reducible refine (HC1 _).mono ?_; rintro e' w4 ⟨rfl, hbk⟩; have hbk4 := hbk; have zk : w.heap.size + 2 ≤ w4.heap.size := Nat.le_trans z3 (sz_drew hbk)))
        have z5 : w4.heap.size ≤ w5.heap.size := hbk5.size
        have HB5 := Lib.hid ((below_drewN' HB3.out 1).trans ((hbk4.trans (hbk5.mono hbk4.size)).mono (show w.heap.size ≤ w3.heap.size by omega)))
        have hb35 : Below w3.heap.size w3 w5 := (below_drewN' (Below.refl _ w3) 1).trans (hbk4.trans (hbk5.mono hbk4.size))
        have B5_0 := B3_0.out.below hb35 (by omega)
        clear c3_0_0 c3_0_1 c3_0_2 c3_0_3 c3_1_0 c3_1_1 c3_1_2 c3_1_3
        have c5_3 := B5_0.cell 3 (v := .bool false) rfl
        clear hb35 hbk4 hbk5 hbk
        go_wp2_with fail
        all_goals
          go_ret3
          exact ⟨ret_z (by first | rfl | exact decide_eq_true (by omega) | exact decide_eq_false (by omega)), HB5.out⟩
      · obtain ⟨X, hX⟩ : ∃ X, Pr.ct a c e f = X := ⟨_, rfl⟩
        obtain ⟨Y, hY⟩ : ∃ Y, Pr.ct (b - g) d e f = Y := ⟨_, rfl⟩
        obtain ⟨X2, hX2⟩ : ∃ X, Pr.ct a d e f = X := ⟨_, rfl⟩
        obtain ⟨Y2, hY2⟩ : ∃ Y, Pr.ct (b - g) c e f = Y := ⟨_, rfl⟩
        unfold Pr.up at hU hV
        rw [hX, hY] at hU
        rw [hX2, hY2] at hV
        have m1 : IntKind.i64.wrap (X * Y) = U := by rw [hU]; exact IntWalk.i64_in _ (by omega)
        have m2 : IntKind.i64.wrap (X2 * Y2) = x := by rw [hV]; exact IntWalk.i64_in _ (by omega)
        have HX := Lib.hid hX
        have HY := Lib.hid hY
        have HX2 := Lib.hid hX2
        have HY2 := Lib.hid hY2
        have Q1 := Lib.hid hp
        have Q2 := Lib.hid ht
        have HC1 := fun (W : World) => specTurn_any c d e f W
        have HC2 := fun (W : World) => specGrid_any a b g d c e f X2 Y2 false W hp (by rw [Pr.tm_turn]; exact ht) hX2 hY2
        clear hX hY hX2 hY2 hp ht hU hV
        have n1 : ¬ x = 0 := by omega
        have n1' : (x == 0) = false := by simpa using n1
        have l1 : 0 ≤ x := by omega
        have l2 : ¬ x ≤ 0 := by omega
        have hmax : max 0 x = x := by omega
        have B0_0 := Lib.hid ((Blk.new (w := w) (g := w.heap.size) #[.int .i64 a, .int .i64 b, .int .i64 g, .bool false] 25 (by simp)).alloc (.cells #[.int .i64 c, .int .i64 d, .int .i64 e, .int .i64 f] 27))
        have B0_1 := Lib.hid (Blk.new (w := (w.alloc (.cells #[.int .i64 a, .int .i64 b, .int .i64 g, .bool false] 25))) (g := w.heap.size + 1) #[.int .i64 c, .int .i64 d, .int .i64 e, .int .i64 f] 27 (by simp))
        have HB0 := Lib.hid ((below_new w (.cells #[.int .i64 a, .int .i64 b, .int .i64 g, .bool false] 25)).alloc (by simp <;> omega) (.cells #[.int .i64 c, .int .i64 d, .int .i64 e, .int .i64 f] 27))
        have Z0 : ((w.alloc (.cells #[.int .i64 a, .int .i64 b, .int .i64 g, .bool false] 25)).alloc (.cells #[.int .i64 c, .int .i64 d, .int .i64 e, .int .i64 f] 27)).heap.size = w.heap.size + 2 := by simp
        have HZ0 := Lib.hid Z0
        clear Z0
        go_enter Try.func28, Try.ntmps28
        go_wp2_with fail
        refine (specPr_any a b g false true _ Q1.out).mono ?_
        rintro e' w1 ⟨rfl, hb1⟩
        have z1 : w.heap.size + 2 ≤ w1.heap.size := by have h_ := hb1.size; rw [HZ0.out] at h_; exact h_
        have HB1 := Lib.hid (HB0.out.trans (hb1.mono (by rw [HZ0.out]; omega)))
        have B1_0 := Lib.hid (B0_0.out.below hb1 (by rw [HZ0.out]; omega))
        have c1_0_0 := B1_0.out.cell 0 (v := .int .i64 a) rfl
        have c1_0_1 := B1_0.out.cell 1 (v := .int .i64 b) rfl
        have c1_0_2 := B1_0.out.cell 2 (v := .int .i64 g) rfl
        have c1_0_3 := B1_0.out.cell 3 (v := .bool false) rfl
        have B1_1 := Lib.hid (B0_1.out.below hb1 (by rw [HZ0.out]; omega))
        have c1_1_0 := B1_1.out.cell 0 (v := .int .i64 c) rfl
        have c1_1_1 := B1_1.out.cell 1 (v := .int .i64 d) rfl
        have c1_1_2 := B1_1.out.cell 2 (v := .int .i64 e) rfl
        have c1_1_3 := B1_1.out.cell 3 (v := .int .i64 f) rfl
        clear hb1
        go_wp2_with fail
        refine (specTm_any c d e f true _ Q2.out).mono ?_
        rintro e' w2 ⟨rfl, hb2⟩
        have z2 : w.heap.size + 2 ≤ w2.heap.size := Nat.le_trans z1 hb2.size
        have HB2 := Lib.hid (HB1.out.trans (hb2.mono (by omega)))
        clear c1_0_0 c1_0_1 c1_0_2 c1_0_3 c1_1_0 c1_1_1 c1_1_2 c1_1_3
        have B2_0 := Lib.hid (B1_0.out.below hb2 (by omega))
        have c2_0_0 := B2_0.out.cell 0 (v := .int .i64 a) rfl
        have c2_0_1 := B2_0.out.cell 1 (v := .int .i64 b) rfl
        have c2_0_2 := B2_0.out.cell 2 (v := .int .i64 g) rfl
        have c2_0_3 := B2_0.out.cell 3 (v := .bool false) rfl
        have B2_1 := Lib.hid (B1_1.out.below hb2 (by omega))
        have c2_1_0 := B2_1.out.cell 0 (v := .int .i64 c) rfl
        have c2_1_1 := B2_1.out.cell 1 (v := .int .i64 d) rfl
        have c2_1_2 := B2_1.out.cell 2 (v := .int .i64 e) rfl
        have c2_1_3 := B2_1.out.cell 3 (v := .int .i64 f) rfl
        clear hb2
        go_wp2_with fail
        refine (specGrid_any a b g c d e f X Y false _ Q1.out Q2.out HX.out HY.out).mono ?_
        rintro e' w3 ⟨rfl, hb3⟩
        have z3 : w.heap.size + 2 ≤ w3.heap.size := Nat.le_trans z2 hb3.size
        have HB3 := Lib.hid (HB2.out.trans (hb3.mono (by omega)))
        clear c2_0_0 c2_0_1 c2_0_2 c2_0_3 c2_1_0 c2_1_1 c2_1_2 c2_1_3
        have B3_0 := Lib.hid (B2_0.out.below hb3 (by omega))
        have c3_0_0 := B3_0.out.cell 0 (v := .int .i64 a) rfl
        have c3_0_1 := B3_0.out.cell 1 (v := .int .i64 b) rfl
        have c3_0_2 := B3_0.out.cell 2 (v := .int .i64 g) rfl
        have c3_0_3 := B3_0.out.cell 3 (v := .bool false) rfl
        have B3_1 := Lib.hid (B2_1.out.below hb3 (by omega))
        have c3_1_0 := B3_1.out.cell 0 (v := .int .i64 c) rfl
        have c3_1_1 := B3_1.out.cell 1 (v := .int .i64 d) rfl
        have c3_1_2 := B3_1.out.cell 2 (v := .int .i64 e) rfl
        have c3_1_3 := B3_1.out.cell 3 (v := .int .i64 f) rfl
        clear hb3
        go_wp2_with fail
        go_region_held3 (fun V => V.cell? ⟨w.heap.size, 0, none⟩ = some (.int .i64 a) ∧ V.cell? ⟨w.heap.size, 1, none⟩ = some (.int .i64 b) ∧ V.cell? ⟨w.heap.size, 2, none⟩ = some (.int .i64 g) ∧ V.cell? ⟨w.heap.size, 3, none⟩ = some (.bool false) ∧ V.cell? ⟨w.heap.size + 1, 0, none⟩ = some (.int .i64 c) ∧ V.cell? ⟨w.heap.size + 1, 1, none⟩ = some (.int .i64 d) ∧ V.cell? ⟨w.heap.size + 1, 2, none⟩ = some (.int .i64 e) ∧ V.cell? ⟨w.heap.size + 1, 3, none⟩ = some (.int .i64 f))
          (first | go_keep | (refine ⟨?_, ?_, ?_, ?_, ?_, ?_, ?_, ?_⟩ <;> (first | go_keep | (rw [hbk.cell (by first | omega | (simp; omega) | simp)]; first | assumption | go_keep))))
          (first
            | (go_at_call 42; with_reducible refine (HC2 _).mono ?_; rintro e' w5 ⟨rfl, hbk⟩; have hbk5 := hbk)
            | (go_at_call 50; with_reducible refine (HC1 _).mono ?_; rintro e' w4 ⟨rfl, hbk⟩; have hbk4 := hbk; have zk : w.heap.size + 2 ≤ w4.heap.size := Nat.le_trans z3 (sz_drew hbk)))
        have z5 : w4.heap.size ≤ w5.heap.size := hbk5.size
        have HB5 := Lib.hid ((below_drewN' HB3.out 1).trans ((hbk4.trans (hbk5.mono hbk4.size)).mono (show w.heap.size ≤ w3.heap.size by omega)))
        have hb35 : Below w3.heap.size w3 w5 := (below_drewN' (Below.refl _ w3) 1).trans (hbk4.trans (hbk5.mono hbk4.size))
        have B5_0 := B3_0.out.below hb35 (by omega)
        clear c3_0_0 c3_0_1 c3_0_2 c3_0_3 c3_1_0 c3_1_1 c3_1_2 c3_1_3
        have c5_3 := B5_0.cell 3 (v := .bool false) rfl
        clear hb35 hbk4 hbk5 hbk
        go_wp2_with fail
        all_goals
          go_ret3
          exact ⟨ret_z (by first | rfl | exact decide_eq_true (by omega) | exact decide_eq_false (by omega)), HB5.out⟩
end Go.Proofs.Ythepfejoneeaeaa
