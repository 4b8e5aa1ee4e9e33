/- Contracts of GridOf, CornerOf and WasteArea, the program's and the model's. -/
import Derived.Test.YthepfejoneeaeaaPrCn
namespace Go.Proofs.Ythepfejoneeaeaa
open Go.RowKit

set_option maxRecDepth 100000 in
set_option maxHeartbeats 2000000 in
theorem specCode8_any (a b g c d e f k : Int) (r : Bool) (w : World) (hk : Pr.gdC a b g c d e f = k) :
    Calls Try.prog 41 #[PV a b g r, TV c d e f] w fun e' w' => e' = .returned (.int .i64 k) ∧ Below w.heap.size w w' := by
  rcases Pr.gd_cases a b g c d e f with ⟨_, hp, ht, n1, n2, _, _, hc, _⟩ | ⟨_, hp, ht, hz, _, _, hc, _⟩ | ⟨_, hb, _, _, hc⟩
  · obtain rfl : (0 : Int) = k := hc.symm.trans hk
    obtain ⟨X, hX⟩ : ∃ X, Pr.ct a c e f = X := ⟨_, rfl⟩
    obtain ⟨Y, hY⟩ : ∃ Y, Pr.ct (b - g) d e f = Y := ⟨_, rfl⟩
    rw [hX] at n1
    rw [hY] at n2
    have n1' : (X == 0) = false := by simpa using n1
    have n2' : (Y == 0) = false := by simpa using n2
    have HX := Lib.hid hX
    have HY := Lib.hid hY
    have Q1 := Lib.hid hp
    have Q2 := Lib.hid ht
    clear hX hY hp ht hc hk
    have B0_0 := Lib.hid ((Blk.new (w := w) (g := w.heap.size) #[.int .i64 a, .int .i64 b, .int .i64 g, .bool r] 25 (by simp)).alloc (.cells #[.int .i64 c, .int .i64 d, .int .i64 e, .int .i64 f] 27))
    have B0_1 := Lib.hid (Blk.new (w := (w.alloc (.cells #[.int .i64 a, .int .i64 b, .int .i64 g, .bool r] 25))) (g := w.heap.size + 1) #[.int .i64 c, .int .i64 d, .int .i64 e, .int .i64 f] 27 (by simp))
    have HB0 := Lib.hid ((below_new w (.cells #[.int .i64 a, .int .i64 b, .int .i64 g, .bool r] 25)).alloc (by simp <;> omega) (.cells #[.int .i64 c, .int .i64 d, .int .i64 e, .int .i64 f] 27))
    have Z0 : ((w.alloc (.cells #[.int .i64 a, .int .i64 b, .int .i64 g, .bool r] 25)).alloc (.cells #[.int .i64 c, .int .i64 d, .int .i64 e, .int .i64 f] 27)).heap.size = w.heap.size + 2 := by simp
    have HZ0 := Lib.hid Z0
    clear Z0
    go_enter Try.func41, Try.ntmps41
    go_wp2_with fail
    refine (specPr_any a b g r true _ Q1.out).mono ?_
    rintro e' w1 ⟨rfl, hb1⟩
    have z1 : w.heap.size + 2 ≤ w1.heap.size := by have h_ := hb1.size; rw [HZ0.out] at h_; exact h_
    have HB1 := Lib.hid (HB0.out.trans (hb1.mono (by rw [HZ0.out]; omega)))
    have B1_0 := Lib.hid (B0_0.out.below hb1 (by rw [HZ0.out]; omega))
    have c1_0_0 := B1_0.out.cell 0 (v := .int .i64 a) rfl
    have c1_0_1 := B1_0.out.cell 1 (v := .int .i64 b) rfl
    have c1_0_2 := B1_0.out.cell 2 (v := .int .i64 g) rfl
    have c1_0_3 := B1_0.out.cell 3 (v := .bool r) rfl
    have B1_1 := Lib.hid (B0_1.out.below hb1 (by rw [HZ0.out]; omega))
    have c1_1_0 := B1_1.out.cell 0 (v := .int .i64 c) rfl
    have c1_1_1 := B1_1.out.cell 1 (v := .int .i64 d) rfl
    have c1_1_2 := B1_1.out.cell 2 (v := .int .i64 e) rfl
    have c1_1_3 := B1_1.out.cell 3 (v := .int .i64 f) rfl
    clear hb1
    go_wp2_with fail
    refine (specTm_any c d e f true _ Q2.out).mono ?_
    rintro e' w2 ⟨rfl, hb2⟩
    have z2 : w.heap.size + 2 ≤ w2.heap.size := Nat.le_trans z1 hb2.size
    have HB2 := Lib.hid (HB1.out.trans (hb2.mono (by omega)))
    clear c1_0_0 c1_0_1 c1_0_2 c1_0_3 c1_1_0 c1_1_1 c1_1_2 c1_1_3
    have B2_0 := Lib.hid (B1_0.out.below hb2 (by omega))
    have c2_0_0 := B2_0.out.cell 0 (v := .int .i64 a) rfl
    have c2_0_1 := B2_0.out.cell 1 (v := .int .i64 b) rfl
    have c2_0_2 := B2_0.out.cell 2 (v := .int .i64 g) rfl
    have c2_0_3 := B2_0.out.cell 3 (v := .bool r) rfl
    have B2_1 := Lib.hid (B1_1.out.below hb2 (by omega))
    have c2_1_0 := B2_1.out.cell 0 (v := .int .i64 c) rfl
    have c2_1_1 := B2_1.out.cell 1 (v := .int .i64 d) rfl
    have c2_1_2 := B2_1.out.cell 2 (v := .int .i64 e) rfl
    have c2_1_3 := B2_1.out.cell 3 (v := .int .i64 f) rfl
    clear hb2
    go_wp2_with fail
    refine (specGrid_any a b g c d e f X Y r _ Q1.out Q2.out HX.out HY.out).mono ?_
    rintro e' w3 ⟨rfl, hb3⟩
    have z3 : w.heap.size + 2 ≤ w3.heap.size := Nat.le_trans z2 hb3.size
    have HB3 := Lib.hid (HB2.out.trans (hb3.mono (by omega)))
    clear c2_0_0 c2_0_1 c2_0_2 c2_0_3 c2_1_0 c2_1_1 c2_1_2 c2_1_3
    have B3_0 := Lib.hid (B2_0.out.below hb3 (by omega))
    have c3_0_0 := B3_0.out.cell 0 (v := .int .i64 a) rfl
    have c3_0_1 := B3_0.out.cell 1 (v := .int .i64 b) rfl
    have c3_0_2 := B3_0.out.cell 2 (v := .int .i64 g) rfl
    have c3_0_3 := B3_0.out.cell 3 (v := .bool r) rfl
    have B3_1 := Lib.hid (B2_1.out.below hb3 (by omega))
    have c3_1_0 := B3_1.out.cell 0 (v := .int .i64 c) rfl
    have c3_1_1 := B3_1.out.cell 1 (v := .int .i64 d) rfl
    have c3_1_2 := B3_1.out.cell 2 (v := .int .i64 e) rfl
    have c3_1_3 := B3_1.out.cell 3 (v := .int .i64 f) rfl
    clear hb3
    go_wp2_with fail
    go_ret
    exact ⟨rfl, HB3.out⟩
  · obtain rfl : (4 : Int) = k := hc.symm.trans hk
    obtain ⟨X, hX⟩ : ∃ X, Pr.ct a c e f = X := ⟨_, rfl⟩
    obtain ⟨Y, hY⟩ : ∃ Y, Pr.ct (b - g) d e f = Y := ⟨_, rfl⟩
    rw [hX, hY] at hz
    by_cases n1 : X = 0
    · subst n1
      have HX := Lib.hid hX
      have HY := Lib.hid hY
      have Q1 := Lib.hid hp
      have Q2 := Lib.hid ht
      clear hX hY hp ht hc hk hz
      have B0_0 := Lib.hid ((Blk.new (w := w) (g := w.heap.size) #[.int .i64 a, .int .i64 b, .int .i64 g, .bool r] 25 (by simp)).alloc (.cells #[.int .i64 c, .int .i64 d, .int .i64 e, .int .i64 f] 27))
      have B0_1 := Lib.hid (Blk.new (w := (w.alloc (.cells #[.int .i64 a, .int .i64 b, .int .i64 g, .bool r] 25))) (g := w.heap.size + 1) #[.int .i64 c, .int .i64 d, .int .i64 e, .int .i64 f] 27 (by simp))
      have HB0 := Lib.hid ((below_new w (.cells #[.int .i64 a, .int .i64 b, .int .i64 g, .bool r] 25)).alloc (by simp <;> omega) (.cells #[.int .i64 c, .int .i64 d, .int .i64 e, .int .i64 f] 27))
      have Z0 : ((w.alloc (.cells #[.int .i64 a, .int .i64 b, .int .i64 g, .bool r] 25)).alloc (.cells #[.int .i64 c, .int .i64 d, .int .i64 e, .int .i64 f] 27)).heap.size = w.heap.size + 2 := by simp
      have HZ0 := Lib.hid Z0
      clear Z0
      go_enter Try.func41, Try.ntmps41
      go_wp2_with fail
      refine (specPr_any a b g r true _ Q1.out).mono ?_
      rintro e' w1 ⟨rfl, hb1⟩
      have z1 : w.heap.size + 2 ≤ w1.heap.size := by have h_ := hb1.size; rw [HZ0.out] at h_; exact h_
      have HB1 := Lib.hid (HB0.out.trans (hb1.mono (by rw [HZ0.out]; omega)))
      have B1_0 := Lib.hid (B0_0.out.below hb1 (by rw [HZ0.out]; omega))
      have c1_0_0 := B1_0.out.cell 0 (v := .int .i64 a) rfl
      have c1_0_1 := B1_0.out.cell 1 (v := .int .i64 b) rfl
      have c1_0_2 := B1_0.out.cell 2 (v := .int .i64 g) rfl
      have c1_0_3 := B1_0.out.cell 3 (v := .bool r) rfl
      have B1_1 := Lib.hid (B0_1.out.below hb1 (by rw [HZ0.out]; omega))
      have c1_1_0 := B1_1.out.cell 0 (v := .int .i64 c) rfl
      have c1_1_1 := B1_1.out.cell 1 (v := .int .i64 d) rfl
      have c1_1_2 := B1_1.out.cell 2 (v := .int .i64 e) rfl
      have c1_1_3 := B1_1.out.cell 3 (v := .int .i64 f) rfl
      clear hb1
      go_wp2_with fail
      refine (specTm_any c d e f true _ Q2.out).mono ?_
      rintro e' w2 ⟨rfl, hb2⟩
      have z2 : w.heap.size + 2 ≤ w2.heap.size := Nat.le_trans z1 hb2.size
      have HB2 := Lib.hid (HB1.out.trans (hb2.mono (by omega)))
      clear c1_0_0 c1_0_1 c1_0_2 c1_0_3 c1_1_0 c1_1_1 c1_1_2 c1_1_3
      have B2_0 := Lib.hid (B1_0.out.below hb2 (by omega))
      have c2_0_0 := B2_0.out.cell 0 (v := .int .i64 a) rfl
      have c2_0_1 := B2_0.out.cell 1 (v := .int .i64 b) rfl
      have c2_0_2 := B2_0.out.cell 2 (v := .int .i64 g) rfl
      have c2_0_3 := B2_0.out.cell 3 (v := .bool r) rfl
      have B2_1 := Lib.hid (B1_1.out.below hb2 (by omega))
      have c2_1_0 := B2_1.out.cell 0 (v := .int .i64 c) rfl
      have c2_1_1 := B2_1.out.cell 1 (v := .int .i64 d) rfl
      have c2_1_2 := B2_1.out.cell 2 (v := .int .i64 e) rfl
      have c2_1_3 := B2_1.out.cell 3 (v := .int .i64 f) rfl
      clear hb2
      go_wp2_with fail
      refine (specGrid_any a b g c d e f 0 Y r _ Q1.out Q2.out HX.out HY.out).mono ?_
      rintro e' w3 ⟨rfl, hb3⟩
      have z3 : w.heap.size + 2 ≤ w3.heap.size := Nat.le_trans z2 hb3.size
      have HB3 := Lib.hid (HB2.out.trans (hb3.mono (by omega)))
      clear c2_0_0 c2_0_1 c2_0_2 c2_0_3 c2_1_0 c2_1_1 c2_1_2 c2_1_3
      have B3_0 := Lib.hid (B2_0.out.below hb3 (by omega))
      have c3_0_0 := B3_0.out.cell 0 (v := .int .i64 a) rfl
      have c3_0_1 := B3_0.out.cell 1 (v := .int .i64 b) rfl
      have c3_0_2 := B3_0.out.cell 2 (v := .int .i64 g) rfl
      have c3_0_3 := B3_0.out.cell 3 (v := .bool r) rfl
      have B3_1 := Lib.hid (B2_1.out.below hb3 (by omega))
      have c3_1_0 := B3_1.out.cell 0 (v := .int .i64 c) rfl
      have c3_1_1 := B3_1.out.cell 1 (v := .int .i64 d) rfl
      have c3_1_2 := B3_1.out.cell 2 (v := .int .i64 e) rfl
      have c3_1_3 := B3_1.out.cell 3 (v := .int .i64 f) rfl
      clear hb3
      go_wp2_with fail
      go_ret
      exact ⟨rfl, HB3.out⟩
    · have n1' : (X == 0) = false := by simpa using n1
      obtain rfl : Y = 0 := by rcases hz with h | h; exact absurd h n1; exact h
      have HX := Lib.hid hX
      have HY := Lib.hid hY
      have Q1 := Lib.hid hp
      have Q2 := Lib.hid ht
      clear hX hY hp ht hc hk hz
      have B0_0 := Lib.hid ((Blk.new (w := w) (g := w.heap.size) #[.int .i64 a, .int .i64 b, .int .i64 g, .bool r] 25 (by simp)).alloc (.cells #[.int .i64 c, .int .i64 d, .int .i64 e, .int .i64 f] 27))
      have B0_1 := Lib.hid (Blk.new (w := (w.alloc (.cells #[.int .i64 a, .int .i64 b, .int .i64 g, .bool r] 25))) (g := w.heap.size + 1) #[.int .i64 c, .int .i64 d, .int .i64 e, .int .i64 f] 27 (by simp))
      have HB0 := Lib.hid ((below_new w (.cells #[.int .i64 a, .int .i64 b, .int .i64 g, .bool r] 25)).alloc (by simp <;> omega) (.cells #[.int .i64 c, .int .i64 d, .int .i64 e, .int .i64 f] 27))
      have Z0 : ((w.alloc (.cells #[.int .i64 a, .int .i64 b, .int .i64 g, .bool r] 25)).alloc (.cells #[.int .i64 c, .int .i64 d, .int .i64 e, .int .i64 f] 27)).heap.size = w.heap.size + 2 := by simp
      have HZ0 := Lib.hid Z0
      clear Z0
      go_enter Try.func41, Try.ntmps41
      go_wp2_with fail
      refine (specPr_any a b g r true _ Q1.out).mono ?_
      rintro e' w1 ⟨rfl, hb1⟩
      have z1 : w.heap.size + 2 ≤ w1.heap.size := by have h_ := hb1.size; rw [HZ0.out] at h_; exact h_
      have HB1 := Lib.hid (HB0.out.trans (hb1.mono (by rw [HZ0.out]; omega)))
      have B1_0 := Lib.hid (B0_0.out.below hb1 (by rw [HZ0.out]; omega))
      have c1_0_0 := B1_0.out.cell 0 (v := .int .i64 a) rfl
      have c1_0_1 := B1_0.out.cell 1 (v := .int .i64 b) rfl
      have c1_0_2 := B1_0.out.cell 2 (v := .int .i64 g) rfl
      have c1_0_3 := B1_0.out.cell 3 (v := .bool r) rfl
      have B1_1 := Lib.hid (B0_1.out.below hb1 (by rw [HZ0.out]; omega))
      have c1_1_0 := B1_1.out.cell 0 (v := .int .i64 c) rfl
      have c1_1_1 := B1_1.out.cell 1 (v := .int .i64 d) rfl
      have c1_1_2 := B1_1.out.cell 2 (v := .int .i64 e) rfl
      have c1_1_3 := B1_1.out.cell 3 (v := .int .i64 f) rfl
      clear hb1
      go_wp2_with fail
      refine (specTm_any c d e f true _ Q2.out).mono ?_
      rintro e' w2 ⟨rfl, hb2⟩
      have z2 : w.heap.size + 2 ≤ w2.heap.size := Nat.le_trans z1 hb2.size
      have HB2 := Lib.hid (HB1.out.trans (hb2.mono (by omega)))
      clear c1_0_0 c1_0_1 c1_0_2 c1_0_3 c1_1_0 c1_1_1 c1_1_2 c1_1_3
      have B2_0 := Lib.hid (B1_0.out.below hb2 (by omega))
      have c2_0_0 := B2_0.out.cell 0 (v := .int .i64 a) rfl
      have c2_0_1 := B2_0.out.cell 1 (v := .int .i64 b) rfl
      have c2_0_2 := B2_0.out.cell 2 (v := .int .i64 g) rfl
      have c2_0_3 := B2_0.out.cell 3 (v := .bool r) rfl
      have B2_1 := Lib.hid (B1_1.out.below hb2 (by omega))
      have c2_1_0 := B2_1.out.cell 0 (v := .int .i64 c) rfl
      have c2_1_1 := B2_1.out.cell 1 (v := .int .i64 d) rfl
      have c2_1_2 := B2_1.out.cell 2 (v := .int .i64 e) rfl
      have c2_1_3 := B2_1.out.cell 3 (v := .int .i64 f) rfl
      clear hb2
      go_wp2_with fail
      refine (specGrid_any a b g c d e f X 0 r _ Q1.out Q2.out HX.out HY.out).mono ?_
      rintro e' w3 ⟨rfl, hb3⟩
      have z3 : w.heap.size + 2 ≤ w3.heap.size := Nat.le_trans z2 hb3.size
      have HB3 := Lib.hid (HB2.out.trans (hb3.mono (by omega)))
      clear c2_0_0 c2_0_1 c2_0_2 c2_0_3 c2_1_0 c2_1_1 c2_1_2 c2_1_3
      have B3_0 := Lib.hid (B2_0.out.below hb3 (by omega))
      have c3_0_0 := B3_0.out.cell 0 (v := .int .i64 a) rfl
      have c3_0_1 := B3_0.out.cell 1 (v := .int .i64 b) rfl
      have c3_0_2 := B3_0.out.cell 2 (v := .int .i64 g) rfl
      have c3_0_3 := B3_0.out.cell 3 (v := .bool r) rfl
      have B3_1 := Lib.hid (B2_1.out.below hb3 (by omega))
      have c3_1_0 := B3_1.out.cell 0 (v := .int .i64 c) rfl
      have c3_1_1 := B3_1.out.cell 1 (v := .int .i64 d) rfl
      have c3_1_2 := B3_1.out.cell 2 (v := .int .i64 e) rfl
      have c3_1_3 := B3_1.out.cell 3 (v := .int .i64 f) rfl
      clear hb3
      go_wp2_with fail
      go_ret
      exact ⟨rfl, HB3.out⟩
  · obtain rfl : (1 : Int) = k := hc.symm.trans hk
    clear hc hk
    rcases Pr.both_no hb with h1 | ⟨h1, h2⟩
    · have Q1 := Lib.hid h1
      clear hb h1
      have B0_0 := Lib.hid ((Blk.new (w := w) (g := w.heap.size) #[.int .i64 a, .int .i64 b, .int .i64 g, .bool r] 25 (by simp)).alloc (.cells #[.int .i64 c, .int .i64 d, .int .i64 e, .int .i64 f] 27))
      have B0_1 := Lib.hid (Blk.new (w := (w.alloc (.cells #[.int .i64 a, .int .i64 b, .int .i64 g, .bool r] 25))) (g := w.heap.size + 1) #[.int .i64 c, .int .i64 d, .int .i64 e, .int .i64 f] 27 (by simp))
      have HB0 := Lib.hid ((below_new w (.cells #[.int .i64 a, .int .i64 b, .int .i64 g, .bool r] 25)).alloc (by simp <;> omega) (.cells #[.int .i64 c, .int .i64 d, .int .i64 e, .int .i64 f] 27))
      have Z0 : ((w.alloc (.cells #[.int .i64 a, .int .i64 b, .int .i64 g, .bool r] 25)).alloc (.cells #[.int .i64 c, .int .i64 d, .int .i64 e, .int .i64 f] 27)).heap.size = w.heap.size + 2 := by simp
      have HZ0 := Lib.hid Z0
      clear Z0
      go_enter Try.func41, Try.ntmps41
      go_wp2_with fail
      refine (specPr_any a b g r false _ Q1.out).mono ?_
      rintro e' w1 ⟨rfl, hb1⟩
      have z1 : w.heap.size + 2 ≤ w1.heap.size := by have h_ := hb1.size; rw [HZ0.out] at h_; exact h_
      have HB1 := Lib.hid (HB0.out.trans (hb1.mono (by rw [HZ0.out]; omega)))
      have B1_0 := Lib.hid (B0_0.out.below hb1 (by rw [HZ0.out]; omega))
      have c1_0_0 := B1_0.out.cell 0 (v := .int .i64 a) rfl
      have c1_0_1 := B1_0.out.cell 1 (v := .int .i64 b) rfl
      have c1_0_2 := B1_0.out.cell 2 (v := .int .i64 g) rfl
      have c1_0_3 := B1_0.out.cell 3 (v := .bool r) rfl
      have B1_1 := Lib.hid (B0_1.out.below hb1 (by rw [HZ0.out]; omega))
      have c1_1_0 := B1_1.out.cell 0 (v := .int .i64 c) rfl
      have c1_1_1 := B1_1.out.cell 1 (v := .int .i64 d) rfl
      have c1_1_2 := B1_1.out.cell 2 (v := .int .i64 e) rfl
      have c1_1_3 := B1_1.out.cell 3 (v := .int .i64 f) rfl
      clear hb1
      go_wp2_with fail
      go_ret
      exact ⟨rfl, HB1.out⟩
    · have Q1 := Lib.hid h1
      have Q2 := Lib.hid h2
      clear hb h1 h2
      have B0_0 := Lib.hid ((Blk.new (w := w) (g := w.heap.size) #[.int .i64 a, .int .i64 b, .int .i64 g, .bool r] 25 (by simp)).alloc (.cells #[.int .i64 c, .int .i64 d, .int .i64 e, .int .i64 f] 27))
      have B0_1 := Lib.hid (Blk.new (w := (w.alloc (.cells #[.int .i64 a, .int .i64 b, .int .i64 g, .bool r] 25))) (g := w.heap.size + 1) #[.int .i64 c, .int .i64 d, .int .i64 e, .int .i64 f] 27 (by simp))
      have HB0 := Lib.hid ((below_new w (.cells #[.int .i64 a, .int .i64 b, .int .i64 g, .bool r] 25)).alloc (by simp <;> omega) (.cells #[.int .i64 c, .int .i64 d, .int .i64 e, .int .i64 f] 27))
      have Z0 : ((w.alloc (.cells #[.int .i64 a, .int .i64 b, .int .i64 g, .bool r] 25)).alloc (.cells #[.int .i64 c, .int .i64 d, .int .i64 e, .int .i64 f] 27)).heap.size = w.heap.size + 2 := by simp
      have HZ0 := Lib.hid Z0
      clear Z0
      go_enter Try.func41, Try.ntmps41
      go_wp2_with fail
      refine (specPr_any a b g r true _ Q1.out).mono ?_
      rintro e' w1 ⟨rfl, hb1⟩
      have z1 : w.heap.size + 2 ≤ w1.heap.size := by have h_ := hb1.size; rw [HZ0.out] at h_; exact h_
      have HB1 := Lib.hid (HB0.out.trans (hb1.mono (by rw [HZ0.out]; omega)))
      have B1_0 := Lib.hid (B0_0.out.below hb1 (by rw [HZ0.out]; omega))
      have c1_0_0 := B1_0.out.cell 0 (v := .int .i64 a) rfl
      have c1_0_1 := B1_0.out.cell 1 (v := .int .i64 b) rfl
      have c1_0_2 := B1_0.out.cell 2 (v := .int .i64 g) rfl
      have c1_0_3 := B1_0.out.cell 3 (v := .bool r) rfl
      have B1_1 := Lib.hid (B0_1.out.below hb1 (by rw [HZ0.out]; omega))
      have c1_1_0 := B1_1.out.cell 0 (v := .int .i64 c) rfl
      have c1_1_1 := B1_1.out.cell 1 (v := .int .i64 d) rfl
      have c1_1_2 := B1_1.out.cell 2 (v := .int .i64 e) rfl
      have c1_1_3 := B1_1.out.cell 3 (v := .int .i64 f) rfl
      clear hb1
      go_wp2_with fail
      refine (specTm_any c d e f false _ Q2.out).mono ?_
      rintro e' w2 ⟨rfl, hb2⟩
      have z2 : w.heap.size + 2 ≤ w2.heap.size := Nat.le_trans z1 hb2.size
      have HB2 := Lib.hid (HB1.out.trans (hb2.mono (by omega)))
      clear c1_0_0 c1_0_1 c1_0_2 c1_0_3 c1_1_0 c1_1_1 c1_1_2 c1_1_3
      have B2_0 := Lib.hid (B1_0.out.below hb2 (by omega))
      have c2_0_0 := B2_0.out.cell 0 (v := .int .i64 a) rfl
      have c2_0_1 := B2_0.out.cell 1 (v := .int .i64 b) rfl
      have c2_0_2 := B2_0.out.cell 2 (v := .int .i64 g) rfl
      have c2_0_3 := B2_0.out.cell 3 (v := .bool r) rfl
      have B2_1 := Lib.hid (B1_1.out.below hb2 (by omega))
      have c2_1_0 := B2_1.out.cell 0 (v := .int .i64 c) rfl
      have c2_1_1 := B2_1.out.cell 1 (v := .int .i64 d) rfl
      have c2_1_2 := B2_1.out.cell 2 (v := .int .i64 e) rfl
      have c2_1_3 := B2_1.out.cell 3 (v := .int .i64 f) rfl
      clear hb2
      go_wp2_with fail
      go_ret
      exact ⟨rfl, HB2.out⟩

set_option maxRecDepth 100000 in
set_option maxHeartbeats 2000000 in
theorem specGd_any (a b g c d e f x y k : Int) (r : Bool) (w : World) (hx : Pr.gdR a b g c d e f = x) (hy : Pr.gdS a b g c d e f = y) (hk : Pr.gdC a b g c d e f = k) :
    Calls Try.prog 16 #[PV a b g r, TV c d e f] w fun e' w' => e' = .returned (.tuple #[.int .i64 x, .int .i64 y, .int .i64 k]) ∧ Below w.heap.size w w' := by
  have HK := Lib.hid hk
  rcases Pr.gd_cases a b g c d e f with ⟨_, hp, ht, _, _, hr, hs, hc, _⟩ | ⟨_, hp, ht, hz, hr, hs, hc, _⟩ | ⟨_, hb, hr, hs, hc⟩
  · obtain rfl : (0 : Int) = k := hc.symm.trans hk
    have HX : Hid (Pr.ct a c e f = x) := Lib.hid (hr.symm.trans hx)
    have HY : Hid (Pr.ct (b - g) d e f = y) := Lib.hid (hs.symm.trans hy)
    have Q1 := Lib.hid hp
    have Q2 := Lib.hid ht
    clear hx hy hk hp ht hr hs hc
    have B0_0 := Lib.hid ((Blk.new (w := w) (g := w.heap.size) #[.int .i64 a, .int .i64 b, .int .i64 g, .bool r] 25 (by simp)).alloc (.cells #[.int .i64 c, .int .i64 d, .int .i64 e, .int .i64 f] 27))
    have B0_1 := Lib.hid (Blk.new (w := (w.alloc (.cells #[.int .i64 a, .int .i64 b, .int .i64 g, .bool r] 25))) (g := w.heap.size + 1) #[.int .i64 c, .int .i64 d, .int .i64 e, .int .i64 f] 27 (by simp))
    have HB0 := Lib.hid ((below_new w (.cells #[.int .i64 a, .int .i64 b, .int .i64 g, .bool r] 25)).alloc (by simp <;> omega) (.cells #[.int .i64 c, .int .i64 d, .int .i64 e, .int .i64 f] 27))
    have Z0 : ((w.alloc (.cells #[.int .i64 a, .int .i64 b, .int .i64 g, .bool r] 25)).alloc (.cells #[.int .i64 c, .int .i64 d, .int .i64 e, .int .i64 f] 27)).heap.size = w.heap.size + 2 := by simp
    have HZ0 := Lib.hid Z0
    clear Z0
    go_enter Try.func16, Try.ntmps16
    go_wp2_with fail
    refine (specCode8_any a b g c d e f 0 r _ HK.out).mono ?_
    rintro e' w1 ⟨rfl, hb1⟩
    have z1 : w.heap.size + 2 ≤ w1.heap.size := by have h_ := hb1.size; rw [HZ0.out] at h_; exact h_
    have HB1 := Lib.hid (HB0.out.trans (hb1.mono (by rw [HZ0.out]; omega)))
    have B1_0 := Lib.hid (B0_0.out.below hb1 (by rw [HZ0.out]; omega))
    have c1_0_0 := B1_0.out.cell 0 (v := .int .i64 a) rfl
    have c1_0_1 := B1_0.out.cell 1 (v := .int .i64 b) rfl
    have c1_0_2 := B1_0.out.cell 2 (v := .int .i64 g) rfl
    have c1_0_3 := B1_0.out.cell 3 (v := .bool r) rfl
    have B1_1 := Lib.hid (B0_1.out.below hb1 (by rw [HZ0.out]; omega))
    have c1_1_0 := B1_1.out.cell 0 (v := .int .i64 c) rfl
    have c1_1_1 := B1_1.out.cell 1 (v := .int .i64 d) rfl
    have c1_1_2 := B1_1.out.cell 2 (v := .int .i64 e) rfl
    have c1_1_3 := B1_1.out.cell 3 (v := .int .i64 f) rfl
    clear hb1
    go_wp2_with fail
    refine (specGrid_any a b g c d e f x y r _ Q1.out Q2.out HX.out HY.out).mono ?_
    rintro e' w2 ⟨rfl, hb2⟩
    have z2 : w.heap.size + 2 ≤ w2.heap.size := Nat.le_trans z1 hb2.size
    have HB2 := Lib.hid (HB1.out.trans (hb2.mono (by omega)))
    clear c1_0_0 c1_0_1 c1_0_2 c1_0_3 c1_1_0 c1_1_1 c1_1_2 c1_1_3
    have B2_0 := Lib.hid (B1_0.out.below hb2 (by omega))
    have c2_0_0 := B2_0.out.cell 0 (v := .int .i64 a) rfl
    have c2_0_1 := B2_0.out.cell 1 (v := .int .i64 b) rfl
    have c2_0_2 := B2_0.out.cell 2 (v := .int .i64 g) rfl
    have c2_0_3 := B2_0.out.cell 3 (v := .bool r) rfl
    have B2_1 := Lib.hid (B1_1.out.below hb2 (by omega))
    have c2_1_0 := B2_1.out.cell 0 (v := .int .i64 c) rfl
    have c2_1_1 := B2_1.out.cell 1 (v := .int .i64 d) rfl
    have c2_1_2 := B2_1.out.cell 2 (v := .int .i64 e) rfl
    have c2_1_3 := B2_1.out.cell 3 (v := .int .i64 f) rfl
    clear hb2
    go_wp2_with fail
    go_ret3
    exact ⟨rfl, HB2.out⟩
  · obtain rfl : (4 : Int) = k := hc.symm.trans hk
    obtain rfl : (0 : Int) = x := hr.symm.trans hx
    obtain rfl : (0 : Int) = y := hs.symm.trans hy
    clear hx hy hk hr hs hc hp ht hz
    have B0_0 := Lib.hid ((Blk.new (w := w) (g := w.heap.size) #[.int .i64 a, .int .i64 b, .int .i64 g, .bool r] 25 (by simp)).alloc (.cells #[.int .i64 c, .int .i64 d, .int .i64 e, .int .i64 f] 27))
    have B0_1 := Lib.hid (Blk.new (w := (w.alloc (.cells #[.int .i64 a, .int .i64 b, .int .i64 g, .bool r] 25))) (g := w.heap.size + 1) #[.int .i64 c, .int .i64 d, .int .i64 e, .int .i64 f] 27 (by simp))
    have HB0 := Lib.hid ((below_new w (.cells #[.int .i64 a, .int .i64 b, .int .i64 g, .bool r] 25)).alloc (by simp <;> omega) (.cells #[.int .i64 c, .int .i64 d, .int .i64 e, .int .i64 f] 27))
    have Z0 : ((w.alloc (.cells #[.int .i64 a, .int .i64 b, .int .i64 g, .bool r] 25)).alloc (.cells #[.int .i64 c, .int .i64 d, .int .i64 e, .int .i64 f] 27)).heap.size = w.heap.size + 2 := by simp
    have HZ0 := Lib.hid Z0
    clear Z0
    go_enter Try.func16, Try.ntmps16
    go_wp2_with fail
    refine (specCode8_any a b g c d e f 4 r _ HK.out).mono ?_
    rintro e' w1 ⟨rfl, hb1⟩
    have z1 : w.heap.size + 2 ≤ w1.heap.size := by have h_ := hb1.size; rw [HZ0.out] at h_; exact h_
    have HB1 := Lib.hid (HB0.out.trans (hb1.mono (by rw [HZ0.out]; omega)))
    have B1_0 := Lib.hid (B0_0.out.below hb1 (by rw [HZ0.out]; omega))
    have c1_0_0 := B1_0.out.cell 0 (v := .int .i64 a) rfl
    have c1_0_1 := B1_0.out.cell 1 (v := .int .i64 b) rfl
    have c1_0_2 := B1_0.out.cell 2 (v := .int .i64 g) rfl
    have c1_0_3 := B1_0.out.cell 3 (v := .bool r) rfl
    have B1_1 := Lib.hid (B0_1.out.below hb1 (by rw [HZ0.out]; omega))
    have c1_1_0 := B1_1.out.cell 0 (v := .int .i64 c) rfl
    have c1_1_1 := B1_1.out.cell 1 (v := .int .i64 d) rfl
    have c1_1_2 := B1_1.out.cell 2 (v := .int .i64 e) rfl
    have c1_1_3 := B1_1.out.cell 3 (v := .int .i64 f) rfl
    clear hb1
    go_wp2_with fail
    go_ret3
    exact ⟨rfl, HB1.out⟩
  · obtain rfl : (1 : Int) = k := hc.symm.trans hk
    obtain rfl : (0 : Int) = x := hr.symm.trans hx
    obtain rfl : (0 : Int) = y := hs.symm.trans hy
    clear hx hy hk hr hs hc hb
    have B0_0 := Lib.hid ((Blk.new (w := w) (g := w.heap.size) #[.int .i64 a, .int .i64 b, .int .i64 g, .bool r] 25 (by simp)).alloc (.cells #[.int .i64 c, .int .i64 d, .int .i64 e, .int .i64 f] 27))
    have B0_1 := Lib.hid (Blk.new (w := (w.alloc (.cells #[.int .i64 a, .int .i64 b, .int .i64 g, .bool r] 25))) (g := w.heap.size + 1) #[.int .i64 c, .int .i64 d, .int .i64 e, .int .i64 f] 27 (by simp))
    have HB0 := Lib.hid ((below_new w (.cells #[.int .i64 a, .int .i64 b, .int .i64 g, .bool r] 25)).alloc (by simp <;> omega) (.cells #[.int .i64 c, .int .i64 d, .int .i64 e, .int .i64 f] 27))
    have Z0 : ((w.alloc (.cells #[.int .i64 a, .int .i64 b, .int .i64 g, .bool r] 25)).alloc (.cells #[.int .i64 c, .int .i64 d, .int .i64 e, .int .i64 f] 27)).heap.size = w.heap.size + 2 := by simp
    have HZ0 := Lib.hid Z0
    clear Z0
    go_enter Try.func16, Try.ntmps16
    go_wp2_with fail
    refine (specCode8_any a b g c d e f 1 r _ HK.out).mono ?_
    rintro e' w1 ⟨rfl, hb1⟩
    have z1 : w.heap.size + 2 ≤ w1.heap.size := by have h_ := hb1.size; rw [HZ0.out] at h_; exact h_
    have HB1 := Lib.hid (HB0.out.trans (hb1.mono (by rw [HZ0.out]; omega)))
    have B1_0 := Lib.hid (B0_0.out.below hb1 (by rw [HZ0.out]; omega))
    have c1_0_0 := B1_0.out.cell 0 (v := .int .i64 a) rfl
    have c1_0_1 := B1_0.out.cell 1 (v := .int .i64 b) rfl
    have c1_0_2 := B1_0.out.cell 2 (v := .int .i64 g) rfl
    have c1_0_3 := B1_0.out.cell 3 (v := .bool r) rfl
    have B1_1 := Lib.hid (B0_1.out.below hb1 (by rw [HZ0.out]; omega))
    have c1_1_0 := B1_1.out.cell 0 (v := .int .i64 c) rfl
    have c1_1_1 := B1_1.out.cell 1 (v := .int .i64 d) rfl
    have c1_1_2 := B1_1.out.cell 2 (v := .int .i64 e) rfl
    have c1_1_3 := B1_1.out.cell 3 (v := .int .i64 f) rfl
    clear hb1
    go_wp2_with fail
    go_ret3
    exact ⟨rfl, HB1.out⟩

set_option maxRecDepth 100000 in
set_option maxHeartbeats 2000000 in
theorem implGd_any (a b g c d e f x y k : Int) (r : Bool) (w : World) (hx : Pr.gdR a b g c d e f = x) (hy : Pr.gdS a b g c d e f = y) (hk : Pr.gdC a b g c d e f = k) :
    Calls Try.prog 15 #[PV a b g r, TV c d e f] w fun e' w' => e' = .returned (.tuple #[.int .i64 x, .int .i64 y, .int .i64 k]) ∧ Below w.heap.size w w' := by
  rcases Pr.gd_cases a b g c d e f with ⟨_, hp, ht, n1, n2, hr, hs, hc, hu, hv⟩ | ⟨_, hp, ht, hz, hr, hs, hc, hu, hv⟩ | ⟨_, hb, hr, hs, hc⟩
  · obtain rfl : (0 : Int) = k := hc.symm.trans hk
    have HX : Hid (Pr.cnR a b g c d e f = x) := Lib.hid (hu.trans (hr.symm.trans hx))
    have HY : Hid (Pr.cnS a b g c d e f = y) := Lib.hid (hv.trans (hs.symm.trans hy))
    have n0 : ¬ x = 0 := by rw [← hx, hr]; exact n1
    have n0' : (x == 0) = false := by simpa using n0
    have Q1 := Lib.hid hp
    have Q2 := Lib.hid ht
    clear hx hy hk hp ht hr hs hc hu hv n1 n2
    have B0_0 := Lib.hid ((Blk.new (w := w) (g := w.heap.size) #[.int .i64 a, .int .i64 b, .int .i64 g, .bool r] 25 (by simp)).alloc (.cells #[.int .i64 c, .int .i64 d, .int .i64 e, .int .i64 f] 27))
    have B0_1 := Lib.hid (Blk.new (w := (w.alloc (.cells #[.int .i64 a, .int .i64 b, .int .i64 g, .bool r] 25))) (g := w.heap.size + 1) #[.int .i64 c, .int .i64 d, .int .i64 e, .int .i64 f] 27 (by simp))
    have HB0 := Lib.hid ((below_new w (.cells #[.int .i64 a, .int .i64 b, .int .i64 g, .bool r] 25)).alloc (by simp <;> omega) (.cells #[.int .i64 c, .int .i64 d, .int .i64 e, .int .i64 f] 27))
    have Z0 : ((w.alloc (.cells #[.int .i64 a, .int .i64 b, .int .i64 g, .bool r] 25)).alloc (.cells #[.int .i64 c, .int .i64 d, .int .i64 e, .int .i64 f] 27)).heap.size = w.heap.size + 2 := by simp
    have HZ0 := Lib.hid Z0
    clear Z0
    go_enter Try.func15, Try.ntmps15
    go_wp2_with fail
    refine (implPr_any a b g r true _ Q1.out).mono ?_
    rintro e' w1 ⟨rfl, hb1⟩
    have z1 : w.heap.size + 2 ≤ w1.heap.size := by have h_ := hb1.size; rw [HZ0.out] at h_; exact h_
    have HB1 := Lib.hid (HB0.out.trans (hb1.mono (by rw [HZ0.out]; omega)))
    have B1_0 := Lib.hid (B0_0.out.below hb1 (by rw [HZ0.out]; omega))
    have c1_0_0 := B1_0.out.cell 0 (v := .int .i64 a) rfl
    have c1_0_1 := B1_0.out.cell 1 (v := .int .i64 b) rfl
    have c1_0_2 := B1_0.out.cell 2 (v := .int .i64 g) rfl
    have c1_0_3 := B1_0.out.cell 3 (v := .bool r) rfl
    have B1_1 := Lib.hid (B0_1.out.below hb1 (by rw [HZ0.out]; omega))
    have c1_1_0 := B1_1.out.cell 0 (v := .int .i64 c) rfl
    have c1_1_1 := B1_1.out.cell 1 (v := .int .i64 d) rfl
    have c1_1_2 := B1_1.out.cell 2 (v := .int .i64 e) rfl
    have c1_1_3 := B1_1.out.cell 3 (v := .int .i64 f) rfl
    clear hb1
    go_wp2_with fail
    refine (implTm_any c d e f true _ Q2.out).mono ?_
    rintro e' w2 ⟨rfl, hb2⟩
    have z2 : w.heap.size + 2 ≤ w2.heap.size := Nat.le_trans z1 hb2.size
    have HB2 := Lib.hid (HB1.out.trans (hb2.mono (by omega)))
    clear c1_0_0 c1_0_1 c1_0_2 c1_0_3 c1_1_0 c1_1_1 c1_1_2 c1_1_3
    have B2_0 := Lib.hid (B1_0.out.below hb2 (by omega))
    have c2_0_0 := B2_0.out.cell 0 (v := .int .i64 a) rfl
    have c2_0_1 := B2_0.out.cell 1 (v := .int .i64 b) rfl
    have c2_0_2 := B2_0.out.cell 2 (v := .int .i64 g) rfl
    have c2_0_3 := B2_0.out.cell 3 (v := .bool r) rfl
    have B2_1 := Lib.hid (B1_1.out.below hb2 (by omega))
    have c2_1_0 := B2_1.out.cell 0 (v := .int .i64 c) rfl
    have c2_1_1 := B2_1.out.cell 1 (v := .int .i64 d) rfl
    have c2_1_2 := B2_1.out.cell 2 (v := .int .i64 e) rfl
    have c2_1_3 := B2_1.out.cell 3 (v := .int .i64 f) rfl
    clear hb2
    go_wp2_with fail
    refine (counts_any a b g c d e f x y r _ Q1.out Q2.out HX.out HY.out).mono ?_
    rintro e' w3 ⟨rfl, hb3⟩
    have z3 : w.heap.size + 2 ≤ w3.heap.size := Nat.le_trans z2 hb3.size
    have HB3 := Lib.hid (HB2.out.trans (hb3.mono (by omega)))
    clear c2_0_0 c2_0_1 c2_0_2 c2_0_3 c2_1_0 c2_1_1 c2_1_2 c2_1_3
    have B3_0 := Lib.hid (B2_0.out.below hb3 (by omega))
    have c3_0_0 := B3_0.out.cell 0 (v := .int .i64 a) rfl
    have c3_0_1 := B3_0.out.cell 1 (v := .int .i64 b) rfl
    have c3_0_2 := B3_0.out.cell 2 (v := .int .i64 g) rfl
    have c3_0_3 := B3_0.out.cell 3 (v := .bool r) rfl
    have B3_1 := Lib.hid (B2_1.out.below hb3 (by omega))
    have c3_1_0 := B3_1.out.cell 0 (v := .int .i64 c) rfl
    have c3_1_1 := B3_1.out.cell 1 (v := .int .i64 d) rfl
    have c3_1_2 := B3_1.out.cell 2 (v := .int .i64 e) rfl
    have c3_1_3 := B3_1.out.cell 3 (v := .int .i64 f) rfl
    clear hb3
    go_wp2_with fail
    go_ret3
    exact ⟨rfl, HB3.out⟩
  · obtain rfl : (4 : Int) = k := hc.symm.trans hk
    obtain rfl : (0 : Int) = x := hr.symm.trans hx
    obtain rfl : (0 : Int) = y := hs.symm.trans hy
    have HX := Lib.hid hu
    have HY := Lib.hid hv
    have Q1 := Lib.hid hp
    have Q2 := Lib.hid ht
    clear hx hy hk hp ht hr hs hc hu hv hz
    have B0_0 := Lib.hid ((Blk.new (w := w) (g := w.heap.size) #[.int .i64 a, .int .i64 b, .int .i64 g, .bool r] 25 (by simp)).alloc (.cells #[.int .i64 c, .int .i64 d, .int .i64 e, .int .i64 f] 27))
    have B0_1 := Lib.hid (Blk.new (w := (w.alloc (.cells #[.int .i64 a, .int .i64 b, .int .i64 g, .bool r] 25))) (g := w.heap.size + 1) #[.int .i64 c, .int .i64 d, .int .i64 e, .int .i64 f] 27 (by simp))
    have HB0 := Lib.hid ((below_new w (.cells #[.int .i64 a, .int .i64 b, .int .i64 g, .bool r] 25)).alloc (by simp <;> omega) (.cells #[.int .i64 c, .int .i64 d, .int .i64 e, .int .i64 f] 27))
    have Z0 : ((w.alloc (.cells #[.int .i64 a, .int .i64 b, .int .i64 g, .bool r] 25)).alloc (.cells #[.int .i64 c, .int .i64 d, .int .i64 e, .int .i64 f] 27)).heap.size = w.heap.size + 2 := by simp
    have HZ0 := Lib.hid Z0
    clear Z0
    go_enter Try.func15, Try.ntmps15
    go_wp2_with fail
    refine (implPr_any a b g r true _ Q1.out).mono ?_
    rintro e' w1 ⟨rfl, hb1⟩
    have z1 : w.heap.size + 2 ≤ w1.heap.size := by have h_ := hb1.size; rw [HZ0.out] at h_; exact h_
    have HB1 := Lib.hid (HB0.out.trans (hb1.mono (by rw [HZ0.out]; omega)))
    have B1_0 := Lib.hid (B0_0.out.below hb1 (by rw [HZ0.out]; omega))
    have c1_0_0 := B1_0.out.cell 0 (v := .int .i64 a) rfl
    have c1_0_1 := B1_0.out.cell 1 (v := .int .i64 b) rfl
    have c1_0_2 := B1_0.out.cell 2 (v := .int .i64 g) rfl
    have c1_0_3 := B1_0.out.cell 3 (v := .bool r) rfl
    have B1_1 := Lib.hid (B0_1.out.below hb1 (by rw [HZ0.out]; omega))
    have c1_1_0 := B1_1.out.cell 0 (v := .int .i64 c) rfl
    have c1_1_1 := B1_1.out.cell 1 (v := .int .i64 d) rfl
    have c1_1_2 := B1_1.out.cell 2 (v := .int .i64 e) rfl
    have c1_1_3 := B1_1.out.cell 3 (v := .int .i64 f) rfl
    clear hb1
    go_wp2_with fail
    refine (implTm_any c d e f true _ Q2.out).mono ?_
    rintro e' w2 ⟨rfl, hb2⟩
    have z2 : w.heap.size + 2 ≤ w2.heap.size := Nat.le_trans z1 hb2.size
    have HB2 := Lib.hid (HB1.out.trans (hb2.mono (by omega)))
    clear c1_0_0 c1_0_1 c1_0_2 c1_0_3 c1_1_0 c1_1_1 c1_1_2 c1_1_3
    have B2_0 := Lib.hid (B1_0.out.below hb2 (by omega))
    have c2_0_0 := B2_0.out.cell 0 (v := .int .i64 a) rfl
    have c2_0_1 := B2_0.out.cell 1 (v := .int .i64 b) rfl
    have c2_0_2 := B2_0.out.cell 2 (v := .int .i64 g) rfl
    have c2_0_3 := B2_0.out.cell 3 (v := .bool r) rfl
    have B2_1 := Lib.hid (B1_1.out.below hb2 (by omega))
    have c2_1_0 := B2_1.out.cell 0 (v := .int .i64 c) rfl
    have c2_1_1 := B2_1.out.cell 1 (v := .int .i64 d) rfl
    have c2_1_2 := B2_1.out.cell 2 (v := .int .i64 e) rfl
    have c2_1_3 := B2_1.out.cell 3 (v := .int .i64 f) rfl
    clear hb2
    go_wp2_with fail
    refine (counts_any a b g c d e f 0 0 r _ Q1.out Q2.out HX.out HY.out).mono ?_
    rintro e' w3 ⟨rfl, hb3⟩
    have z3 : w.heap.size + 2 ≤ w3.heap.size := Nat.le_trans z2 hb3.size
    have HB3 := Lib.hid (HB2.out.trans (hb3.mono (by omega)))
    clear c2_0_0 c2_0_1 c2_0_2 c2_0_3 c2_1_0 c2_1_1 c2_1_2 c2_1_3
    have B3_0 := Lib.hid (B2_0.out.below hb3 (by omega))
    have c3_0_0 := B3_0.out.cell 0 (v := .int .i64 a) rfl
    have c3_0_1 := B3_0.out.cell 1 (v := .int .i64 b) rfl
    have c3_0_2 := B3_0.out.cell 2 (v := .int .i64 g) rfl
    have c3_0_3 := B3_0.out.cell 3 (v := .bool r) rfl
    have B3_1 := Lib.hid (B2_1.out.below hb3 (by omega))
    have c3_1_0 := B3_1.out.cell 0 (v := .int .i64 c) rfl
    have c3_1_1 := B3_1.out.cell 1 (v := .int .i64 d) rfl
    have c3_1_2 := B3_1.out.cell 2 (v := .int .i64 e) rfl
    have c3_1_3 := B3_1.out.cell 3 (v := .int .i64 f) rfl
    clear hb3
    go_wp2_with fail
    go_ret3
    exact ⟨rfl, HB3.out⟩
  · obtain rfl : (1 : Int) = k := hc.symm.trans hk
    obtain rfl : (0 : Int) = x := hr.symm.trans hx
    obtain rfl : (0 : Int) = y := hs.symm.trans hy
    clear hx hy hk hr hs hc
    rcases Pr.both_no hb with h1 | ⟨h1, h2⟩
    · have Q1 := Lib.hid h1
      clear hb h1
      have B0_0 := Lib.hid ((Blk.new (w := w) (g := w.heap.size) #[.int .i64 a, .int .i64 b, .int .i64 g, .bool r] 25 (by simp)).alloc (.cells #[.int .i64 c, .int .i64 d, .int .i64 e, .int .i64 f] 27))
      have B0_1 := Lib.hid (Blk.new (w := (w.alloc (.cells #[.int .i64 a, .int .i64 b, .int .i64 g, .bool r] 25))) (g := w.heap.size + 1) #[.int .i64 c, .int .i64 d, .int .i64 e, .int .i64 f] 27 (by simp))
      have HB0 := Lib.hid ((below_new w (.cells #[.int .i64 a, .int .i64 b, .int .i64 g, .bool r] 25)).alloc (by simp <;> omega) (.cells #[.int .i64 c, .int .i64 d, .int .i64 e, .int .i64 f] 27))
      have Z0 : ((w.alloc (.cells #[.int .i64 a, .int .i64 b, .int .i64 g, .bool r] 25)).alloc (.cells #[.int .i64 c, .int .i64 d, .int .i64 e, .int .i64 f] 27)).heap.size = w.heap.size + 2 := by simp
      have HZ0 := Lib.hid Z0
      clear Z0
      go_enter Try.func15, Try.ntmps15
      go_wp2_with fail
      refine (implPr_any a b g r false _ Q1.out).mono ?_
      rintro e' w1 ⟨rfl, hb1⟩
      have z1 : w.heap.size + 2 ≤ w1.heap.size := by have h_ := hb1.size; rw [HZ0.out] at h_; exact h_
      have HB1 := Lib.hid (HB0.out.trans (hb1.mono (by rw [HZ0.out]; omega)))
      have B1_0 := Lib.hid (B0_0.out.below hb1 (by rw [HZ0.out]; omega))
      have c1_0_0 := B1_0.out.cell 0 (v := .int .i64 a) rfl
      have c1_0_1 := B1_0.out.cell 1 (v := .int .i64 b) rfl
      have c1_0_2 := B1_0.out.cell 2 (v := .int .i64 g) rfl
      have c1_0_3 := B1_0.out.cell 3 (v := .bool r) rfl
      have B1_1 := Lib.hid (B0_1.out.below hb1 (by rw [HZ0.out]; omega))
      have c1_1_0 := B1_1.out.cell 0 (v := .int .i64 c) rfl
      have c1_1_1 := B1_1.out.cell 1 (v := .int .i64 d) rfl
      have c1_1_2 := B1_1.out.cell 2 (v := .int .i64 e) rfl
      have c1_1_3 := B1_1.out.cell 3 (v := .int .i64 f) rfl
      clear hb1
      go_wp2_with fail
      go_ret3
      exact ⟨rfl, HB1.out⟩
    · have Q1 := Lib.hid h1
      have Q2 := Lib.hid h2
      clear hb h1 h2
      have B0_0 := Lib.hid ((Blk.new (w := w) (g := w.heap.size) #[.int .i64 a, .int .i64 b, .int .i64 g, .bool r] 25 (by simp)).alloc (.cells #[.int .i64 c, .int .i64 d, .int .i64 e, .int .i64 f] 27))
      have B0_1 := Lib.hid (Blk.new (w := (w.alloc (.cells #[.int .i64 a, .int .i64 b, .int .i64 g, .bool r] 25))) (g := w.heap.size + 1) #[.int .i64 c, .int .i64 d, .int .i64 e, .int .i64 f] 27 (by simp))
      have HB0 := Lib.hid ((below_new w (.cells #[.int .i64 a, .int .i64 b, .int .i64 g, .bool r] 25)).alloc (by simp <;> omega) (.cells #[.int .i64 c, .int .i64 d, .int .i64 e, .int .i64 f] 27))
      have Z0 : ((w.alloc (.cells #[.int .i64 a, .int .i64 b, .int .i64 g, .bool r] 25)).alloc (.cells #[.int .i64 c, .int .i64 d, .int .i64 e, .int .i64 f] 27)).heap.size = w.heap.size + 2 := by simp
      have HZ0 := Lib.hid Z0
      clear Z0
      go_enter Try.func15, Try.ntmps15
      go_wp2_with fail
      refine (implPr_any a b g r true _ Q1.out).mono ?_
      rintro e' w1 ⟨rfl, hb1⟩
      have z1 : w.heap.size + 2 ≤ w1.heap.size := by have h_ := hb1.size; rw [HZ0.out] at h_; exact h_
      have HB1 := Lib.hid (HB0.out.trans (hb1.mono (by rw [HZ0.out]; omega)))
      have B1_0 := Lib.hid (B0_0.out.below hb1 (by rw [HZ0.out]; omega))
      have c1_0_0 := B1_0.out.cell 0 (v := .int .i64 a) rfl
      have c1_0_1 := B1_0.out.cell 1 (v := .int .i64 b) rfl
      have c1_0_2 := B1_0.out.cell 2 (v := .int .i64 g) rfl
      have c1_0_3 := B1_0.out.cell 3 (v := .bool r) rfl
      have B1_1 := Lib.hid (B0_1.out.below hb1 (by rw [HZ0.out]; omega))
      have c1_1_0 := B1_1.out.cell 0 (v := .int .i64 c) rfl
      have c1_1_1 := B1_1.out.cell 1 (v := .int .i64 d) rfl
      have c1_1_2 := B1_1.out.cell 2 (v := .int .i64 e) rfl
      have c1_1_3 := B1_1.out.cell 3 (v := .int .i64 f) rfl
      clear hb1
      go_wp2_with fail
      refine (implTm_any c d e f false _ Q2.out).mono ?_
      rintro e' w2 ⟨rfl, hb2⟩
      have z2 : w.heap.size + 2 ≤ w2.heap.size := Nat.le_trans z1 hb2.size
      have HB2 := Lib.hid (HB1.out.trans (hb2.mono (by omega)))
      clear c1_0_0 c1_0_1 c1_0_2 c1_0_3 c1_1_0 c1_1_1 c1_1_2 c1_1_3
      have B2_0 := Lib.hid (B1_0.out.below hb2 (by omega))
      have c2_0_0 := B2_0.out.cell 0 (v := .int .i64 a) rfl
      have c2_0_1 := B2_0.out.cell 1 (v := .int .i64 b) rfl
      have c2_0_2 := B2_0.out.cell 2 (v := .int .i64 g) rfl
      have c2_0_3 := B2_0.out.cell 3 (v := .bool r) rfl
      have B2_1 := Lib.hid (B1_1.out.below hb2 (by omega))
      have c2_1_0 := B2_1.out.cell 0 (v := .int .i64 c) rfl
      have c2_1_1 := B2_1.out.cell 1 (v := .int .i64 d) rfl
      have c2_1_2 := B2_1.out.cell 2 (v := .int .i64 e) rfl
      have c2_1_3 := B2_1.out.cell 3 (v := .int .i64 f) rfl
      clear hb2
      go_wp2_with fail
      go_ret3
      exact ⟨rfl, HB2.out⟩
end Go.Proofs.Ythepfejoneeaeaa
