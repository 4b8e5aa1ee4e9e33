/- The walk of the exact law of LeastSheet, out of the contracts. -/
import Derived.Test.YthepfejoneeaeaaPrLw
import Derived.Test.YthepfejoneeaeaaPrLs
import Derived.Test.YthepfejoneeaeaaPrLi
namespace Go.Proofs.Ythepfejoneeaeaa
open Go.RowKit
set_option linter.unusedVariables false

set_option maxRecDepth 100000 in
set_option maxHeartbeats 4000000 in
theorem w_FnExactLeastSheet (c d e f : Int) (n m t : Int) (w : World) (w0_ : -9223372036854775808 ≤ n ∧ n ≤ 9223372036854775807) (w1_ : -9223372036854775808 ≤ m ∧ m ≤ 9223372036854775807) (w2_ : -9223372036854775808 ≤ t ∧ t ≤ 9223372036854775807) :
    Calls Try.prog 12 #[TV c d e f, .int .i64 n, .int .i64 m, .int .i64 t] w fun e' w' => e' = .returned (.bool true) ∧ Below w.heap.size w w' := by
  obtain ⟨p, q, s, z, k, hls⟩ := Pr.ls_ex c d e f n m t
  have HL := Lib.hid hls
  clear hls
  have B0_0 := Lib.hid (Blk.new (w := w) (g := w.heap.size) #[.int .i64 c, .int .i64 d, .int .i64 e, .int .i64 f] 52 (by simp))
  have HB0 := Lib.hid (below_new w (.cells #[.int .i64 c, .int .i64 d, .int .i64 e, .int .i64 f] 52))
  have Z0 : (w.alloc (.cells #[.int .i64 c, .int .i64 d, .int .i64 e, .int .i64 f] 52)).heap.size = w.heap.size + 1 := by simp
  have HZ0 := Lib.hid Z0
  clear Z0
  go_enter Try.func12, Try.ntmps12
  go_wp2_with fail
  refine (toTrim_any c d e f _).mono ?_
  rintro e' w1 ⟨rfl, hb1⟩
  have z1 : w.heap.size + 1 ≤ w1.heap.size := by have h_ := hb1.size; rw [HZ0.out] at h_; exact h_
  have HB1 := Lib.hid (HB0.out.trans (hb1.mono (by rw [HZ0.out]; omega)))
  have B1_0 := Lib.hid (B0_0.out.below hb1 B0_0.out.lt)
  clear hb1
  have c1_0_0 := B1_0.out.cell 0 (v := .int .i64 c) rfl
  have c1_0_1 := B1_0.out.cell 1 (v := .int .i64 d) rfl
  have c1_0_2 := B1_0.out.cell 2 (v := .int .i64 e) rfl
  have c1_0_3 := B1_0.out.cell 3 (v := .int .i64 f) rfl
  go_wp2_with fail
  refine (specLs_any c d e f n m t p q s z k _ HL.out).mono ?_
  rintro e' w2 ⟨rfl, hb2⟩
  have z2 : w.heap.size + 1 ≤ w2.heap.size := Nat.le_trans z1 hb2.size
  have HB2 := Lib.hid (HB1.out.trans (hb2.mono (by omega)))
  have B2_0 := Lib.hid (B1_0.out.below hb2 B1_0.out.lt)
  clear hb2
  clear c1_0_0 c1_0_1 c1_0_2 c1_0_3
  have c2_0_0 := B2_0.out.cell 0 (v := .int .i64 c) rfl
  have c2_0_1 := B2_0.out.cell 1 (v := .int .i64 d) rfl
  have c2_0_2 := B2_0.out.cell 2 (v := .int .i64 e) rfl
  have c2_0_3 := B2_0.out.cell 3 (v := .int .i64 f) rfl
  have a2_0_0 := (B2_0.out.alloc (.cells #[.int .i64 p, .int .i64 q, .int .i64 s, .bool z] 25)).cell 0 (v := .int .i64 c) rfl
  have a2_0_1 := (B2_0.out.alloc (.cells #[.int .i64 p, .int .i64 q, .int .i64 s, .bool z] 25)).cell 1 (v := .int .i64 d) rfl
  have a2_0_2 := (B2_0.out.alloc (.cells #[.int .i64 p, .int .i64 q, .int .i64 s, .bool z] 25)).cell 2 (v := .int .i64 e) rfl
  have a2_0_3 := (B2_0.out.alloc (.cells #[.int .i64 p, .int .i64 q, .int .i64 s, .bool z] 25)).cell 3 (v := .int .i64 f) rfl
  go_wp2_with fail
  refine (toTrim_any c d e f _).mono ?_
  rintro e' w3 ⟨rfl, hb3⟩
  have B3_1 := Lib.hid ((Blk.new (w := w2) (g := w2.heap.size) #[.int .i64 p, .int .i64 q, .int .i64 s, .bool z] 25 rfl).below hb3 (by simp))
  replace hb3 := (below_new w2 (.cells #[.int .i64 p, .int .i64 q, .int .i64 s, .bool z] 25)).trans (hb3.mono (by simp))
  have z3 : w.heap.size + 1 ≤ w3.heap.size := Nat.le_trans z2 hb3.size
  have HB3 := Lib.hid (HB2.out.trans (hb3.mono (by omega)))
  have B3_0 := Lib.hid (B2_0.out.below hb3 B2_0.out.lt)
  clear hb3
  clear c2_0_0 c2_0_1 c2_0_2 c2_0_3 a2_0_0 a2_0_1 a2_0_2 a2_0_3
  have c3_0_0 := B3_0.out.cell 0 (v := .int .i64 c) rfl
  have c3_0_1 := B3_0.out.cell 1 (v := .int .i64 d) rfl
  have c3_0_2 := B3_0.out.cell 2 (v := .int .i64 e) rfl
  have c3_0_3 := B3_0.out.cell 3 (v := .int .i64 f) rfl
  have c3_1_0 := B3_1.out.cell 0 (v := .int .i64 p) rfl
  have c3_1_1 := B3_1.out.cell 1 (v := .int .i64 q) rfl
  have c3_1_2 := B3_1.out.cell 2 (v := .int .i64 s) rfl
  have c3_1_3 := B3_1.out.cell 3 (v := .bool z) rfl
  go_wp2_with fail
  refine (implLs_any c d e f n m t p q s z k _ HL.out).mono ?_
  rintro e' w4 ⟨rfl, hb4⟩
  have z4 : w.heap.size + 1 ≤ w4.heap.size := Nat.le_trans z3 hb4.size
  have HB4 := Lib.hid (HB3.out.trans (hb4.mono (by omega)))
  have B4_0 := Lib.hid (B3_0.out.below hb4 B3_0.out.lt)
  have B4_1 := Lib.hid (B3_1.out.below hb4 B3_1.out.lt)
  clear hb4
  clear c3_0_0 c3_0_1 c3_0_2 c3_0_3 c3_1_0 c3_1_1 c3_1_2 c3_1_3
  have c4_1_0 := B4_1.out.cell 0 (v := .int .i64 p) rfl
  have c4_1_1 := B4_1.out.cell 1 (v := .int .i64 q) rfl
  have c4_1_2 := B4_1.out.cell 2 (v := .int .i64 s) rfl
  have c4_1_3 := B4_1.out.cell 3 (v := .bool z) rfl
  have a4_0_0 := (B4_0.out.alloc (.cells #[.int .i64 p, .int .i64 q, .int .i64 s, .bool z] 25)).cell 0 (v := .int .i64 c) rfl
  have a4_0_1 := (B4_0.out.alloc (.cells #[.int .i64 p, .int .i64 q, .int .i64 s, .bool z] 25)).cell 1 (v := .int .i64 d) rfl
  have a4_0_2 := (B4_0.out.alloc (.cells #[.int .i64 p, .int .i64 q, .int .i64 s, .bool z] 25)).cell 2 (v := .int .i64 e) rfl
  have a4_0_3 := (B4_0.out.alloc (.cells #[.int .i64 p, .int .i64 q, .int .i64 s, .bool z] 25)).cell 3 (v := .int .i64 f) rfl
  have a4_1_0 := (B4_1.out.alloc (.cells #[.int .i64 p, .int .i64 q, .int .i64 s, .bool z] 25)).cell 0 (v := .int .i64 p) rfl
  have a4_1_1 := (B4_1.out.alloc (.cells #[.int .i64 p, .int .i64 q, .int .i64 s, .bool z] 25)).cell 1 (v := .int .i64 q) rfl
  have a4_1_2 := (B4_1.out.alloc (.cells #[.int .i64 p, .int .i64 q, .int .i64 s, .bool z] 25)).cell 2 (v := .int .i64 s) rfl
  have a4_1_3 := (B4_1.out.alloc (.cells #[.int .i64 p, .int .i64 q, .int .i64 s, .bool z] 25)).cell 3 (v := .bool z) rfl
  go_wp2_with fail
  refine (eqPress_true p q s z _).mono ?_
  rintro e' w5 ⟨rfl, hb5⟩
  have B5_2 := Lib.hid ((Blk.new (w := w4) (g := w4.heap.size) #[.int .i64 p, .int .i64 q, .int .i64 s, .bool z] 25 rfl).below hb5 (by simp))
  replace hb5 := (below_new w4 (.cells #[.int .i64 p, .int .i64 q, .int .i64 s, .bool z] 25)).trans (hb5.mono (by simp))
  have z5 : w.heap.size + 1 ≤ w5.heap.size := Nat.le_trans z4 hb5.size
  have HB5 := Lib.hid (HB4.out.trans (hb5.mono (by omega)))
  have B5_0 := Lib.hid (B4_0.out.below hb5 B4_0.out.lt)
  have B5_1 := Lib.hid (B4_1.out.below hb5 B4_1.out.lt)
  clear hb5
  clear c4_1_0 c4_1_1 c4_1_2 c4_1_3 a4_0_0 a4_0_1 a4_0_2 a4_0_3 a4_1_0 a4_1_1 a4_1_2 a4_1_3
  go_wp2_with fail
  go_ret
  exact ⟨rfl, HB5.out⟩
end Go.Proofs.Ythepfejoneeaeaa
