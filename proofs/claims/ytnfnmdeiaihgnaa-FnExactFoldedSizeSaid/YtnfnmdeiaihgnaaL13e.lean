/- The walk of the exact law of FoldedSize, out of the contracts. -/
import Derived.Test.YtnfnmdeiaihgnaaPcLw
import Derived.Test.YtnfnmdeiaihgnaaSuFz
import Derived.Test.YtnfnmdeiaihgnaaSxFz
import Derived.Test.YtnfnmdeiaihgnaaLw9
import Derived.Deep.RegionHeld3
namespace Go.Proofs.Ytnfnmdeiaihgnaa
open Go.RowKit
set_option linter.unusedVariables false

set_option maxRecDepth 100000 in
set_option maxHeartbeats 8000000 in
theorem w_FnExactFoldedSize (a b : Int) (c : Pc) (s : ByteArray) (k : Int) (w : World) (w0_ : -9223372036854775808 ≤ a ∧ a ≤ 9223372036854775807) (w1_ : -9223372036854775808 ≤ b ∧ b ≤ 9223372036854775807) (_m3 : s.size ≤ maxLen) (w4_ : -9223372036854775808 ≤ k ∧ k ≤ 9223372036854775807) :
    Calls Try.prog 7 #[.int .i64 a, .int .i64 b, c.agg, .string s, .int .i64 k] w fun e w' => e = .returned (.bool true) ∧ Below w.heap.size w w' := by
  by_cases ht : 1048576 < s.size
  · have ht1 : (1048576 : Int) < (s.size : Int) := by omega
    have B0_0 := Lib.hid (Blk.new (w := w) (g := w.heap.size) #[.int .i64 c.w, .int .i64 c.h] 53 (by simp))
    have HB0 := Lib.hid ((Below.refl w.heap.size w).alloc (by simp) (.cells #[.int .i64 c.w, .int .i64 c.h] 53))
    have z0 : w.heap.size + 1 = (w.alloc (.cells #[.int .i64 c.w, .int .i64 c.h] 53)).heap.size := by simp
    go_enter Try.func7, Try.ntmps7
    go_wp2_with fail
    go_ret
    exact ⟨rfl, HB0.out⟩
  have ht2 : s.size ≤ 1048576 := by omega
  have ht3 : ¬ ((1048576 : Int) < (s.size : Int)) := by omega
  obtain ⟨R, hR⟩ : ∃ v, Su.fzR a b c s.data.toList k = v := ⟨_, rfl⟩
  have HR := Lib.hid hR
  clear hR
  obtain ⟨Cd, hCd⟩ : ∃ v, Su.fzC a b c s.data.toList k = v := ⟨_, rfl⟩
  have HCd := Lib.hid hCd
  clear hCd
  have B0_0 := Lib.hid (Blk.new (w := w) (g := w.heap.size) #[.int .i64 c.w, .int .i64 c.h] 53 (by simp))
  have HB0 := Lib.hid ((Below.refl w.heap.size w).alloc (by simp) (.cells #[.int .i64 c.w, .int .i64 c.h] 53))
  have z0 : w.heap.size + 1 = (w.alloc (.cells #[.int .i64 c.w, .int .i64 c.h] 53)).heap.size := by simp
  go_enter Try.func7, Try.ntmps7
  go_wp2_with fail
  refine (toPiece_any c _).mono ?_
  rintro e' w1 ⟨rfl, hb1⟩
  have z1 : (w.alloc (.cells #[.int .i64 c.w, .int .i64 c.h] 53)).heap.size ≤ w1.heap.size := hb1.size
  have HB1 := Lib.hid (HB0.out.trans (hb1.mono (by omega)))
  have B1_0 := Lib.hid (B0_0.out.below hb1 B0_0.out.lt)
  have c1_0_0 := B1_0.out.cell 0 (v := .int .i64 c.w) rfl
  have c1_0_1 := B1_0.out.cell 1 (v := .int .i64 c.h) rfl
  clear hb1
  go_wp2_with fail
  refine (specFz_any a b c s k R Cd _ (by omega) HR.out HCd.out).mono ?_
  rintro e' w2 ⟨rfl, hb2⟩
  have z2 : w1.heap.size ≤ w2.heap.size := hb2.size
  have HB2 := Lib.hid (HB1.out.trans (hb2.mono (by omega)))
  have B2_0 := Lib.hid (B1_0.out.below hb2 B1_0.out.lt)
  clear c1_0_0 c1_0_1
  have c2_0_0 := B2_0.out.cell 0 (v := .int .i64 c.w) rfl
  have c2_0_1 := B2_0.out.cell 1 (v := .int .i64 c.h) rfl
  clear hb2
  have hb3 : Below w2.heap.size w2 (w2.alloc (.cells #[.int .i64 R.w, .int .i64 R.h] 25)) := (Below.refl _ _).alloc (Nat.le_refl _) _
  have zz3 : (w2.alloc (.cells #[.int .i64 R.w, .int .i64 R.h] 25)).heap.size = w2.heap.size + 1 := by simp
  have z3 : w2.heap.size ≤ (w2.alloc (.cells #[.int .i64 R.w, .int .i64 R.h] 25)).heap.size := by omega
  have HB3 := Lib.hid (HB2.out.trans (hb3.mono (by omega)))
  have B3_0 := Lib.hid (B2_0.out.below hb3 B2_0.out.lt)
  have B3_1 := Lib.hid (Blk.new (w := w2) (g := w2.heap.size) #[.int .i64 R.w, .int .i64 R.h] 25 rfl)
  clear hb3
  clear c2_0_0 c2_0_1
  have c3_0_0 := B3_0.out.cell 0 (v := .int .i64 c.w) rfl
  have c3_0_1 := B3_0.out.cell 1 (v := .int .i64 c.h) rfl
  have c3_1_0 := B3_1.out.cell 0 (v := .int .i64 R.w) rfl
  have c3_1_1 := B3_1.out.cell 1 (v := .int .i64 R.h) rfl
  go_wp2_with fail
  refine (toPiece_any c _).mono ?_
  rintro e' w4 ⟨rfl, hb4⟩
  have z4 : (w2.alloc (.cells #[.int .i64 R.w, .int .i64 R.h] 25)).heap.size ≤ w4.heap.size := hb4.size
  have HB4 := Lib.hid (HB3.out.trans (hb4.mono (by omega)))
  have B4_0 := Lib.hid (B3_0.out.below hb4 B3_0.out.lt)
  have B4_1 := Lib.hid (B3_1.out.below hb4 B3_1.out.lt)
  clear c3_0_0 c3_0_1 c3_1_0 c3_1_1
  have c4_0_0 := B4_0.out.cell 0 (v := .int .i64 c.w) rfl
  have c4_0_1 := B4_0.out.cell 1 (v := .int .i64 c.h) rfl
  have c4_1_0 := B4_1.out.cell 0 (v := .int .i64 R.w) rfl
  have c4_1_1 := B4_1.out.cell 1 (v := .int .i64 R.h) rfl
  clear hb4
  go_wp2_with fail
  refine (implFz_any a b c s k R Cd _ (by omega) w4_ HR.out HCd.out).mono ?_
  rintro e' w5 ⟨rfl, hb5⟩
  have z5 : w4.heap.size ≤ w5.heap.size := hb5.size
  have HB5 := Lib.hid (HB4.out.trans (hb5.mono (by omega)))
  have B5_0 := Lib.hid (B4_0.out.below hb5 B4_0.out.lt)
  have B5_1 := Lib.hid (B4_1.out.below hb5 B4_1.out.lt)
  clear c4_0_0 c4_0_1 c4_1_0 c4_1_1
  have c5_0_0 := B5_0.out.cell 0 (v := .int .i64 c.w) rfl
  have c5_0_1 := B5_0.out.cell 1 (v := .int .i64 c.h) rfl
  have c5_1_0 := B5_1.out.cell 0 (v := .int .i64 R.w) rfl
  have c5_1_1 := B5_1.out.cell 1 (v := .int .i64 R.h) rfl
  clear hb5
  have hb6 : Below w5.heap.size w5 (w5.alloc (.cells #[.int .i64 R.w, .int .i64 R.h] 25)) := (Below.refl _ _).alloc (Nat.le_refl _) _
  have zz6 : (w5.alloc (.cells #[.int .i64 R.w, .int .i64 R.h] 25)).heap.size = w5.heap.size + 1 := by simp
  have z6 : w5.heap.size ≤ (w5.alloc (.cells #[.int .i64 R.w, .int .i64 R.h] 25)).heap.size := by omega
  have HB6 := Lib.hid (HB5.out.trans (hb6.mono (by omega)))
  have B6_0 := Lib.hid (B5_0.out.below hb6 B5_0.out.lt)
  have B6_1 := Lib.hid (B5_1.out.below hb6 B5_1.out.lt)
  have B6_2 := Lib.hid (Blk.new (w := w5) (g := w5.heap.size) #[.int .i64 R.w, .int .i64 R.h] 25 rfl)
  clear hb6
  clear c5_0_0 c5_0_1 c5_1_0 c5_1_1
  have c6_0_0 := B6_0.out.cell 0 (v := .int .i64 c.w) rfl
  have c6_0_1 := B6_0.out.cell 1 (v := .int .i64 c.h) rfl
  have c6_1_0 := B6_1.out.cell 0 (v := .int .i64 R.w) rfl
  have c6_1_1 := B6_1.out.cell 1 (v := .int .i64 R.h) rfl
  have c6_2_0 := B6_2.out.cell 0 (v := .int .i64 R.w) rfl
  have c6_2_1 := B6_2.out.cell 1 (v := .int .i64 R.h) rfl
  go_wp2_with fail
  refine (eqPiece_true R _).mono ?_
  rintro e' w7 ⟨rfl, hb7⟩
  have z7 : (w5.alloc (.cells #[.int .i64 R.w, .int .i64 R.h] 25)).heap.size ≤ w7.heap.size := hb7.size
  have HB7 := Lib.hid (HB6.out.trans (hb7.mono (by omega)))
  have B7_0 := Lib.hid (B6_0.out.below hb7 B6_0.out.lt)
  have B7_1 := Lib.hid (B6_1.out.below hb7 B6_1.out.lt)
  have B7_2 := Lib.hid (B6_2.out.below hb7 B6_2.out.lt)
  clear c6_0_0 c6_0_1 c6_1_0 c6_1_1 c6_2_0 c6_2_1
  have c7_0_0 := B7_0.out.cell 0 (v := .int .i64 c.w) rfl
  have c7_0_1 := B7_0.out.cell 1 (v := .int .i64 c.h) rfl
  have c7_1_0 := B7_1.out.cell 0 (v := .int .i64 R.w) rfl
  have c7_1_1 := B7_1.out.cell 1 (v := .int .i64 R.h) rfl
  have c7_2_0 := B7_2.out.cell 0 (v := .int .i64 R.w) rfl
  have c7_2_1 := B7_2.out.cell 1 (v := .int .i64 R.h) rfl
  clear hb7
  go_wp2_with fail
  go_ret
  exact ⟨rfl, HB7.out⟩
end Go.Proofs.Ytnfnmdeiaihgnaa
