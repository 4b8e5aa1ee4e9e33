/- The walk of the exact law of IsPiece, out of the contracts. -/
import Derived.Test.YtpidcbbpcgbfiaaPcLw
import Derived.Test.YtpidcbbpcgbfiaaGuIm
import Derived.Deep.RegionHeld3
namespace Go.Proofs.Ytpidcbbpcgbfiaa
open Go.RowKit
set_option linter.unusedVariables false

set_option maxRecDepth 100000 in
set_option maxHeartbeats 8000000 in
theorem w_FnExactIsPiece (p : Pc) (w : World) :
    Calls Try.prog 3 #[p.agg] w fun e w' => e = .returned (.bool true) ∧ Below w.heap.size w w' := by
  obtain ⟨d, hd⟩ : ∃ d, Gu.okP p = d := ⟨_, rfl⟩
  have HD := Lib.hid hd
  clear hd
  have B0_0 := Lib.hid (Blk.new (w := w) (g := w.heap.size) #[.int .i64 p.w, .int .i64 p.h] 23 (by simp))
  have HB0 := Lib.hid ((Below.refl w.heap.size w).alloc (by simp) (.cells #[.int .i64 p.w, .int .i64 p.h] 23))
  have z0 : w.heap.size + 1 = (w.alloc (.cells #[.int .i64 p.w, .int .i64 p.h] 23)).heap.size := by simp
  go_enter Try.func3, Try.ntmps3
  go_wp2_with fail
  refine (toPiece_any p _).mono ?_
  rintro e' w1 ⟨rfl, hb1⟩
  have z1 : (w.alloc (.cells #[.int .i64 p.w, .int .i64 p.h] 23)).heap.size ≤ w1.heap.size := hb1.size
  have HB1 := Lib.hid (HB0.out.trans (hb1.mono (by omega)))
  have B1_0 := Lib.hid (B0_0.out.below hb1 B0_0.out.lt)
  have c1_0_0 := B1_0.out.cell 0 (v := .int .i64 p.w) rfl
  have c1_0_1 := B1_0.out.cell 1 (v := .int .i64 p.h) rfl
  clear hb1
  go_wp2_with fail
  refine (specPc_any p d _ HD.out).mono ?_
  rintro e' w2 ⟨rfl, hb2⟩
  have z2 : w1.heap.size ≤ w2.heap.size := hb2.size
  have HB2 := Lib.hid (HB1.out.trans (hb2.mono (by omega)))
  have B2_0 := Lib.hid (B1_0.out.below hb2 B1_0.out.lt)
  clear c1_0_0 c1_0_1
  have c2_0_0 := B2_0.out.cell 0 (v := .int .i64 p.w) rfl
  have c2_0_1 := B2_0.out.cell 1 (v := .int .i64 p.h) rfl
  clear hb2
  go_wp2_with fail
  refine (toPiece_any p _).mono ?_
  rintro e' w3 ⟨rfl, hb3⟩
  have z3 : w2.heap.size ≤ w3.heap.size := hb3.size
  have HB3 := Lib.hid (HB2.out.trans (hb3.mono (by omega)))
  have B3_0 := Lib.hid (B2_0.out.below hb3 B2_0.out.lt)
  clear c2_0_0 c2_0_1
  have c3_0_0 := B3_0.out.cell 0 (v := .int .i64 p.w) rfl
  have c3_0_1 := B3_0.out.cell 1 (v := .int .i64 p.h) rfl
  clear hb3
  go_wp2_with fail
  refine (implPc_any p d _ HD.out).mono ?_
  rintro e' w4 ⟨rfl, hb4⟩
  have z4 : w3.heap.size ≤ w4.heap.size := hb4.size
  have HB4 := Lib.hid (HB3.out.trans (hb4.mono (by omega)))
  have B4_0 := Lib.hid (B3_0.out.below hb4 B3_0.out.lt)
  clear c3_0_0 c3_0_1
  have c4_0_0 := B4_0.out.cell 0 (v := .int .i64 p.w) rfl
  have c4_0_1 := B4_0.out.cell 1 (v := .int .i64 p.h) rfl
  clear hb4
  go_wp2_with fail
  cases d
  all_goals
    go_ret
    exact ⟨rfl, HB4.out⟩
end Go.Proofs.Ytpidcbbpcgbfiaa
