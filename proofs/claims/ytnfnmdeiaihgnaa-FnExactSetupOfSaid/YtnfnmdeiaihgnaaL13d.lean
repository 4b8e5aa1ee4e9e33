/- The walk of the exact law of SetupOf, out of the contracts. -/
import Derived.Test.YtnfnmdeiaihgnaaUnLw
import Derived.Test.YtnfnmdeiaihgnaaPcLw
import Derived.Test.YtnfnmdeiaihgnaaSuSe
import Derived.Test.YtnfnmdeiaihgnaaSxSe
import Derived.Test.YtnfnmdeiaihgnaaLw9
import Derived.Deep.RegionHeld3
namespace Go.Proofs.Ytnfnmdeiaihgnaa
open Go.RowKit
set_option linter.unusedVariables false

theorem calls_sec {P : Program} {f : FuncId} {args : Array Value} {w : World} {R : List Un} {C : Int} (h : Calls P f args w fun e w' => SeC w R C e w') :
    Calls P f args w fun e w' => ∃ A n c, e = .returned (.tuple #[.slice A n c, .int .i64 C]) ∧ OwnS Un.S w' w.heap.size w'.heap.size (.slice A n c) R ∧ n ≤ 1048576 ∧ Below w.heap.size w w' := h.mono fun _ _ ⟨A, n, c, h1, h2, h3, _, h5⟩ => ⟨A, n, c, h1, h2, h3, h5⟩
set_option maxRecDepth 100000 in
set_option maxHeartbeats 8000000 in
theorem w_FnExactSetupOf (a b : Int) (c : Pc) (s : ByteArray) (w : World) (w0_ : -9223372036854775808 ≤ a ∧ a ≤ 9223372036854775807) (w1_ : -9223372036854775808 ≤ b ∧ b ≤ 9223372036854775807) (_m3 : s.size ≤ maxLen) :
    Calls Try.prog 5 #[.int .i64 a, .int .i64 b, c.agg, .string s] w fun e w' => e = .returned (.bool true) ∧ Below w.heap.size w w' := by
  by_cases ht : 1048576 < s.size
  · have ht1 : (1048576 : Int) < (s.size : Int) := by omega
    have B0_0 := Lib.hid (Blk.new (w := w) (g := w.heap.size) #[.int .i64 c.w, .int .i64 c.h] 53 (by simp))
    have HB0 := Lib.hid ((Below.refl w.heap.size w).alloc (by simp) (.cells #[.int .i64 c.w, .int .i64 c.h] 53))
    have z0 : w.heap.size + 1 = (w.alloc (.cells #[.int .i64 c.w, .int .i64 c.h] 53)).heap.size := by simp
    go_enter Try.func5, Try.ntmps5
    go_wp2_with fail
    go_ret
    exact ⟨rfl, HB0.out⟩
  have ht2 : s.size ≤ 1048576 := by omega
  have ht3 : ¬ ((1048576 : Int) < (s.size : Int)) := by omega
  obtain ⟨R, hR⟩ : ∃ v, Su.suR a b c s.data.toList = v := ⟨_, rfl⟩
  have HR := Lib.hid hR
  clear hR
  obtain ⟨Cd, hCd⟩ : ∃ v, Su.code a b c s.data.toList = v := ⟨_, rfl⟩
  have HCd := Lib.hid hCd
  clear hCd
  have B0_0 := Lib.hid (Blk.new (w := w) (g := w.heap.size) #[.int .i64 c.w, .int .i64 c.h] 53 (by simp))
  have HB0 := Lib.hid ((Below.refl w.heap.size w).alloc (by simp) (.cells #[.int .i64 c.w, .int .i64 c.h] 53))
  have z0 : w.heap.size + 1 = (w.alloc (.cells #[.int .i64 c.w, .int .i64 c.h] 53)).heap.size := by simp
  go_enter Try.func5, Try.ntmps5
  go_wp2_with fail
  refine (toPiece_any c _).mono ?_
  rintro e' w1 ⟨rfl, hb1⟩
  have z1 : (w.alloc (.cells #[.int .i64 c.w, .int .i64 c.h] 53)).heap.size ≤ w1.heap.size := hb1.size
  have HB1 := Lib.hid (HB0.out.trans (hb1.mono (by omega)))
  have B1_0 := Lib.hid (B0_0.out.below hb1 B0_0.out.lt)
  have c1_0_0 := B1_0.out.cell 0 (v := .int .i64 c.w) rfl
  have c1_0_1 := B1_0.out.cell 1 (v := .int .i64 c.h) rfl
  clear hb1
  go_wp2_with fail
  refine (calls_sec (specSe_any a b c s R Cd _ (by omega) HR.out HCd.out)).mono ?_
  rintro e' w2 ⟨A2, n2, c2, rfl, o2, hn2, hb2⟩
  have z2 : w1.heap.size ≤ w2.heap.size := hb2.size
  have HB2 := Lib.hid (HB1.out.trans (hb2.mono (by omega)))
  have B2_0 := Lib.hid (B1_0.out.below hb2 B1_0.out.lt)
  clear c1_0_0 c1_0_1
  have c2_0_0 := B2_0.out.cell 0 (v := .int .i64 c.w) rfl
  have c2_0_1 := B2_0.out.cell 1 (v := .int .i64 c.h) rfl
  have O2_w0 := o2
  clear hb2 o2
  go_wp2_with fail
  refine (toPiece_any c _).mono ?_
  rintro e' w3 ⟨rfl, hb3⟩
  have z3 : w2.heap.size ≤ w3.heap.size := hb3.size
  have HB3 := Lib.hid (HB2.out.trans (hb3.mono (by omega)))
  have B3_0 := Lib.hid (B2_0.out.below hb3 B2_0.out.lt)
  have O3_w0 := O2_w0.below hb3 (by omega)
  clear O2_w0
  clear c2_0_0 c2_0_1
  have c3_0_0 := B3_0.out.cell 0 (v := .int .i64 c.w) rfl
  have c3_0_1 := B3_0.out.cell 1 (v := .int .i64 c.h) rfl
  clear hb3
  go_wp2_with fail
  refine (calls_sec (implSe_any a b c s R Cd _ (by omega) HR.out HCd.out)).mono ?_
  rintro e' w4 ⟨A4, n4, c4, rfl, o4, hn4, hb4⟩
  obtain rfl : n2 = n4 := O3_w0.rd.1.symm.trans o4.rd.1
  have z4 : w3.heap.size ≤ w4.heap.size := hb4.size
  have HB4 := Lib.hid (HB3.out.trans (hb4.mono (by omega)))
  have B4_0 := Lib.hid (B3_0.out.below hb4 B3_0.out.lt)
  have O4_w0 := O3_w0.below hb4 (by omega)
  clear O3_w0
  clear c3_0_0 c3_0_1
  have c4_0_0 := B4_0.out.cell 0 (v := .int .i64 c.w) rfl
  have c4_0_1 := B4_0.out.cell 1 (v := .int .i64 c.h) rfl
  have O4_g0 := o4
  clear hb4 o4
  go_wp2_with fail
  refine (eqUnitS_true _ _ _ _ _ _ _ R _ O4_g0.rd O4_w0.rd (by omega) (by omega) (by omega)).mono ?_
  rintro e' w5 ⟨rfl, hb5⟩
  have z5 : w4.heap.size ≤ w5.heap.size := hb5.size
  have HB5 := Lib.hid (HB4.out.trans (hb5.mono (by omega)))
  have B5_0 := Lib.hid (B4_0.out.below hb5 B4_0.out.lt)
  have O5_w0 := O4_w0.below hb5 (by omega)
  have O5_g0 := O4_g0.below hb5 (by omega)
  clear O4_w0 O4_g0
  clear c4_0_0 c4_0_1
  have c5_0_0 := B5_0.out.cell 0 (v := .int .i64 c.w) rfl
  have c5_0_1 := B5_0.out.cell 1 (v := .int .i64 c.h) rfl
  clear hb5
  go_wp2_with fail
  refine (markUnitS_any A4 n2 c4 w3.heap.size w4.heap.size 1 R _ O5_g0 (by omega) (by omega) (by omega)).mono ?_
  rintro e' w6 ⟨rfl, o6, hm6⟩
  have z6 : w5.heap.size ≤ w6.heap.size := hm6.size
  have HB6 := Lib.hid (HB5.out.trans (hm6.below (by omega) (by omega)))
  have B6_0 := Lib.hid (B5_0.out.only hm6 (.inl (by omega)))
  have O6_w0 := O5_w0.only hm6 (by omega)
  clear O5_w0
  clear c5_0_0 c5_0_1
  have c6_0_0 := B6_0.out.cell 0 (v := .int .i64 c.w) rfl
  have c6_0_1 := B6_0.out.cell 1 (v := .int .i64 c.h) rfl
  have O6_g0 := o6
  clear hm6 o6 O5_g0
  go_wp2_with fail
  refine (heldUnitS_any A4 n2 c4 w4.heap.size 1 _ O6_g0.rd (by omega) (by omega) (by omega)).mono ?_
  rintro e' _ ⟨rfl, rfl⟩
  go_wp2_with fail
  refine (toPiece_any c _).mono ?_
  rintro e' w7 ⟨rfl, hb7⟩
  have z7 : w6.heap.size ≤ w7.heap.size := hb7.size
  have HB7 := Lib.hid (HB6.out.trans (hb7.mono (by omega)))
  have B7_0 := Lib.hid (B6_0.out.below hb7 B6_0.out.lt)
  have O7_w0 := O6_w0.below hb7 (by omega)
  have O7_g0 := O6_g0.below hb7 (by omega)
  clear O6_w0 O6_g0
  clear c6_0_0 c6_0_1
  have c7_0_0 := B7_0.out.cell 0 (v := .int .i64 c.w) rfl
  have c7_0_1 := B7_0.out.cell 1 (v := .int .i64 c.h) rfl
  clear hb7
  go_wp2_with fail
  refine (calls_sec (implSe_any a b c s R Cd _ (by omega) HR.out HCd.out)).mono ?_
  rintro e' w8 ⟨A8, n8, c8, rfl, o8, hn8, hb8⟩
  obtain rfl : n2 = n8 := O7_w0.rd.1.symm.trans o8.rd.1
  have z8 : w7.heap.size ≤ w8.heap.size := hb8.size
  have HB8 := Lib.hid (HB7.out.trans (hb8.mono (by omega)))
  have B8_0 := Lib.hid (B7_0.out.below hb8 B7_0.out.lt)
  have O8_w0 := O7_w0.below hb8 (by omega)
  have O8_g0 := O7_g0.below hb8 (by omega)
  clear O7_w0 O7_g0
  clear c7_0_0 c7_0_1
  have c8_0_0 := B8_0.out.cell 0 (v := .int .i64 c.w) rfl
  have c8_0_1 := B8_0.out.cell 1 (v := .int .i64 c.h) rfl
  have O8_h0 := o8
  clear hb8 o8
  go_wp2_with fail
  refine (eqUnitS_true _ _ _ _ _ _ _ R _ O8_h0.rd O8_w0.rd (by omega) (by omega) (by omega)).mono ?_
  rintro e' w9 ⟨rfl, hb9⟩
  have z9 : w8.heap.size ≤ w9.heap.size := hb9.size
  have HB9 := Lib.hid (HB8.out.trans (hb9.mono (by omega)))
  have B9_0 := Lib.hid (B8_0.out.below hb9 B8_0.out.lt)
  have O9_w0 := O8_w0.below hb9 (by omega)
  have O9_g0 := O8_g0.below hb9 (by omega)
  have O9_h0 := O8_h0.below hb9 (by omega)
  clear O8_w0 O8_g0 O8_h0
  clear c8_0_0 c8_0_1
  have c9_0_0 := B9_0.out.cell 0 (v := .int .i64 c.w) rfl
  have c9_0_1 := B9_0.out.cell 1 (v := .int .i64 c.h) rfl
  clear hb9
  go_wp2_with fail
  refine (heldUnitS_any A4 n2 c4 w4.heap.size 1 _ O9_g0.rd (by omega) (by omega) (by omega)).mono ?_
  rintro e' _ ⟨rfl, rfl⟩
  go_wp2_with fail
  go_ret
  exact ⟨rfl, HB9.out⟩
end Go.Proofs.Ytnfnmdeiaihgnaa
