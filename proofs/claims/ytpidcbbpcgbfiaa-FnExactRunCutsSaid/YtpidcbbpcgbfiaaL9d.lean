/- The walk of the exact law of RunCuts, out of the contracts. -/
import Derived.Test.YtpidcbbpcgbfiaaPcLw
import Derived.Test.YtpidcbbpcgbfiaaCtLw
import Derived.Test.YtpidcbbpcgbfiaaGuRc
import Derived.Test.YtpidcbbpcgbfiaaLw9
import Derived.Deep.RegionHeld3
namespace Go.Proofs.Ytpidcbbpcgbfiaa
open Go.RowKit
set_option linter.unusedVariables false

set_option maxRecDepth 100000 in
set_option maxHeartbeats 8000000 in
theorem w_FnExactRunCuts (p : Pc) (A : Option Addr) (n c : Nat) (l : List Ct) (w : World) (ha : RdS Ct.S w w.heap.size A n l) (hm : n ≤ 9223372036854775807) :
    Calls Try.prog 6 #[p.agg, .slice A n c] w fun e w' => e = .returned (.bool true) ∧ Below w.heap.size w w' := by
  by_cases hs : 1048576 < n
  · have B0_0 := Lib.hid (Blk.new (w := w) (g := w.heap.size) #[.int .i64 p.w, .int .i64 p.h] 23 (by simp))
    have HB0 := Lib.hid ((Below.refl w.heap.size w).alloc (by simp) (.cells #[.int .i64 p.w, .int .i64 p.h] 23))
    have z0 : w.heap.size + 1 = (w.alloc (.cells #[.int .i64 p.w, .int .i64 p.h] 23)).heap.size := by simp
    go_enter Try.func6, Try.ntmps6
    go_wp2_with fail
    refine (szCutS_no A n c _ hs hm).mono ?_
    rintro e' _ ⟨rfl, rfl⟩
    go_wp2_with fail
    go_ret
    exact ⟨rfl, HB0.out⟩
  have hn : n ≤ 1048576 := by omega
  have hq0 : ¬ (1048576 - (n : Int) < 0) := by omega
  obtain ⟨R, hR⟩ : ∃ v, Gu.rcR p l = v := ⟨_, rfl⟩
  have HR := Lib.hid hR
  clear hR
  obtain ⟨Cd, hCd⟩ : ∃ v, Gu.rcC p l = v := ⟨_, rfl⟩
  have HCd := Lib.hid hCd
  clear hCd
  have B0_0 := Lib.hid (Blk.new (w := w) (g := w.heap.size) #[.int .i64 p.w, .int .i64 p.h] 23 (by simp))
  have HB0 := Lib.hid ((Below.refl w.heap.size w).alloc (by simp) (.cells #[.int .i64 p.w, .int .i64 p.h] 23))
  have z0 : w.heap.size + 1 = (w.alloc (.cells #[.int .i64 p.w, .int .i64 p.h] 23)).heap.size := by simp
  have R0_a := (RdS.alloc ha (by first | exact Nat.le_refl _ | (simp; done) | (simp; omega)) (.cells #[.int .i64 p.w, .int .i64 p.h] 23))
  go_enter Try.func6, Try.ntmps6
  go_wp2_with fail
  refine (szCutS_yes A n c _ hn).mono ?_
  rintro e' _ ⟨rfl, rfl⟩
  go_wp2_with fail
  refine (toPiece_any p _).mono ?_
  rintro e' w1 ⟨rfl, hb1⟩
  have z1 : (w.alloc (.cells #[.int .i64 p.w, .int .i64 p.h] 23)).heap.size ≤ w1.heap.size := hb1.size
  have HB1 := Lib.hid (HB0.out.trans (hb1.mono (by omega)))
  have B1_0 := Lib.hid (B0_0.out.below hb1 B0_0.out.lt)
  have R1_a := R0_a.below hb1 (by omega)
  clear R0_a
  have c1_0_0 := B1_0.out.cell 0 (v := .int .i64 p.w) rfl
  have c1_0_1 := B1_0.out.cell 1 (v := .int .i64 p.h) rfl
  clear hb1
  go_wp2_with fail
  refine (toCutS_any A n c w.heap.size l _ R1_a (by omega) hn).mono ?_
  rintro e' w2 ⟨g2, rfl, o2, hb2⟩
  have z2 : w1.heap.size ≤ w2.heap.size := hb2.size
  have HB2 := Lib.hid (HB1.out.trans (hb2.mono (by omega)))
  have B2_0 := Lib.hid (B1_0.out.below hb2 B1_0.out.lt)
  have R2_a := R1_a.below hb2 (by omega)
  clear R1_a
  clear c1_0_0 c1_0_1
  have c2_0_0 := B2_0.out.cell 0 (v := .int .i64 p.w) rfl
  have c2_0_1 := B2_0.out.cell 1 (v := .int .i64 p.h) rfl
  have O2_s := o2
  clear hb2 o2
  go_wp2_with fail
  refine (specRc_any p (some ⟨g2, 0, none⟩) n n w2.heap.size l R Cd _ O2_s.rd (by omega) (by omega) HR.out HCd.out).mono ?_
  rintro e' w3 ⟨A3, n3, c3, rfl, o3, hn3, hb3⟩
  have z3 : w2.heap.size ≤ w3.heap.size := hb3.size
  have HB3 := Lib.hid (HB2.out.trans (hb3.mono (by omega)))
  have B3_0 := Lib.hid (B2_0.out.below hb3 B2_0.out.lt)
  have R3_a := R2_a.below hb3 (by omega)
  have O3_s := O2_s.below hb3 (by omega)
  clear R2_a O2_s
  clear c2_0_0 c2_0_1
  have c3_0_0 := B3_0.out.cell 0 (v := .int .i64 p.w) rfl
  have c3_0_1 := B3_0.out.cell 1 (v := .int .i64 p.h) rfl
  have O3_w0 := o3
  clear hb3 o3
  go_wp2_with fail
  refine (toCutS_any A n c w.heap.size l _ R3_a (by omega) hn).mono ?_
  rintro e' w4 ⟨g4, rfl, o4, hb4⟩
  have z4 : w3.heap.size ≤ w4.heap.size := hb4.size
  have HB4 := Lib.hid (HB3.out.trans (hb4.mono (by omega)))
  have B4_0 := Lib.hid (B3_0.out.below hb4 B3_0.out.lt)
  have R4_a := R3_a.below hb4 (by omega)
  have O4_s := O3_s.below hb4 (by omega)
  have O4_w0 := O3_w0.below hb4 (by omega)
  clear R3_a O3_s O3_w0
  clear c3_0_0 c3_0_1
  have c4_0_0 := B4_0.out.cell 0 (v := .int .i64 p.w) rfl
  have c4_0_1 := B4_0.out.cell 1 (v := .int .i64 p.h) rfl
  have O4_x := o4
  clear hb4 o4
  go_wp2_with fail
  refine (toPiece_any p _).mono ?_
  rintro e' w5 ⟨rfl, hb5⟩
  have z5 : w4.heap.size ≤ w5.heap.size := hb5.size
  have HB5 := Lib.hid (HB4.out.trans (hb5.mono (by omega)))
  have B5_0 := Lib.hid (B4_0.out.below hb5 B4_0.out.lt)
  have R5_a := R4_a.below hb5 (by omega)
  have O5_s := O4_s.below hb5 (by omega)
  have O5_w0 := O4_w0.below hb5 (by omega)
  have O5_x := O4_x.below hb5 (by omega)
  clear R4_a O4_s O4_w0 O4_x
  clear c4_0_0 c4_0_1
  have c5_0_0 := B5_0.out.cell 0 (v := .int .i64 p.w) rfl
  have c5_0_1 := B5_0.out.cell 1 (v := .int .i64 p.h) rfl
  clear hb5
  go_wp2_with fail
  refine (implRc_any p (some ⟨g4, 0, none⟩) n n w4.heap.size l R Cd _ O5_x.rd (by omega) (by omega) HR.out HCd.out).mono ?_
  rintro e' w6 ⟨A6, n6, c6, rfl, o6, hn6, hb6⟩
  obtain rfl : n3 = n6 := O5_w0.rd.1.symm.trans o6.rd.1
  have z6 : w5.heap.size ≤ w6.heap.size := hb6.size
  have HB6 := Lib.hid (HB5.out.trans (hb6.mono (by omega)))
  have B6_0 := Lib.hid (B5_0.out.below hb6 B5_0.out.lt)
  have R6_a := R5_a.below hb6 (by omega)
  have O6_s := O5_s.below hb6 (by omega)
  have O6_w0 := O5_w0.below hb6 (by omega)
  have O6_x := O5_x.below hb6 (by omega)
  clear R5_a O5_s O5_w0 O5_x
  clear c5_0_0 c5_0_1
  have c6_0_0 := B6_0.out.cell 0 (v := .int .i64 p.w) rfl
  have c6_0_1 := B6_0.out.cell 1 (v := .int .i64 p.h) rfl
  have O6_g0 := o6
  clear hb6 o6
  go_wp2_with fail
  refine (eqPieceS_true _ _ _ _ _ _ _ R _ O6_g0.rd O6_w0.rd (by omega) (by omega) (by omega)).mono ?_
  rintro e' w7 ⟨rfl, hb7⟩
  have z7 : w6.heap.size ≤ w7.heap.size := hb7.size
  have HB7 := Lib.hid (HB6.out.trans (hb7.mono (by omega)))
  have B7_0 := Lib.hid (B6_0.out.below hb7 B6_0.out.lt)
  have R7_a := R6_a.below hb7 (by omega)
  have O7_s := O6_s.below hb7 (by omega)
  have O7_w0 := O6_w0.below hb7 (by omega)
  have O7_x := O6_x.below hb7 (by omega)
  have O7_g0 := O6_g0.below hb7 (by omega)
  clear R6_a O6_s O6_w0 O6_x O6_g0
  clear c6_0_0 c6_0_1
  have c7_0_0 := B7_0.out.cell 0 (v := .int .i64 p.w) rfl
  have c7_0_1 := B7_0.out.cell 1 (v := .int .i64 p.h) rfl
  clear hb7
  go_wp2_with fail
  refine (toCutS_any A n c w.heap.size l _ R7_a (by omega) hn).mono ?_
  rintro e' w8 ⟨g8, rfl, o8, hb8⟩
  have z8 : w7.heap.size ≤ w8.heap.size := hb8.size
  have HB8 := Lib.hid (HB7.out.trans (hb8.mono (by omega)))
  have B8_0 := Lib.hid (B7_0.out.below hb8 B7_0.out.lt)
  have R8_a := R7_a.below hb8 (by omega)
  have O8_s := O7_s.below hb8 (by omega)
  have O8_w0 := O7_w0.below hb8 (by omega)
  have O8_x := O7_x.below hb8 (by omega)
  have O8_g0 := O7_g0.below hb8 (by omega)
  clear R7_a O7_s O7_w0 O7_x O7_g0
  clear c7_0_0 c7_0_1
  have c8_0_0 := B8_0.out.cell 0 (v := .int .i64 p.w) rfl
  have c8_0_1 := B8_0.out.cell 1 (v := .int .i64 p.h) rfl
  have O8_y := o8
  clear hb8 o8
  go_wp2_with fail
  refine (eqCutS_true _ _ _ _ _ _ _ l _ O8_x.rd O8_y.rd (by omega) (by omega) hn).mono ?_
  rintro e' w9 ⟨rfl, hb9⟩
  have z9 : w8.heap.size ≤ w9.heap.size := hb9.size
  have HB9 := Lib.hid (HB8.out.trans (hb9.mono (by omega)))
  have B9_0 := Lib.hid (B8_0.out.below hb9 B8_0.out.lt)
  have R9_a := R8_a.below hb9 (by omega)
  have O9_s := O8_s.below hb9 (by omega)
  have O9_w0 := O8_w0.below hb9 (by omega)
  have O9_x := O8_x.below hb9 (by omega)
  have O9_g0 := O8_g0.below hb9 (by omega)
  have O9_y := O8_y.below hb9 (by omega)
  clear R8_a O8_s O8_w0 O8_x O8_g0 O8_y
  clear c8_0_0 c8_0_1
  have c9_0_0 := B9_0.out.cell 0 (v := .int .i64 p.w) rfl
  have c9_0_1 := B9_0.out.cell 1 (v := .int .i64 p.h) rfl
  clear hb9
  go_wp2_with fail
  refine (markCutS_any (some ⟨g4, 0, none⟩) n n w3.heap.size w4.heap.size 1 l _ O9_x hn (by omega) (by omega)).mono ?_
  rintro e' w10 ⟨rfl, o10, hm10⟩
  have z10 : w9.heap.size ≤ w10.heap.size := hm10.size
  have HB10 := Lib.hid (HB9.out.trans (hm10.below (by omega) (by omega)))
  have B10_0 := Lib.hid (B9_0.out.only hm10 (.inl (by omega)))
  have R10_a := R9_a.only hm10 (by omega) (by omega)
  have O10_s := O9_s.only hm10 (by omega)
  have O10_w0 := O9_w0.only hm10 (by omega)
  have O10_g0 := O9_g0.only hm10 (by omega)
  have O10_y := O9_y.only hm10 (by omega)
  clear R9_a O9_s O9_w0 O9_g0 O9_y
  clear c9_0_0 c9_0_1
  have c10_0_0 := B10_0.out.cell 0 (v := .int .i64 p.w) rfl
  have c10_0_1 := B10_0.out.cell 1 (v := .int .i64 p.h) rfl
  have O10_x := o10
  clear hm10 o10 O9_x
  go_wp2_with fail
  refine (eqPieceS_true _ _ _ _ _ _ _ R _ O10_g0.rd O10_w0.rd (by omega) (by omega) (by omega)).mono ?_
  rintro e' w11 ⟨rfl, hb11⟩
  have z11 : w10.heap.size ≤ w11.heap.size := hb11.size
  have HB11 := Lib.hid (HB10.out.trans (hb11.mono (by omega)))
  have B11_0 := Lib.hid (B10_0.out.below hb11 B10_0.out.lt)
  have R11_a := R10_a.below hb11 (by omega)
  have O11_s := O10_s.below hb11 (by omega)
  have O11_w0 := O10_w0.below hb11 (by omega)
  have O11_x := O10_x.below hb11 (by omega)
  have O11_g0 := O10_g0.below hb11 (by omega)
  have O11_y := O10_y.below hb11 (by omega)
  clear R10_a O10_s O10_w0 O10_x O10_g0 O10_y
  clear c10_0_0 c10_0_1
  have c11_0_0 := B11_0.out.cell 0 (v := .int .i64 p.w) rfl
  have c11_0_1 := B11_0.out.cell 1 (v := .int .i64 p.h) rfl
  clear hb11
  go_wp2_with fail
  refine (markPieceS_any A6 n3 c6 w5.heap.size w6.heap.size 1 R _ O11_g0 (by omega) (by omega) (by omega)).mono ?_
  rintro e' w12 ⟨rfl, o12, hm12⟩
  have z12 : w11.heap.size ≤ w12.heap.size := hm12.size
  have HB12 := Lib.hid (HB11.out.trans (hm12.below (by omega) (by omega)))
  have B12_0 := Lib.hid (B11_0.out.only hm12 (.inl (by omega)))
  have R12_a := R11_a.only hm12 (by omega) (by omega)
  have O12_s := O11_s.only hm12 (by omega)
  have O12_w0 := O11_w0.only hm12 (by omega)
  have O12_x := O11_x.only hm12 (by omega)
  have O12_y := O11_y.only hm12 (by omega)
  clear R11_a O11_s O11_w0 O11_x O11_y
  clear c11_0_0 c11_0_1
  have c12_0_0 := B12_0.out.cell 0 (v := .int .i64 p.w) rfl
  have c12_0_1 := B12_0.out.cell 1 (v := .int .i64 p.h) rfl
  have O12_g0 := o12
  clear hm12 o12 O11_g0
  go_wp2_with fail
  refine (heldPieceS_any A6 n3 c6 w6.heap.size 1 _ O12_g0.rd (by omega) (by omega) (by omega)).mono ?_
  rintro e' _ ⟨rfl, rfl⟩
  go_wp2_with fail
  refine (toPiece_any p _).mono ?_
  rintro e' w13 ⟨rfl, hb13⟩
  have z13 : w12.heap.size ≤ w13.heap.size := hb13.size
  have HB13 := Lib.hid (HB12.out.trans (hb13.mono (by omega)))
  have B13_0 := Lib.hid (B12_0.out.below hb13 B12_0.out.lt)
  have R13_a := R12_a.below hb13 (by omega)
  have O13_w0 := O12_w0.below hb13 (by omega)
  have O13_g0 := O12_g0.below hb13 (by omega)
  clear R12_a O12_w0 O12_g0
  clear c12_0_0 c12_0_1
  have c13_0_0 := B13_0.out.cell 0 (v := .int .i64 p.w) rfl
  have c13_0_1 := B13_0.out.cell 1 (v := .int .i64 p.h) rfl
  clear hb13
  go_wp2_with fail
  refine (toCutS_any A n c w.heap.size l _ R13_a (by omega) hn).mono ?_
  rintro e' w14 ⟨g14, rfl, o14, hb14⟩
  have z14 : w13.heap.size ≤ w14.heap.size := hb14.size
  have HB14 := Lib.hid (HB13.out.trans (hb14.mono (by omega)))
  have B14_0 := Lib.hid (B13_0.out.below hb14 B13_0.out.lt)
  have R14_a := R13_a.below hb14 (by omega)
  have O14_w0 := O13_w0.below hb14 (by omega)
  have O14_g0 := O13_g0.below hb14 (by omega)
  clear R13_a O13_w0 O13_g0
  clear c13_0_0 c13_0_1
  have c14_0_0 := B14_0.out.cell 0 (v := .int .i64 p.w) rfl
  have c14_0_1 := B14_0.out.cell 1 (v := .int .i64 p.h) rfl
  have O14_z := o14
  clear hb14 o14
  go_wp2_with fail
  refine (implRc_any p (some ⟨g14, 0, none⟩) n n w14.heap.size l R Cd _ O14_z.rd (by omega) (by omega) HR.out HCd.out).mono ?_
  rintro e' w15 ⟨A15, n15, c15, rfl, o15, hn15, hb15⟩
  obtain rfl : n3 = n15 := O14_w0.rd.1.symm.trans o15.rd.1
  have z15 : w14.heap.size ≤ w15.heap.size := hb15.size
  have HB15 := Lib.hid (HB14.out.trans (hb15.mono (by omega)))
  have B15_0 := Lib.hid (B14_0.out.below hb15 B14_0.out.lt)
  have R15_a := R14_a.below hb15 (by omega)
  have O15_w0 := O14_w0.below hb15 (by omega)
  have O15_g0 := O14_g0.below hb15 (by omega)
  have O15_z := O14_z.below hb15 (by omega)
  clear R14_a O14_w0 O14_g0 O14_z
  clear c14_0_0 c14_0_1
  have c15_0_0 := B15_0.out.cell 0 (v := .int .i64 p.w) rfl
  have c15_0_1 := B15_0.out.cell 1 (v := .int .i64 p.h) rfl
  have O15_h0 := o15
  clear hb15 o15
  go_wp2_with fail
  refine (eqPieceS_true _ _ _ _ _ _ _ R _ O15_h0.rd O15_w0.rd (by omega) (by omega) (by omega)).mono ?_
  rintro e' w16 ⟨rfl, hb16⟩
  have z16 : w15.heap.size ≤ w16.heap.size := hb16.size
  have HB16 := Lib.hid (HB15.out.trans (hb16.mono (by omega)))
  have B16_0 := Lib.hid (B15_0.out.below hb16 B15_0.out.lt)
  have R16_a := R15_a.below hb16 (by omega)
  have O16_w0 := O15_w0.below hb16 (by omega)
  have O16_g0 := O15_g0.below hb16 (by omega)
  have O16_z := O15_z.below hb16 (by omega)
  have O16_h0 := O15_h0.below hb16 (by omega)
  clear R15_a O15_w0 O15_g0 O15_z O15_h0
  clear c15_0_0 c15_0_1
  have c16_0_0 := B16_0.out.cell 0 (v := .int .i64 p.w) rfl
  have c16_0_1 := B16_0.out.cell 1 (v := .int .i64 p.h) rfl
  clear hb16
  go_wp2_with fail
  refine (heldPieceS_any A6 n3 c6 w6.heap.size 1 _ O16_g0.rd (by omega) (by omega) (by omega)).mono ?_
  rintro e' _ ⟨rfl, rfl⟩
  go_wp2_with fail
  go_ret
  exact ⟨rfl, HB16.out⟩
end Go.Proofs.Ytpidcbbpcgbfiaa
