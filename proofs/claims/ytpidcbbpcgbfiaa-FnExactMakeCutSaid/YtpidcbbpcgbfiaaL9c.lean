/- The walk of the exact law of MakeCut, out of the contracts. -/
import Derived.Test.YtpidcbbpcgbfiaaPcLw
import Derived.Test.YtpidcbbpcgbfiaaCtLw
import Derived.Test.YtpidcbbpcgbfiaaGuMc
import Derived.Test.YtpidcbbpcgbfiaaLw9
import Derived.Deep.RegionHeld3
namespace Go.Proofs.Ytpidcbbpcgbfiaa
open Go.RowKit
set_option linter.unusedVariables false

theorem calls_pcc {P : Program} {f : FuncId} {args : Array Value} {w : World} {R : List Pc} {C : Int} (h : Calls P f args w fun e w' => PcC w R C e w') :
    Calls P f args w fun e w' => ∃ A n c, e = .returned (.tuple #[.slice A n c, .int .i64 C]) ∧ OwnS Pc.S w' w.heap.size w'.heap.size (.slice A n c) R ∧ n ≤ 1048576 ∧ Below w.heap.size w w' := h
set_option maxRecDepth 100000 in
set_option maxHeartbeats 8000000 in
theorem w_FnExactMakeCut (A : Option Addr) (n c : Nat) (l : List Pc) (x : Ct) (w : World) (ha : RdS Pc.S w w.heap.size A n l) (hm : n ≤ 9223372036854775807) :
    Calls Try.prog 5 #[.slice A n c, x.agg] w fun e w' => e = .returned (.bool true) ∧ Below w.heap.size w w' := by
  by_cases hs : 1048576 < n
  · have B0_0 := Lib.hid (Blk.new (w := w) (g := w.heap.size) #[.int .i64 x.i, .bool x.a, .int .i64 x.t] 30 (by simp))
    have HB0 := Lib.hid ((Below.refl w.heap.size w).alloc (by simp) (.cells #[.int .i64 x.i, .bool x.a, .int .i64 x.t] 30))
    have z0 : w.heap.size + 1 = (w.alloc (.cells #[.int .i64 x.i, .bool x.a, .int .i64 x.t] 30)).heap.size := by simp
    go_enter Try.func5, Try.ntmps5
    go_wp2_with fail
    refine (szPieceS_no A n c _ hs hm).mono ?_
    rintro e' _ ⟨rfl, rfl⟩
    go_wp2_with fail
    go_ret
    exact ⟨rfl, HB0.out⟩
  have hn : n ≤ 1048576 := by omega
  have hq0 : ¬ (1048576 - (n : Int) < 0) := by omega
  obtain ⟨R, hR⟩ : ∃ v, Gu.mkR l x = v := ⟨_, rfl⟩
  have HR := Lib.hid hR
  clear hR
  obtain ⟨Cd, hCd⟩ : ∃ v, Gu.mkC l x = v := ⟨_, rfl⟩
  have HCd := Lib.hid hCd
  clear hCd
  have B0_0 := Lib.hid (Blk.new (w := w) (g := w.heap.size) #[.int .i64 x.i, .bool x.a, .int .i64 x.t] 30 (by simp))
  have HB0 := Lib.hid ((Below.refl w.heap.size w).alloc (by simp) (.cells #[.int .i64 x.i, .bool x.a, .int .i64 x.t] 30))
  have z0 : w.heap.size + 1 = (w.alloc (.cells #[.int .i64 x.i, .bool x.a, .int .i64 x.t] 30)).heap.size := by simp
  have R0_a := (RdS.alloc ha (by first | exact Nat.le_refl _ | (simp; done) | (simp; omega)) (.cells #[.int .i64 x.i, .bool x.a, .int .i64 x.t] 30))
  go_enter Try.func5, Try.ntmps5
  go_wp2_with fail
  refine (szPieceS_yes A n c _ hn).mono ?_
  rintro e' _ ⟨rfl, rfl⟩
  go_wp2_with fail
  have RD0 : RdS Pc.S (w.alloc (.cells #[.int .i64 x.i, .bool x.a, .int .i64 x.t] 30)).drew w.heap.size A n l := R0_a
  have hzD0 : w.heap.size ≤ (w.alloc (.cells #[.int .i64 x.i, .bool x.a, .int .i64 x.t] 30)).drew.heap.size := (by omega : w.heap.size ≤ (w.alloc (.cells #[.int .i64 x.i, .bool x.a, .int .i64 x.t] 30)).heap.size)
  go_region_held3 (fun V => V.cell? ⟨w.heap.size, 0, none⟩ = some (.int .i64 x.i) ∧ V.cell? ⟨w.heap.size, 1, none⟩ = some (.bool x.a) ∧ V.cell? ⟨w.heap.size, 2, none⟩ = some (.int .i64 x.t))
    (first | go_keep | (refine ⟨?_, ?_, ?_⟩ <;> (first | go_keep | (rw [hbk.cell (by first | omega | (simp; done) | (simp; omega))]; first | assumption | go_keep))))
    (first
      | (go_at_call 19; with_reducible refine (calls_pcc (specMc_any g1 0 n n w1.heap.size l x.i x.a x.t R Cd _ o2.rd z2_ hn (Nat.le_refl _) HR.out HCd.out)).mono ?_; rintro e' w3 ⟨A3, n3, c3, rfl, o3, hn3, hbk⟩; have hbk3 := hbk)
      | (go_at_call 16; with_reducible refine (toCut_any x _).mono ?_; rintro e' w2 ⟨rfl, hbk⟩; have hbk2 := hbk; have z2_ := hbk.size; have o2 := o1_.below hbk (Nat.le_refl _))
      | (go_at_call 15; with_reducible refine (toPieceS_any A n c w.heap.size l _ RD0 hzD0 hn).mono ?_; rintro e' w1 ⟨g1, rfl, o1_, hbk⟩; have hbk1 := hbk; have z1_ := sz_drew9 hbk))
  have hbq3 : Below (w.alloc (.cells #[.int .i64 x.i, .bool x.a, .int .i64 x.t] 30)).heap.size (w.alloc (.cells #[.int .i64 x.i, .bool x.a, .int .i64 x.t] 30)) w3 := (below_drewN' (Below.refl _ (w.alloc (.cells #[.int .i64 x.i, .bool x.a, .int .i64 x.t] 30))) 1).trans ((hbk1.mono (show (w.alloc (.cells #[.int .i64 x.i, .bool x.a, .int .i64 x.t] 30)).heap.size ≤ (w.alloc (.cells #[.int .i64 x.i, .bool x.a, .int .i64 x.t] 30)).drew.heap.size from Nat.le_refl _)).trans ((hbk2.mono z1_).trans (hbk3.mono (Nat.le_trans z1_ z2_))))
  have hz_2 : (w.alloc (.cells #[.int .i64 x.i, .bool x.a, .int .i64 x.t] 30)).heap.size ≤ w2.heap.size := Nat.le_trans z1_ z2_
  have hz_3 : w2.heap.size ≤ w3.heap.size := hbk3.size
  clear o1_ o2 hbk hbk1 hbk2 hbk3 RD0
  have z3 : (w.alloc (.cells #[.int .i64 x.i, .bool x.a, .int .i64 x.t] 30)).heap.size ≤ w3.heap.size := hbq3.size
  have HB3 := Lib.hid (HB0.out.trans (hbq3.mono (by omega)))
  have B3_0 := Lib.hid (B0_0.out.below hbq3 B0_0.out.lt)
  have R3_a := R0_a.below hbq3 (by omega)
  clear R0_a
  have c3_0_0 := B3_0.out.cell 0 (v := .int .i64 x.i) rfl
  have c3_0_1 := B3_0.out.cell 1 (v := .bool x.a) rfl
  have c3_0_2 := B3_0.out.cell 2 (v := .int .i64 x.t) rfl
  clear hbq3
  have O3_w0 := o3
  clear o3
  go_wp2_with fail
  refine (toPieceS_any A n c w.heap.size l _ R3_a (by omega) hn).mono ?_
  rintro e' w4 ⟨g4, rfl, o4, hb4⟩
  have z4 : w3.heap.size ≤ w4.heap.size := hb4.size
  have HB4 := Lib.hid (HB3.out.trans (hb4.mono (by omega)))
  have B4_0 := Lib.hid (B3_0.out.below hb4 B3_0.out.lt)
  have R4_a := R3_a.below hb4 (by omega)
  have O4_w0 := O3_w0.below hb4 (by omega)
  clear R3_a O3_w0
  clear c3_0_0 c3_0_1 c3_0_2
  have c4_0_0 := B4_0.out.cell 0 (v := .int .i64 x.i) rfl
  have c4_0_1 := B4_0.out.cell 1 (v := .bool x.a) rfl
  have c4_0_2 := B4_0.out.cell 2 (v := .int .i64 x.t) rfl
  have O4_x := o4
  clear hb4 o4
  go_wp2_with fail
  refine (toCut_any x _).mono ?_
  rintro e' w5 ⟨rfl, hb5⟩
  have z5 : w4.heap.size ≤ w5.heap.size := hb5.size
  have HB5 := Lib.hid (HB4.out.trans (hb5.mono (by omega)))
  have B5_0 := Lib.hid (B4_0.out.below hb5 B4_0.out.lt)
  have R5_a := R4_a.below hb5 (by omega)
  have O5_w0 := O4_w0.below hb5 (by omega)
  have O5_x := O4_x.below hb5 (by omega)
  clear R4_a O4_w0 O4_x
  clear c4_0_0 c4_0_1 c4_0_2
  have c5_0_0 := B5_0.out.cell 0 (v := .int .i64 x.i) rfl
  have c5_0_1 := B5_0.out.cell 1 (v := .bool x.a) rfl
  have c5_0_2 := B5_0.out.cell 2 (v := .int .i64 x.t) rfl
  clear hb5
  go_wp2_with fail
  refine (implMc_any g4 0 n n w4.heap.size l x.i x.a x.t R Cd _ O5_x.rd (by omega) hn (Nat.le_refl _) HR.out HCd.out).mono ?_
  rintro e' w6 ⟨A6, n6, c6, rfl, o6, hn6, hb6⟩
  obtain rfl : n3 = n6 := O5_w0.rd.1.symm.trans o6.rd.1
  have z6 : w5.heap.size ≤ w6.heap.size := hb6.size
  have HB6 := Lib.hid (HB5.out.trans (hb6.mono (by omega)))
  have B6_0 := Lib.hid (B5_0.out.below hb6 B5_0.out.lt)
  have R6_a := R5_a.below hb6 (by omega)
  have O6_w0 := O5_w0.below hb6 (by omega)
  have O6_x := O5_x.below hb6 (by omega)
  clear R5_a O5_w0 O5_x
  clear c5_0_0 c5_0_1 c5_0_2
  have c6_0_0 := B6_0.out.cell 0 (v := .int .i64 x.i) rfl
  have c6_0_1 := B6_0.out.cell 1 (v := .bool x.a) rfl
  have c6_0_2 := B6_0.out.cell 2 (v := .int .i64 x.t) rfl
  have O6_g0 := o6
  clear hb6 o6
  go_wp2_with fail
  refine (eqPieceS_true _ _ _ _ _ _ _ R _ O6_g0.rd O6_w0.rd (by omega) (by omega) (by omega)).mono ?_
  rintro e' w7 ⟨rfl, hb7⟩
  have z7 : w6.heap.size ≤ w7.heap.size := hb7.size
  have HB7 := Lib.hid (HB6.out.trans (hb7.mono (by omega)))
  have B7_0 := Lib.hid (B6_0.out.below hb7 B6_0.out.lt)
  have R7_a := R6_a.below hb7 (by omega)
  have O7_w0 := O6_w0.below hb7 (by omega)
  have O7_x := O6_x.below hb7 (by omega)
  have O7_g0 := O6_g0.below hb7 (by omega)
  clear R6_a O6_w0 O6_x O6_g0
  clear c6_0_0 c6_0_1 c6_0_2
  have c7_0_0 := B7_0.out.cell 0 (v := .int .i64 x.i) rfl
  have c7_0_1 := B7_0.out.cell 1 (v := .bool x.a) rfl
  have c7_0_2 := B7_0.out.cell 2 (v := .int .i64 x.t) rfl
  clear hb7
  go_wp2_with fail
  refine (toPieceS_any A n c w.heap.size l _ R7_a (by omega) hn).mono ?_
  rintro e' w8 ⟨g8, rfl, o8, hb8⟩
  have z8 : w7.heap.size ≤ w8.heap.size := hb8.size
  have HB8 := Lib.hid (HB7.out.trans (hb8.mono (by omega)))
  have B8_0 := Lib.hid (B7_0.out.below hb8 B7_0.out.lt)
  have R8_a := R7_a.below hb8 (by omega)
  have O8_w0 := O7_w0.below hb8 (by omega)
  have O8_x := O7_x.below hb8 (by omega)
  have O8_g0 := O7_g0.below hb8 (by omega)
  clear R7_a O7_w0 O7_x O7_g0
  clear c7_0_0 c7_0_1 c7_0_2
  have c8_0_0 := B8_0.out.cell 0 (v := .int .i64 x.i) rfl
  have c8_0_1 := B8_0.out.cell 1 (v := .bool x.a) rfl
  have c8_0_2 := B8_0.out.cell 2 (v := .int .i64 x.t) rfl
  have O8_y := o8
  clear hb8 o8
  go_wp2_with fail
  refine (eqPieceS_true _ _ _ _ _ _ _ l _ O8_x.rd O8_y.rd (by omega) (by omega) hn).mono ?_
  rintro e' w9 ⟨rfl, hb9⟩
  have z9 : w8.heap.size ≤ w9.heap.size := hb9.size
  have HB9 := Lib.hid (HB8.out.trans (hb9.mono (by omega)))
  have B9_0 := Lib.hid (B8_0.out.below hb9 B8_0.out.lt)
  have R9_a := R8_a.below hb9 (by omega)
  have O9_w0 := O8_w0.below hb9 (by omega)
  have O9_x := O8_x.below hb9 (by omega)
  have O9_g0 := O8_g0.below hb9 (by omega)
  have O9_y := O8_y.below hb9 (by omega)
  clear R8_a O8_w0 O8_x O8_g0 O8_y
  clear c8_0_0 c8_0_1 c8_0_2
  have c9_0_0 := B9_0.out.cell 0 (v := .int .i64 x.i) rfl
  have c9_0_1 := B9_0.out.cell 1 (v := .bool x.a) rfl
  have c9_0_2 := B9_0.out.cell 2 (v := .int .i64 x.t) rfl
  clear hb9
  go_wp2_with fail
  refine (markPieceS_any (some ⟨g4, 0, none⟩) n n w3.heap.size w4.heap.size 1 l _ O9_x hn (by omega) (by omega)).mono ?_
  rintro e' w10 ⟨rfl, o10, hm10⟩
  have z10 : w9.heap.size ≤ w10.heap.size := hm10.size
  have HB10 := Lib.hid (HB9.out.trans (hm10.below (by omega) (by omega)))
  have B10_0 := Lib.hid (B9_0.out.only hm10 (.inl (by omega)))
  have R10_a := R9_a.only hm10 (by omega) (by omega)
  have O10_w0 := O9_w0.only hm10 (by omega)
  have O10_g0 := O9_g0.only hm10 (by omega)
  have O10_y := O9_y.only hm10 (by omega)
  clear R9_a O9_w0 O9_g0 O9_y
  clear c9_0_0 c9_0_1 c9_0_2
  have c10_0_0 := B10_0.out.cell 0 (v := .int .i64 x.i) rfl
  have c10_0_1 := B10_0.out.cell 1 (v := .bool x.a) rfl
  have c10_0_2 := B10_0.out.cell 2 (v := .int .i64 x.t) rfl
  have O10_x := o10
  clear hm10 o10 O9_x
  go_wp2_with fail
  refine (eqPieceS_true _ _ _ _ _ _ _ R _ O10_g0.rd O10_w0.rd (by omega) (by omega) (by omega)).mono ?_
  rintro e' w11 ⟨rfl, hb11⟩
  have z11 : w10.heap.size ≤ w11.heap.size := hb11.size
  have HB11 := Lib.hid (HB10.out.trans (hb11.mono (by omega)))
  have B11_0 := Lib.hid (B10_0.out.below hb11 B10_0.out.lt)
  have R11_a := R10_a.below hb11 (by omega)
  have O11_w0 := O10_w0.below hb11 (by omega)
  have O11_x := O10_x.below hb11 (by omega)
  have O11_g0 := O10_g0.below hb11 (by omega)
  have O11_y := O10_y.below hb11 (by omega)
  clear R10_a O10_w0 O10_x O10_g0 O10_y
  clear c10_0_0 c10_0_1 c10_0_2
  have c11_0_0 := B11_0.out.cell 0 (v := .int .i64 x.i) rfl
  have c11_0_1 := B11_0.out.cell 1 (v := .bool x.a) rfl
  have c11_0_2 := B11_0.out.cell 2 (v := .int .i64 x.t) rfl
  clear hb11
  go_wp2_with fail
  refine (markPieceS_any A6 n3 c6 w5.heap.size w6.heap.size 1 R _ O11_g0 (by omega) (by omega) (by omega)).mono ?_
  rintro e' w12 ⟨rfl, o12, hm12⟩
  have z12 : w11.heap.size ≤ w12.heap.size := hm12.size
  have HB12 := Lib.hid (HB11.out.trans (hm12.below (by omega) (by omega)))
  have B12_0 := Lib.hid (B11_0.out.only hm12 (.inl (by omega)))
  have R12_a := R11_a.only hm12 (by omega) (by omega)
  have O12_w0 := O11_w0.only hm12 (by omega)
  have O12_x := O11_x.only hm12 (by omega)
  have O12_y := O11_y.only hm12 (by omega)
  clear R11_a O11_w0 O11_x O11_y
  clear c11_0_0 c11_0_1 c11_0_2
  have c12_0_0 := B12_0.out.cell 0 (v := .int .i64 x.i) rfl
  have c12_0_1 := B12_0.out.cell 1 (v := .bool x.a) rfl
  have c12_0_2 := B12_0.out.cell 2 (v := .int .i64 x.t) rfl
  have O12_g0 := o12
  clear hm12 o12 O11_g0
  go_wp2_with fail
  refine (heldPieceS_any A6 n3 c6 w6.heap.size 1 _ O12_g0.rd (by omega) (by omega) (by omega)).mono ?_
  rintro e' _ ⟨rfl, rfl⟩
  go_wp2_with fail
  have RD12 : RdS Pc.S w12.drew w.heap.size A n l := R12_a
  have hzD12 : w.heap.size ≤ w12.drew.heap.size := (by omega : w.heap.size ≤ w12.heap.size)
  go_region_held3 (fun V => V.cell? ⟨w.heap.size, 0, none⟩ = some (.int .i64 x.i) ∧ V.cell? ⟨w.heap.size, 1, none⟩ = some (.bool x.a) ∧ V.cell? ⟨w.heap.size, 2, none⟩ = some (.int .i64 x.t))
    (first | go_keep | (refine ⟨?_, ?_, ?_⟩ <;> (first | go_keep | (rw [hbk.cell (by first | omega | (simp; done) | (simp; omega))]; first | assumption | go_keep))))
    (first
      | (go_at_call 20; with_reducible refine (calls_pcc (implMc_any g13 0 n n w13.heap.size l x.i x.a x.t R Cd _ o14.rd z14_ hn (Nat.le_refl _) HR.out HCd.out)).mono ?_; rintro e' w15 ⟨A15, n15, c15, rfl, o15, hn15, hbk⟩; have hbk15 := hbk)
      | (go_at_call 16; with_reducible refine (toCut_any x _).mono ?_; rintro e' w14 ⟨rfl, hbk⟩; have hbk14 := hbk; have z14_ := hbk.size; have o14 := o13_.below hbk (Nat.le_refl _))
      | (go_at_call 15; with_reducible refine (toPieceS_any A n c w.heap.size l _ RD12 hzD12 hn).mono ?_; rintro e' w13 ⟨g13, rfl, o13_, hbk⟩; have hbk13 := hbk; have z13_ := sz_drew9 hbk))
  have hbq15 : Below w12.heap.size w12 w15 := (below_drewN' (Below.refl _ w12) 1).trans ((hbk13.mono (show w12.heap.size ≤ w12.drew.heap.size from Nat.le_refl _)).trans ((hbk14.mono z13_).trans (hbk15.mono (Nat.le_trans z13_ z14_))))
  have hz_14 : w12.heap.size ≤ w14.heap.size := Nat.le_trans z13_ z14_
  have hz_15 : w14.heap.size ≤ w15.heap.size := hbk15.size
  obtain rfl : n3 = n15 := O12_w0.rd.1.symm.trans o15.rd.1
  clear o13_ o14 hbk hbk13 hbk14 hbk15 RD12
  have z15 : w12.heap.size ≤ w15.heap.size := hbq15.size
  have HB15 := Lib.hid (HB12.out.trans (hbq15.mono (by omega)))
  have B15_0 := Lib.hid (B12_0.out.below hbq15 B12_0.out.lt)
  have R15_a := R12_a.below hbq15 (by omega)
  have O15_w0 := O12_w0.below hbq15 (by omega)
  have O15_g0 := O12_g0.below hbq15 (by omega)
  clear R12_a O12_w0 O12_g0
  clear c12_0_0 c12_0_1 c12_0_2
  have c15_0_0 := B15_0.out.cell 0 (v := .int .i64 x.i) rfl
  have c15_0_1 := B15_0.out.cell 1 (v := .bool x.a) rfl
  have c15_0_2 := B15_0.out.cell 2 (v := .int .i64 x.t) rfl
  clear hbq15
  have O15_h0 := o15
  clear o15
  go_wp2_with fail
  refine (eqPieceS_true _ _ _ _ _ _ _ R _ O15_h0.rd O15_w0.rd (by omega) (by omega) (by omega)).mono ?_
  rintro e' w16 ⟨rfl, hb16⟩
  have z16 : w15.heap.size ≤ w16.heap.size := hb16.size
  have HB16 := Lib.hid (HB15.out.trans (hb16.mono (by omega)))
  have B16_0 := Lib.hid (B15_0.out.below hb16 B15_0.out.lt)
  have R16_a := R15_a.below hb16 (by omega)
  have O16_w0 := O15_w0.below hb16 (by omega)
  have O16_g0 := O15_g0.below hb16 (by omega)
  have O16_h0 := O15_h0.below hb16 (by omega)
  clear R15_a O15_w0 O15_g0 O15_h0
  clear c15_0_0 c15_0_1 c15_0_2
  have c16_0_0 := B16_0.out.cell 0 (v := .int .i64 x.i) rfl
  have c16_0_1 := B16_0.out.cell 1 (v := .bool x.a) rfl
  have c16_0_2 := B16_0.out.cell 2 (v := .int .i64 x.t) rfl
  clear hb16
  go_wp2_with fail
  refine (heldPieceS_any A6 n3 c6 w6.heap.size 1 _ O16_g0.rd (by omega) (by omega) (by omega)).mono ?_
  rintro e' _ ⟨rfl, rfl⟩
  go_wp2_with fail
  go_ret
  exact ⟨rfl, HB16.out⟩
end Go.Proofs.Ytpidcbbpcgbfiaa
