/- The walk of the law FnSetups, out of the contracts. -/
import Derived.Test.YtnfnmdeiaihgnaaSxLk
namespace Go.Proofs.Ytnfnmdeiaihgnaa
open Go.RowKit
set_option linter.unusedVariables false

theorem calls_secF {P : Program} {f : FuncId} {args : Array Value} {w : World} {R : List Un} {C : Int} (h : Calls P f args w fun e w' => SeC w R C e w') :
    Calls P f args w fun e w' => ∃ A n c, e = .returned (.tuple #[.slice A n c, .int .i64 C]) ∧ OwnS Un.S w' w.heap.size w'.heap.size (.slice A n c) R ∧ n ≤ 1048576 ∧ Below w.heap.size w w' := h.mono fun _ _ ⟨A, n, c, h1, h2, h3, _, h5⟩ => ⟨A, n, c, h1, h2, h3, h5⟩
set_option maxRecDepth 100000 in
set_option maxHeartbeats 40000000 in
theorem w_FnSetups (A : Option Addr) (N C : Nat) (l : List Int) (w : World) (h : Rd U w w.heap.size A N l) (hl : inByte l) :
    Calls Try.prog 3 #[.slice A N C] w fun e' w' => e' = .returned (.bool true) ∧ Below w.heap.size w w' := by
  by_cases hN : N ≤ 4096
  · have HB0 := Lib.hid (Below.refl w.heap.size w)
    have z0 : w.heap.size + 0 = w.heap.size := by simp
    have R0_code := h
    have HF : Hid (decide (4096 < N) = false) := decide_eq_false (by omega)
    go_enter Try.func3, Try.ntmps3
    go_wp2_with fail
    refine (big_any A N C _).mono ?_
    rintro e _ ⟨rfl, rfl⟩
    rw [HF.out]
    go_wp2_with fail
    refine (DrawZ_any N C w.heap.size A l _ R0_code hl (by omega) (by omega)).mono ?_
    rintro e' w1 ⟨a, b, c, t, rfl, ha, hb, hx, ht, hb1⟩
    have z1 : w.heap.size ≤ w1.heap.size := hb1.size
    have HB1 := Lib.hid (HB0.out.trans (hb1.mono (by omega)))
    have R1_code := R0_code.below hb1 (by omega)
    clear R0_code
    clear hb1
    have hb2 : Below w1.heap.size w1 (w1.alloc (.cells #[.int .i64 c.w, .int .i64 c.h] 25)) := (Below.refl _ _).alloc (Nat.le_refl _) _
    have zz2 : (w1.alloc (.cells #[.int .i64 c.w, .int .i64 c.h] 25)).heap.size = w1.heap.size + 1 := by simp
    have z2 : w1.heap.size ≤ (w1.alloc (.cells #[.int .i64 c.w, .int .i64 c.h] 25)).heap.size := by omega
    have HB2 := Lib.hid (HB1.out.trans (hb2.mono (by omega)))
    have R2_code := R1_code.below hb2 (by omega)
    have B2_0 := Lib.hid (Blk.new (w := w1) (g := w1.heap.size) #[.int .i64 c.w, .int .i64 c.h] 25 rfl)
    clear hb2
    have c2_0_0 := B2_0.out.cell 0 (v := .int .i64 c.w) rfl
    have c2_0_1 := B2_0.out.cell 1 (v := .int .i64 c.h) rfl
    go_wp2_with fail
    obtain ⟨R, hR⟩ : ∃ v, Su.suR a b c t.data.toList = v := ⟨_, rfl⟩
    have HR := Lib.hid hR
    clear hR
    obtain ⟨D, hD⟩ : ∃ v, Su.code a b c t.data.toList = v := ⟨_, rfl⟩
    have HD := Lib.hid hD
    clear hD
    refine (calls_secF (implSe_any a b c t R D _ (by omega) HR.out HD.out)).mono ?_
    rintro e' w3 ⟨A3, n3, c3, rfl, o3, hn3, hb3⟩
    have z3 : (w1.alloc (.cells #[.int .i64 c.w, .int .i64 c.h] 25)).heap.size ≤ w3.heap.size := hb3.size
    have HB3 := Lib.hid (HB2.out.trans (hb3.mono (by omega)))
    have B3_0 := Lib.hid (B2_0.out.below hb3 B2_0.out.lt)
    have R3_code := R2_code.below hb3 (by omega)
    clear R2_code
    clear c2_0_0 c2_0_1
    have c3_0_0 := B3_0.out.cell 0 (v := .int .i64 c.w) rfl
    have c3_0_1 := B3_0.out.cell 1 (v := .int .i64 c.h) rfl
    have O3_s := o3
    clear hb3 o3
    go_wp2_with fail
    refine (calls_secF (specSe_any a b c t R D _ (by omega) HR.out HD.out)).mono ?_
    rintro e' w4 ⟨A4, n4, c4, rfl, o4, hn4, hb4⟩
    obtain rfl : n3 = n4 := O3_s.rd.1.symm.trans o4.rd.1
    have z4 : w3.heap.size ≤ w4.heap.size := hb4.size
    have HB4 := Lib.hid (HB3.out.trans (hb4.mono (by omega)))
    have B4_0 := Lib.hid (B3_0.out.below hb4 B3_0.out.lt)
    have R4_code := R3_code.below hb4 (by omega)
    have O4_s := O3_s.below hb4 (by omega)
    clear R3_code O3_s
    clear c3_0_0 c3_0_1
    have c4_0_0 := B4_0.out.cell 0 (v := .int .i64 c.w) rfl
    have c4_0_1 := B4_0.out.cell 1 (v := .int .i64 c.h) rfl
    have O4_m := o4
    clear hb4 o4
    go_wp2_with fail
    refine (DrawFz_any N C w.heap.size A l _ R4_code hl (by omega) (by omega)).mono ?_
    rintro e' w5 ⟨a2, b2, d, t2, k, rfl, ha2, hb2, hx2, ht2, hk, hb5⟩
    have z5 : w4.heap.size ≤ w5.heap.size := hb5.size
    have HB5 := Lib.hid (HB4.out.trans (hb5.mono (by omega)))
    have B5_0 := Lib.hid (B4_0.out.below hb5 B4_0.out.lt)
    have R5_code := R4_code.below hb5 (by omega)
    have O5_s := O4_s.below hb5 (by omega)
    have O5_m := O4_m.below hb5 (by omega)
    clear R4_code O4_s O4_m
    clear c4_0_0 c4_0_1
    have c5_0_0 := B5_0.out.cell 0 (v := .int .i64 c.w) rfl
    have c5_0_1 := B5_0.out.cell 1 (v := .int .i64 c.h) rfl
    clear hb5
    have hb6 : Below w5.heap.size w5 (w5.alloc (.cells #[.int .i64 d.w, .int .i64 d.h] 25)) := (Below.refl _ _).alloc (Nat.le_refl _) _
    have zz6 : (w5.alloc (.cells #[.int .i64 d.w, .int .i64 d.h] 25)).heap.size = w5.heap.size + 1 := by simp
    have z6 : w5.heap.size ≤ (w5.alloc (.cells #[.int .i64 d.w, .int .i64 d.h] 25)).heap.size := by omega
    have HB6 := Lib.hid (HB5.out.trans (hb6.mono (by omega)))
    have B6_0 := Lib.hid (B5_0.out.below hb6 B5_0.out.lt)
    have R6_code := R5_code.below hb6 (by omega)
    have O6_s := O5_s.below hb6 (by omega)
    have O6_m := O5_m.below hb6 (by omega)
    have B6_1 := Lib.hid (Blk.new (w := w5) (g := w5.heap.size) #[.int .i64 d.w, .int .i64 d.h] 25 rfl)
    clear hb6
    clear c5_0_0 c5_0_1
    have c6_0_0 := B6_0.out.cell 0 (v := .int .i64 c.w) rfl
    have c6_0_1 := B6_0.out.cell 1 (v := .int .i64 c.h) rfl
    have c6_1_0 := B6_1.out.cell 0 (v := .int .i64 d.w) rfl
    have c6_1_1 := B6_1.out.cell 1 (v := .int .i64 d.h) rfl
    go_wp2_with fail
    obtain ⟨P, hP⟩ : ∃ v, Su.fzR a2 b2 d t2.data.toList k = v := ⟨_, rfl⟩
    have HP := Lib.hid hP
    clear hP
    obtain ⟨E, hE⟩ : ∃ v, Su.fzC a2 b2 d t2.data.toList k = v := ⟨_, rfl⟩
    have HE := Lib.hid hE
    clear hE
    refine (implFz_any a2 b2 d t2 k P E _ (by omega) ⟨by omega, by omega⟩ HP.out HE.out).mono ?_
    rintro e' w7 ⟨rfl, hb7⟩
    have z7 : (w5.alloc (.cells #[.int .i64 d.w, .int .i64 d.h] 25)).heap.size ≤ w7.heap.size := hb7.size
    have HB7 := Lib.hid (HB6.out.trans (hb7.mono (by omega)))
    have B7_0 := Lib.hid (B6_0.out.below hb7 B6_0.out.lt)
    have B7_1 := Lib.hid (B6_1.out.below hb7 B6_1.out.lt)
    have R7_code := R6_code.below hb7 (by omega)
    have O7_s := O6_s.below hb7 (by omega)
    have O7_m := O6_m.below hb7 (by omega)
    clear R6_code O6_s O6_m
    clear c6_0_0 c6_0_1 c6_1_0 c6_1_1
    have c7_0_0 := B7_0.out.cell 0 (v := .int .i64 c.w) rfl
    have c7_0_1 := B7_0.out.cell 1 (v := .int .i64 c.h) rfl
    have c7_1_0 := B7_1.out.cell 0 (v := .int .i64 d.w) rfl
    have c7_1_1 := B7_1.out.cell 1 (v := .int .i64 d.h) rfl
    clear hb7
    have hb8 : Below w7.heap.size w7 (w7.alloc (.cells #[.int .i64 P.w, .int .i64 P.h] 25)) := (Below.refl _ _).alloc (Nat.le_refl _) _
    have zz8 : (w7.alloc (.cells #[.int .i64 P.w, .int .i64 P.h] 25)).heap.size = w7.heap.size + 1 := by simp
    have z8 : w7.heap.size ≤ (w7.alloc (.cells #[.int .i64 P.w, .int .i64 P.h] 25)).heap.size := by omega
    have HB8 := Lib.hid (HB7.out.trans (hb8.mono (by omega)))
    have B8_0 := Lib.hid (B7_0.out.below hb8 B7_0.out.lt)
    have B8_1 := Lib.hid (B7_1.out.below hb8 B7_1.out.lt)
    have R8_code := R7_code.below hb8 (by omega)
    have O8_s := O7_s.below hb8 (by omega)
    have O8_m := O7_m.below hb8 (by omega)
    have B8_2 := Lib.hid (Blk.new (w := w7) (g := w7.heap.size) #[.int .i64 P.w, .int .i64 P.h] 25 rfl)
    clear hb8
    clear c7_0_0 c7_0_1 c7_1_0 c7_1_1
    have c8_0_0 := B8_0.out.cell 0 (v := .int .i64 c.w) rfl
    have c8_0_1 := B8_0.out.cell 1 (v := .int .i64 c.h) rfl
    have c8_1_0 := B8_1.out.cell 0 (v := .int .i64 d.w) rfl
    have c8_1_1 := B8_1.out.cell 1 (v := .int .i64 d.h) rfl
    have c8_2_0 := B8_2.out.cell 0 (v := .int .i64 P.w) rfl
    have c8_2_1 := B8_2.out.cell 1 (v := .int .i64 P.h) rfl
    go_wp2_with fail
    refine (specFz_any a2 b2 d t2 k P E _ (by omega) HP.out HE.out).mono ?_
    rintro e' w9 ⟨rfl, hb9⟩
    have z9 : (w7.alloc (.cells #[.int .i64 P.w, .int .i64 P.h] 25)).heap.size ≤ w9.heap.size := hb9.size
    have HB9 := Lib.hid (HB8.out.trans (hb9.mono (by omega)))
    have B9_0 := Lib.hid (B8_0.out.below hb9 B8_0.out.lt)
    have B9_1 := Lib.hid (B8_1.out.below hb9 B8_1.out.lt)
    have B9_2 := Lib.hid (B8_2.out.below hb9 B8_2.out.lt)
    have R9_code := R8_code.below hb9 (by omega)
    have O9_s := O8_s.below hb9 (by omega)
    have O9_m := O8_m.below hb9 (by omega)
    clear R8_code O8_s O8_m
    clear c8_0_0 c8_0_1 c8_1_0 c8_1_1 c8_2_0 c8_2_1
    have c9_0_0 := B9_0.out.cell 0 (v := .int .i64 c.w) rfl
    have c9_0_1 := B9_0.out.cell 1 (v := .int .i64 c.h) rfl
    have c9_1_0 := B9_1.out.cell 0 (v := .int .i64 d.w) rfl
    have c9_1_1 := B9_1.out.cell 1 (v := .int .i64 d.h) rfl
    have c9_2_0 := B9_2.out.cell 0 (v := .int .i64 P.w) rfl
    have c9_2_1 := B9_2.out.cell 1 (v := .int .i64 P.h) rfl
    clear hb9
    have hb10 : Below w9.heap.size w9 (w9.alloc (.cells #[.int .i64 P.w, .int .i64 P.h] 25)) := (Below.refl _ _).alloc (Nat.le_refl _) _
    have zz10 : (w9.alloc (.cells #[.int .i64 P.w, .int .i64 P.h] 25)).heap.size = w9.heap.size + 1 := by simp
    have z10 : w9.heap.size ≤ (w9.alloc (.cells #[.int .i64 P.w, .int .i64 P.h] 25)).heap.size := by omega
    have HB10 := Lib.hid (HB9.out.trans (hb10.mono (by omega)))
    have B10_0 := Lib.hid (B9_0.out.below hb10 B9_0.out.lt)
    have B10_1 := Lib.hid (B9_1.out.below hb10 B9_1.out.lt)
    have B10_2 := Lib.hid (B9_2.out.below hb10 B9_2.out.lt)
    have R10_code := R9_code.below hb10 (by omega)
    have O10_s := O9_s.below hb10 (by omega)
    have O10_m := O9_m.below hb10 (by omega)
    have B10_3 := Lib.hid (Blk.new (w := w9) (g := w9.heap.size) #[.int .i64 P.w, .int .i64 P.h] 25 rfl)
    clear hb10
    clear c9_0_0 c9_0_1 c9_1_0 c9_1_1 c9_2_0 c9_2_1
    have c10_0_0 := B10_0.out.cell 0 (v := .int .i64 c.w) rfl
    have c10_0_1 := B10_0.out.cell 1 (v := .int .i64 c.h) rfl
    have c10_1_0 := B10_1.out.cell 0 (v := .int .i64 d.w) rfl
    have c10_1_1 := B10_1.out.cell 1 (v := .int .i64 d.h) rfl
    have c10_2_0 := B10_2.out.cell 0 (v := .int .i64 P.w) rfl
    have c10_2_1 := B10_2.out.cell 1 (v := .int .i64 P.h) rfl
    have c10_3_0 := B10_3.out.cell 0 (v := .int .i64 P.w) rfl
    have c10_3_1 := B10_3.out.cell 1 (v := .int .i64 P.h) rfl
    go_wp2_with fail
    refine (DrawSos_any N C w.heap.size A l _ R10_code hl (by omega) (by omega)).mono ?_
    rintro e' w11 ⟨A11, n11, c11, l11, rfl, o11, hn11, hb11⟩
    have hc11 : n11 ≤ c11 := o11.capU
    have z11 : (w9.alloc (.cells #[.int .i64 P.w, .int .i64 P.h] 25)).heap.size ≤ w11.heap.size := hb11.size
    have HB11 := Lib.hid (HB10.out.trans (hb11.mono (by omega)))
    have B11_0 := Lib.hid (B10_0.out.below hb11 B10_0.out.lt)
    have B11_1 := Lib.hid (B10_1.out.below hb11 B10_1.out.lt)
    have B11_2 := Lib.hid (B10_2.out.below hb11 B10_2.out.lt)
    have B11_3 := Lib.hid (B10_3.out.below hb11 B10_3.out.lt)
    have R11_code := R10_code.below hb11 (by omega)
    have O11_s := O10_s.below hb11 (by omega)
    have O11_m := O10_m.below hb11 (by omega)
    clear R10_code O10_s O10_m
    clear c10_0_0 c10_0_1 c10_1_0 c10_1_1 c10_2_0 c10_2_1 c10_3_0 c10_3_1
    have c11_0_0 := B11_0.out.cell 0 (v := .int .i64 c.w) rfl
    have c11_0_1 := B11_0.out.cell 1 (v := .int .i64 c.h) rfl
    have c11_1_0 := B11_1.out.cell 0 (v := .int .i64 d.w) rfl
    have c11_1_1 := B11_1.out.cell 1 (v := .int .i64 d.h) rfl
    have c11_2_0 := B11_2.out.cell 0 (v := .int .i64 P.w) rfl
    have c11_2_1 := B11_2.out.cell 1 (v := .int .i64 P.h) rfl
    have c11_3_0 := B11_3.out.cell 0 (v := .int .i64 P.w) rfl
    have c11_3_1 := B11_3.out.cell 1 (v := .int .i64 P.h) rfl
    have O11_x := o11
    clear hb11 o11
    go_wp2_with fail
    obtain ⟨T, hT⟩ : ∃ T : ByteArray, T.data.toList = Su.scR l11 := ⟨⟨(Su.scR l11).toArray⟩, by simp⟩
    have HT := Lib.hid hT
    clear hT
    obtain ⟨G, hG⟩ : ∃ v, Su.scC l11 = v := ⟨_, rfl⟩
    have HG := Lib.hid hG
    clear hG
    refine (implSc_any A11 n11 c11 _ l11 T G _ O11_x.rd (by omega) (by omega) hc11 HT.out HG.out).mono ?_
    rintro e' w12 ⟨rfl, hb12⟩
    have z12 : w11.heap.size ≤ w12.heap.size := hb12.size
    have HB12 := Lib.hid (HB11.out.trans (hb12.mono (by omega)))
    have B12_0 := Lib.hid (B11_0.out.below hb12 B11_0.out.lt)
    have B12_1 := Lib.hid (B11_1.out.below hb12 B11_1.out.lt)
    have B12_2 := Lib.hid (B11_2.out.below hb12 B11_2.out.lt)
    have B12_3 := Lib.hid (B11_3.out.below hb12 B11_3.out.lt)
    have R12_code := R11_code.below hb12 (by omega)
    have O12_s := O11_s.below hb12 (by omega)
    have O12_m := O11_m.below hb12 (by omega)
    have O12_x := O11_x.below hb12 (by omega)
    clear R11_code O11_s O11_m O11_x
    clear c11_0_0 c11_0_1 c11_1_0 c11_1_1 c11_2_0 c11_2_1 c11_3_0 c11_3_1
    have c12_0_0 := B12_0.out.cell 0 (v := .int .i64 c.w) rfl
    have c12_0_1 := B12_0.out.cell 1 (v := .int .i64 c.h) rfl
    have c12_1_0 := B12_1.out.cell 0 (v := .int .i64 d.w) rfl
    have c12_1_1 := B12_1.out.cell 1 (v := .int .i64 d.h) rfl
    have c12_2_0 := B12_2.out.cell 0 (v := .int .i64 P.w) rfl
    have c12_2_1 := B12_2.out.cell 1 (v := .int .i64 P.h) rfl
    have c12_3_0 := B12_3.out.cell 0 (v := .int .i64 P.w) rfl
    have c12_3_1 := B12_3.out.cell 1 (v := .int .i64 P.h) rfl
    clear hb12
    go_wp2_with fail
    refine (q_bL (specSc_any A11 n11 c11 _ l11 T G _ O12_x.rd (by omega) HT.out HG.out)).mono ?_
    rintro e' w13 ⟨rfl, hb13⟩
    have z13 : w12.heap.size ≤ w13.heap.size := hb13.size
    have HB13 := Lib.hid (HB12.out.trans (hb13.mono (by omega)))
    have B13_0 := Lib.hid (B12_0.out.below hb13 B12_0.out.lt)
    have B13_1 := Lib.hid (B12_1.out.below hb13 B12_1.out.lt)
    have B13_2 := Lib.hid (B12_2.out.below hb13 B12_2.out.lt)
    have B13_3 := Lib.hid (B12_3.out.below hb13 B12_3.out.lt)
    have R13_code := R12_code.below hb13 (by omega)
    have O13_s := O12_s.below hb13 (by omega)
    have O13_m := O12_m.below hb13 (by omega)
    have O13_x := O12_x.below hb13 (by omega)
    clear R12_code O12_s O12_m O12_x
    clear c12_0_0 c12_0_1 c12_1_0 c12_1_1 c12_2_0 c12_2_1 c12_3_0 c12_3_1
    have c13_0_0 := B13_0.out.cell 0 (v := .int .i64 c.w) rfl
    have c13_0_1 := B13_0.out.cell 1 (v := .int .i64 c.h) rfl
    have c13_1_0 := B13_1.out.cell 0 (v := .int .i64 d.w) rfl
    have c13_1_1 := B13_1.out.cell 1 (v := .int .i64 d.h) rfl
    have c13_2_0 := B13_2.out.cell 0 (v := .int .i64 P.w) rfl
    have c13_2_1 := B13_2.out.cell 1 (v := .int .i64 P.h) rfl
    have c13_3_0 := B13_3.out.cell 0 (v := .int .i64 P.w) rfl
    have c13_3_1 := B13_3.out.cell 1 (v := .int .i64 P.h) rfl
    clear hb13
    go_wp2_with fail
    refine (DrawLayers_any N C w.heap.size A l _ R13_code hl (by omega) (by omega)).mono ?_
    rintro e' w14 ⟨A14, n14, c14, l14, kk, rfl, o14, hn14, hv, hb14⟩
    have hc14 : n14 ≤ c14 := o14.capU
    have z14 : w13.heap.size ≤ w14.heap.size := hb14.size
    have HB14 := Lib.hid (HB13.out.trans (hb14.mono (by omega)))
    have B14_0 := Lib.hid (B13_0.out.below hb14 B13_0.out.lt)
    have B14_1 := Lib.hid (B13_1.out.below hb14 B13_1.out.lt)
    have B14_2 := Lib.hid (B13_2.out.below hb14 B13_2.out.lt)
    have B14_3 := Lib.hid (B13_3.out.below hb14 B13_3.out.lt)
    have R14_code := R13_code.below hb14 (by omega)
    have O14_s := O13_s.below hb14 (by omega)
    have O14_m := O13_m.below hb14 (by omega)
    have O14_x := O13_x.below hb14 (by omega)
    clear R13_code O13_s O13_m O13_x
    clear c13_0_0 c13_0_1 c13_1_0 c13_1_1 c13_2_0 c13_2_1 c13_3_0 c13_3_1
    have c14_0_0 := B14_0.out.cell 0 (v := .int .i64 c.w) rfl
    have c14_0_1 := B14_0.out.cell 1 (v := .int .i64 c.h) rfl
    have c14_1_0 := B14_1.out.cell 0 (v := .int .i64 d.w) rfl
    have c14_1_1 := B14_1.out.cell 1 (v := .int .i64 d.h) rfl
    have c14_2_0 := B14_2.out.cell 0 (v := .int .i64 P.w) rfl
    have c14_2_1 := B14_2.out.cell 1 (v := .int .i64 P.h) rfl
    have c14_3_0 := B14_3.out.cell 0 (v := .int .i64 P.w) rfl
    have c14_3_1 := B14_3.out.cell 1 (v := .int .i64 P.h) rfl
    have O14_y := o14
    clear hb14 o14
    go_wp2_with fail
    obtain ⟨L, hL⟩ : ∃ v, Su.laR l14 kk = v := ⟨_, rfl⟩
    have HL := Lib.hid hL
    clear hL
    obtain ⟨M, hM⟩ : ∃ v, Su.laC l14 kk = v := ⟨_, rfl⟩
    have HM := Lib.hid hM
    clear hM
    refine (implLa_any A14 n14 c14 _ l14 kk L M _ O14_y.rd (by omega) (by omega) hc14 ⟨by omega, by omega⟩ HL.out HM.out).mono ?_
    rintro e' w15 ⟨rfl, hb15⟩
    have z15 : w14.heap.size ≤ w15.heap.size := hb15.size
    have HB15 := Lib.hid (HB14.out.trans (hb15.mono (by omega)))
    have B15_0 := Lib.hid (B14_0.out.below hb15 B14_0.out.lt)
    have B15_1 := Lib.hid (B14_1.out.below hb15 B14_1.out.lt)
    have B15_2 := Lib.hid (B14_2.out.below hb15 B14_2.out.lt)
    have B15_3 := Lib.hid (B14_3.out.below hb15 B14_3.out.lt)
    have R15_code := R14_code.below hb15 (by omega)
    have O15_s := O14_s.below hb15 (by omega)
    have O15_m := O14_m.below hb15 (by omega)
    have O15_x := O14_x.below hb15 (by omega)
    have O15_y := O14_y.below hb15 (by omega)
    clear R14_code O14_s O14_m O14_x O14_y
    clear c14_0_0 c14_0_1 c14_1_0 c14_1_1 c14_2_0 c14_2_1 c14_3_0 c14_3_1
    have c15_0_0 := B15_0.out.cell 0 (v := .int .i64 c.w) rfl
    have c15_0_1 := B15_0.out.cell 1 (v := .int .i64 c.h) rfl
    have c15_1_0 := B15_1.out.cell 0 (v := .int .i64 d.w) rfl
    have c15_1_1 := B15_1.out.cell 1 (v := .int .i64 d.h) rfl
    have c15_2_0 := B15_2.out.cell 0 (v := .int .i64 P.w) rfl
    have c15_2_1 := B15_2.out.cell 1 (v := .int .i64 P.h) rfl
    have c15_3_0 := B15_3.out.cell 0 (v := .int .i64 P.w) rfl
    have c15_3_1 := B15_3.out.cell 1 (v := .int .i64 P.h) rfl
    clear hb15
    go_wp2_with fail
    have hpq := pcNeq P
    refine (q_bL (specLa_any A14 n14 c14 _ l14 kk L M _ O15_y.rd (by omega) HL.out HM.out)).mono ?_
    rintro e' w16 ⟨rfl, hb16⟩
    have z16 : w15.heap.size ≤ w16.heap.size := hb16.size
    have HB16 := Lib.hid (HB15.out.trans (hb16.mono (by omega)))
    have B16_0 := Lib.hid (B15_0.out.below hb16 B15_0.out.lt)
    have B16_1 := Lib.hid (B15_1.out.below hb16 B15_1.out.lt)
    have B16_2 := Lib.hid (B15_2.out.below hb16 B15_2.out.lt)
    have B16_3 := Lib.hid (B15_3.out.below hb16 B15_3.out.lt)
    have R16_code := R15_code.below hb16 (by omega)
    have O16_s := O15_s.below hb16 (by omega)
    have O16_m := O15_m.below hb16 (by omega)
    have O16_x := O15_x.below hb16 (by omega)
    have O16_y := O15_y.below hb16 (by omega)
    clear R15_code O15_s O15_m O15_x O15_y
    clear c15_0_0 c15_0_1 c15_1_0 c15_1_1 c15_2_0 c15_2_1 c15_3_0 c15_3_1
    have c16_0_0 := B16_0.out.cell 0 (v := .int .i64 c.w) rfl
    have c16_0_1 := B16_0.out.cell 1 (v := .int .i64 c.h) rfl
    have c16_1_0 := B16_1.out.cell 0 (v := .int .i64 d.w) rfl
    have c16_1_1 := B16_1.out.cell 1 (v := .int .i64 d.h) rfl
    have c16_2_0 := B16_2.out.cell 0 (v := .int .i64 P.w) rfl
    have c16_2_1 := B16_2.out.cell 1 (v := .int .i64 P.h) rfl
    have c16_3_0 := B16_3.out.cell 0 (v := .int .i64 P.w) rfl
    have c16_3_1 := B16_3.out.cell 1 (v := .int .i64 P.h) rfl
    clear hb16
    go_wp2_with fail
    have hcs : n3 ≤ c3 := O16_s.capU
    refine (likeUn9_b A3 A4 n3 n3 c3 c4 _ _ R _ O16_s.rd O16_m.rd (by omega)).mono ?_
    rintro e' w17 ⟨rfl, hb17⟩
    have z17 : w16.heap.size ≤ w17.heap.size := hb17.size
    have HB17 := Lib.hid (HB16.out.trans (hb17.mono (by omega)))
    have B17_0 := Lib.hid (B16_0.out.below hb17 B16_0.out.lt)
    have B17_1 := Lib.hid (B16_1.out.below hb17 B16_1.out.lt)
    have B17_2 := Lib.hid (B16_2.out.below hb17 B16_2.out.lt)
    have B17_3 := Lib.hid (B16_3.out.below hb17 B16_3.out.lt)
    have R17_code := R16_code.below hb17 (by omega)
    have O17_s := O16_s.below hb17 (by omega)
    have O17_m := O16_m.below hb17 (by omega)
    have O17_x := O16_x.below hb17 (by omega)
    have O17_y := O16_y.below hb17 (by omega)
    clear R16_code O16_s O16_m O16_x O16_y
    clear c16_0_0 c16_0_1 c16_1_0 c16_1_1 c16_2_0 c16_2_1 c16_3_0 c16_3_1
    have c17_0_0 := B17_0.out.cell 0 (v := .int .i64 c.w) rfl
    have c17_0_1 := B17_0.out.cell 1 (v := .int .i64 c.h) rfl
    have c17_1_0 := B17_1.out.cell 0 (v := .int .i64 d.w) rfl
    have c17_1_1 := B17_1.out.cell 1 (v := .int .i64 d.h) rfl
    have c17_2_0 := B17_2.out.cell 0 (v := .int .i64 P.w) rfl
    have c17_2_1 := B17_2.out.cell 1 (v := .int .i64 P.h) rfl
    have c17_3_0 := B17_3.out.cell 0 (v := .int .i64 P.w) rfl
    have c17_3_1 := B17_3.out.cell 1 (v := .int .i64 P.h) rfl
    clear hb17
    by_cases hD : D = 0
    · subst hD
      obtain ⟨s1, s2⟩ := Su.sc_back HD.out HR.out
      obtain ⟨f1, f2⟩ := Su.fz_last HD.out
      obtain ⟨la1, la2⟩ := Su.la_all HD.out HR.out O17_s.rd.1
      obtain ⟨p, hp⟩ : ∃ p, a * b = p := ⟨_, rfl⟩
      have ha8 := (Su.scheme_facts (Su.code0 HD.out).2).1
      have hb8 := (Su.scheme_facts (Su.code0 HD.out).2).2.1
      rw [hp] at la2
      have hpb : 0 ≤ p ∧ p ≤ 64 := by rw [← hp]; exact ⟨Int.mul_nonneg (by omega) (by omega), Int.le_trans (Int.mul_le_mul (a := a) (b := b) (c := 8) (d := 8) (by omega) (by omega) (by omega) (by omega)) (by decide)⟩
      have ew : IntKind.i64.wrap (a * b) = p := by rw [hp]; exact IntWalk.i64_in _ (by omega)
      have heq := pcEql c
      have S1 := Lib.hid s1
      have S2 := Lib.hid s2
      have F1 := Lib.hid f1
      have F2 := Lib.hid f2
      have L1 := Lib.hid la1
      have L2 := Lib.hid la2
      clear s1 s2 f1 f2 la1 la2 hp ha8 hb8
      go_wp2_with fail
      refine (implSc_any A3 n3 c3 _ R t 0 _ O17_s.rd (by omega) (by omega) hcs S2.out S1.out).mono ?_
      rintro e' w18 ⟨rfl, hb18⟩
      have z18 : w17.heap.size ≤ w18.heap.size := hb18.size
      have HB18 := Lib.hid (HB17.out.trans (hb18.mono (by omega)))
      have B18_0 := Lib.hid (B17_0.out.below hb18 B17_0.out.lt)
      have B18_1 := Lib.hid (B17_1.out.below hb18 B17_1.out.lt)
      have B18_2 := Lib.hid (B17_2.out.below hb18 B17_2.out.lt)
      have B18_3 := Lib.hid (B17_3.out.below hb18 B17_3.out.lt)
      have R18_code := R17_code.below hb18 (by omega)
      have O18_s := O17_s.below hb18 (by omega)
      have O18_m := O17_m.below hb18 (by omega)
      have O18_x := O17_x.below hb18 (by omega)
      have O18_y := O17_y.below hb18 (by omega)
      clear R17_code O17_s O17_m O17_x O17_y
      clear c17_0_0 c17_0_1 c17_1_0 c17_1_1 c17_2_0 c17_2_1 c17_3_0 c17_3_1
      have c18_0_0 := B18_0.out.cell 0 (v := .int .i64 c.w) rfl
      have c18_0_1 := B18_0.out.cell 1 (v := .int .i64 c.h) rfl
      have c18_1_0 := B18_1.out.cell 0 (v := .int .i64 d.w) rfl
      have c18_1_1 := B18_1.out.cell 1 (v := .int .i64 d.h) rfl
      have c18_2_0 := B18_2.out.cell 0 (v := .int .i64 P.w) rfl
      have c18_2_1 := B18_2.out.cell 1 (v := .int .i64 P.h) rfl
      have c18_3_0 := B18_3.out.cell 0 (v := .int .i64 P.w) rfl
      have c18_3_1 := B18_3.out.cell 1 (v := .int .i64 P.h) rfl
      clear hb18
      go_wp2_with fail
      refine (implFz_any a b c t (t.size : Int) c 0 _ (by omega) ⟨by omega, by omega⟩ F2.out F1.out).mono ?_
      rintro e' w19 ⟨rfl, hb19⟩
      have z19 : w18.heap.size ≤ w19.heap.size := hb19.size
      have HB19 := Lib.hid (HB18.out.trans (hb19.mono (by omega)))
      have B19_0 := Lib.hid (B18_0.out.below hb19 B18_0.out.lt)
      have B19_1 := Lib.hid (B18_1.out.below hb19 B18_1.out.lt)
      have B19_2 := Lib.hid (B18_2.out.below hb19 B18_2.out.lt)
      have B19_3 := Lib.hid (B18_3.out.below hb19 B18_3.out.lt)
      have R19_code := R18_code.below hb19 (by omega)
      have O19_s := O18_s.below hb19 (by omega)
      have O19_m := O18_m.below hb19 (by omega)
      have O19_x := O18_x.below hb19 (by omega)
      have O19_y := O18_y.below hb19 (by omega)
      clear R18_code O18_s O18_m O18_x O18_y
      clear c18_0_0 c18_0_1 c18_1_0 c18_1_1 c18_2_0 c18_2_1 c18_3_0 c18_3_1
      have c19_0_0 := B19_0.out.cell 0 (v := .int .i64 c.w) rfl
      have c19_0_1 := B19_0.out.cell 1 (v := .int .i64 c.h) rfl
      have c19_1_0 := B19_1.out.cell 0 (v := .int .i64 d.w) rfl
      have c19_1_1 := B19_1.out.cell 1 (v := .int .i64 d.h) rfl
      have c19_2_0 := B19_2.out.cell 0 (v := .int .i64 P.w) rfl
      have c19_2_1 := B19_2.out.cell 1 (v := .int .i64 P.h) rfl
      have c19_3_0 := B19_3.out.cell 0 (v := .int .i64 P.w) rfl
      have c19_3_1 := B19_3.out.cell 1 (v := .int .i64 P.h) rfl
      clear hb19
      have hb20 : Below w19.heap.size w19 (w19.alloc (.cells #[.int .i64 c.w, .int .i64 c.h] 25)) := (Below.refl _ _).alloc (Nat.le_refl _) _
      have zz20 : (w19.alloc (.cells #[.int .i64 c.w, .int .i64 c.h] 25)).heap.size = w19.heap.size + 1 := by simp
      have z20 : w19.heap.size ≤ (w19.alloc (.cells #[.int .i64 c.w, .int .i64 c.h] 25)).heap.size := by omega
      have HB20 := Lib.hid (HB19.out.trans (hb20.mono (by omega)))
      have B20_0 := Lib.hid (B19_0.out.below hb20 B19_0.out.lt)
      have B20_1 := Lib.hid (B19_1.out.below hb20 B19_1.out.lt)
      have B20_2 := Lib.hid (B19_2.out.below hb20 B19_2.out.lt)
      have B20_3 := Lib.hid (B19_3.out.below hb20 B19_3.out.lt)
      have R20_code := R19_code.below hb20 (by omega)
      have O20_s := O19_s.below hb20 (by omega)
      have O20_m := O19_m.below hb20 (by omega)
      have O20_x := O19_x.below hb20 (by omega)
      have O20_y := O19_y.below hb20 (by omega)
      have B20_4 := Lib.hid (Blk.new (w := w19) (g := w19.heap.size) #[.int .i64 c.w, .int .i64 c.h] 25 rfl)
      clear hb20
      clear c19_0_0 c19_0_1 c19_1_0 c19_1_1 c19_2_0 c19_2_1 c19_3_0 c19_3_1
      have c20_0_0 := B20_0.out.cell 0 (v := .int .i64 c.w) rfl
      have c20_0_1 := B20_0.out.cell 1 (v := .int .i64 c.h) rfl
      have c20_1_0 := B20_1.out.cell 0 (v := .int .i64 d.w) rfl
      have c20_1_1 := B20_1.out.cell 1 (v := .int .i64 d.h) rfl
      have c20_2_0 := B20_2.out.cell 0 (v := .int .i64 P.w) rfl
      have c20_2_1 := B20_2.out.cell 1 (v := .int .i64 P.h) rfl
      have c20_3_0 := B20_3.out.cell 0 (v := .int .i64 P.w) rfl
      have c20_3_1 := B20_3.out.cell 1 (v := .int .i64 P.h) rfl
      have c20_4_0 := B20_4.out.cell 0 (v := .int .i64 c.w) rfl
      have c20_4_1 := B20_4.out.cell 1 (v := .int .i64 c.h) rfl
      go_wp2_with fail
      refine (implLa_any A3 n3 c3 _ R (n3 : Int) p 0 _ O20_s.rd (by omega) (by omega) hcs ⟨by omega, by omega⟩ L2.out L1.out).mono ?_
      rintro e' w21 ⟨rfl, hb21⟩
      have z21 : (w19.alloc (.cells #[.int .i64 c.w, .int .i64 c.h] 25)).heap.size ≤ w21.heap.size := hb21.size
      have HB21 := Lib.hid (HB20.out.trans (hb21.mono (by omega)))
      have B21_0 := Lib.hid (B20_0.out.below hb21 B20_0.out.lt)
      have B21_1 := Lib.hid (B20_1.out.below hb21 B20_1.out.lt)
      have B21_2 := Lib.hid (B20_2.out.below hb21 B20_2.out.lt)
      have B21_3 := Lib.hid (B20_3.out.below hb21 B20_3.out.lt)
      have B21_4 := Lib.hid (B20_4.out.below hb21 B20_4.out.lt)
      have R21_code := R20_code.below hb21 (by omega)
      have O21_s := O20_s.below hb21 (by omega)
      have O21_m := O20_m.below hb21 (by omega)
      have O21_x := O20_x.below hb21 (by omega)
      have O21_y := O20_y.below hb21 (by omega)
      clear R20_code O20_s O20_m O20_x O20_y
      clear c20_0_0 c20_0_1 c20_1_0 c20_1_1 c20_2_0 c20_2_1 c20_3_0 c20_3_1 c20_4_0 c20_4_1
      have c21_0_0 := B21_0.out.cell 0 (v := .int .i64 c.w) rfl
      have c21_0_1 := B21_0.out.cell 1 (v := .int .i64 c.h) rfl
      have c21_1_0 := B21_1.out.cell 0 (v := .int .i64 d.w) rfl
      have c21_1_1 := B21_1.out.cell 1 (v := .int .i64 d.h) rfl
      have c21_2_0 := B21_2.out.cell 0 (v := .int .i64 P.w) rfl
      have c21_2_1 := B21_2.out.cell 1 (v := .int .i64 P.h) rfl
      have c21_3_0 := B21_3.out.cell 0 (v := .int .i64 P.w) rfl
      have c21_3_1 := B21_3.out.cell 1 (v := .int .i64 P.h) rfl
      have c21_4_0 := B21_4.out.cell 0 (v := .int .i64 c.w) rfl
      have c21_4_1 := B21_4.out.cell 1 (v := .int .i64 c.h) rfl
      clear hb21
      go_wp2_with fail
      go_ret
      exact ⟨rfl, HB21.out⟩
    · have hDb : (D != 0) = true := by simpa using hD
      go_wp2_with fail
      go_ret
      exact ⟨rfl, HB17.out⟩
  · have HF : Hid (decide (4096 < N) = true) := decide_eq_true (by omega)
    go_enter Try.func3, Try.ntmps3
    go_wp2_with fail
    refine (big_any A N C _).mono ?_
    rintro e _ ⟨rfl, rfl⟩
    rw [HF.out]
    go_wp2_with fail
    go_ret
    exact ⟨rfl, Below.refl _ _⟩
end Go.Proofs.Ytnfnmdeiaihgnaa
