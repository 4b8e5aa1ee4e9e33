/- The walk of the exact law of PlanCounts, out of the contracts. -/
import Derived.Test.YtbhofhobnbhhhaaDoorKdLw
import Derived.Test.YtbhofhobnbhhhaaDoorBzB
import Derived.Test.YtbhofhobnbhhhaaDoorMark
import Derived.Test.YtbhofhobnbhhhaaDoorLw9
import Derived.Deep.RegionHeld3
namespace Go.Proofs.YtbhofhobnbhhhaaDoor
open Go.RowKit
set_option linter.unusedVariables false

set_option maxRecDepth 100000 in
set_option maxHeartbeats 8000000 in
theorem w_FnExactPlanCounts (a0 a1 : Int) (A : Option Addr) (n c : Nat) (l : List Kd) (t : ByteArray) (w : World) (w0_ : -9223372036854775808 ≤ a0 ∧ a0 ≤ 9223372036854775807) (w1_ : -9223372036854775808 ≤ a1 ∧ a1 ≤ 9223372036854775807) (ha : RdS Kd.S w w.heap.size A n l) (hm : n ≤ 9223372036854775807) (_m3 : t.size ≤ maxLen) (hLb : Lb w) :
    Calls Tryd.prog 6 #[.int .i64 a0, .int .i64 a1, .slice A n c, .string t] w fun e w' => e = .returned (.bool true) ∧ Below w.heap.size w w' := by
  by_cases ht : 1048576 < t.size
  · have ht1 : (1048576 : Int) < (t.size : Int) := by omega
    have HB0 := Lib.hid (Below.refl w.heap.size w)
    have z0 : w.heap.size + 0 = w.heap.size := by simp
    go_enter Tryd.func6, Tryd.ntmps6
    go_wp2_with fail
    go_ret
    exact ⟨rfl, HB0.out⟩
  have ht2 : t.size ≤ 1048576 := by omega
  have ht3 : ¬ ((1048576 : Int) < (t.size : Int)) := by omega
  by_cases hs : 1048576 < n
  · have HB0 := Lib.hid (Below.refl w.heap.size w)
    have z0 : w.heap.size + 0 = w.heap.size := by simp
    go_enter Tryd.func6, Tryd.ntmps6
    go_wp2_with fail
    refine (szKindS_no A n c _ hs hm).mono ?_
    rintro e' _ ⟨rfl, rfl⟩
    go_wp2_with fail
    go_ret
    exact ⟨rfl, HB0.out⟩
  have hn : n ≤ 1048576 := by omega
  have hq0 : ¬ (1048576 - (n : Int) < 0) := by omega
  have HB0 := Lib.hid (Below.refl w.heap.size w)
  have z0 : w.heap.size + 0 = w.heap.size := by simp
  have R0_a := ha
  go_enter Tryd.func6, Tryd.ntmps6
  go_wp2_with fail
  refine (szKindS_yes A n c _ hn).mono ?_
  rintro e' _ ⟨rfl, rfl⟩
  go_wp2_with fail
  refine (toKindS_any A n c w.heap.size l _ R0_a (by omega) hn).mono ?_
  rintro e' w1 ⟨g1, rfl, o1, hb1⟩
  have z1 : w.heap.size ≤ w1.heap.size := hb1.size
  have HB1 := Lib.hid (HB0.out.trans (hb1.mono (by omega)))
  have R1_a := R0_a.below hb1 (by omega)
  clear R0_a
  have O1_s := o1
  clear hb1 o1
  go_wp2_with fail
  refine (specPnc_any a0 a1 (some ⟨g1, 0, none⟩) n n w1.heap.size l t _ O1_s.rd (by omega) (by omega) ht2).mono ?_
  rintro e' w2 ⟨cs, C, hp, _, A2, n2, c2, rfl, o2, hn2, hb2⟩
  have HP1 := Lib.hid hp
  clear hp
  have z2 : w1.heap.size ≤ w2.heap.size := hb2.size
  have HB2 := Lib.hid (HB1.out.trans (hb2.mono (by omega)))
  have R2_a := R1_a.below hb2 (by omega)
  have O2_s := O1_s.below hb2 (by omega)
  clear R1_a O1_s
  have O2_w := o2
  clear hb2 o2
  go_wp2_with fail
  refine (toKindS_any A n c w.heap.size l _ R2_a (by omega) hn).mono ?_
  rintro e' w3 ⟨g3, rfl, o3, hb3⟩
  have z3 : w2.heap.size ≤ w3.heap.size := hb3.size
  have HB3 := Lib.hid (HB2.out.trans (hb3.mono (by omega)))
  have R3_a := R2_a.below hb3 (by omega)
  have O3_s := O2_s.below hb3 (by omega)
  have O3_w := O2_w.below hb3 (by omega)
  clear R2_a O2_s O2_w
  have O3_x := o3
  clear hb3 o3
  go_wp2_with fail
  refine (implPnc_any a0 a1 (some ⟨g3, 0, none⟩) n n w3.heap.size l t _ (hLb.below HB3.out) O3_x.rd (by omega) (by omega) (Nat.le_refl _) w0_ w1_ ht2).mono ?_
  rintro e' w4 ⟨ds4, D4, hp4, A4, n4, c4, rfl, o4, hn4, hb4⟩
  obtain ⟨rfl, rfl⟩ : cs = ds4 ∧ C = D4 := HP1.out.same hp4
  obtain rfl : n2 = n4 := O3_w.rd.1.symm.trans o4.rd.1
  clear hp4
  have z4 : w3.heap.size ≤ w4.heap.size := hb4.size
  have HB4 := Lib.hid (HB3.out.trans (hb4.mono (by omega)))
  have R4_a := R3_a.below hb4 (by omega)
  have O4_s := O3_s.below hb4 (by omega)
  have O4_w := O3_w.below hb4 (by omega)
  have O4_x := O3_x.below hb4 (by omega)
  clear R3_a O3_s O3_w O3_x
  have O4_g := o4
  clear hb4 o4
  go_wp2_with fail
  refine (eqInt64S_true _ _ n2 _ _ _ _ _ _ O4_g.rd O4_w.rd hn2).mono ?_
  rintro e' w5 ⟨rfl, hq5⟩
  have hb5 : Below w4.heap.size w4 w5 := hq5.below _
  clear hq5
  have z5 : w4.heap.size ≤ w5.heap.size := hb5.size
  have HB5 := Lib.hid (HB4.out.trans (hb5.mono (by omega)))
  have R5_a := R4_a.below hb5 (by omega)
  have O5_s := O4_s.below hb5 (by omega)
  have O5_w := O4_w.below hb5 (by omega)
  have O5_x := O4_x.below hb5 (by omega)
  have O5_g := O4_g.below hb5 (by omega)
  clear R4_a O4_s O4_w O4_x O4_g
  clear hb5
  go_wp2_with fail
  refine (toKindS_any A n c w.heap.size l _ R5_a (by omega) hn).mono ?_
  rintro e' w6 ⟨g6, rfl, o6, hb6⟩
  have z6 : w5.heap.size ≤ w6.heap.size := hb6.size
  have HB6 := Lib.hid (HB5.out.trans (hb6.mono (by omega)))
  have R6_a := R5_a.below hb6 (by omega)
  have O6_s := O5_s.below hb6 (by omega)
  have O6_w := O5_w.below hb6 (by omega)
  have O6_x := O5_x.below hb6 (by omega)
  have O6_g := O5_g.below hb6 (by omega)
  clear R5_a O5_s O5_w O5_x O5_g
  have O6_y := o6
  clear hb6 o6
  go_wp2_with fail
  refine (eqKindS_true _ _ _ _ _ _ _ l _ O6_x.rd O6_y.rd (by omega) (by omega) hn).mono ?_
  rintro e' w7 ⟨rfl, hb7⟩
  have z7 : w6.heap.size ≤ w7.heap.size := hb7.size
  have HB7 := Lib.hid (HB6.out.trans (hb7.mono (by omega)))
  have R7_a := R6_a.below hb7 (by omega)
  have O7_s := O6_s.below hb7 (by omega)
  have O7_w := O6_w.below hb7 (by omega)
  have O7_x := O6_x.below hb7 (by omega)
  have O7_g := O6_g.below hb7 (by omega)
  have O7_y := O6_y.below hb7 (by omega)
  clear R6_a O6_s O6_w O6_x O6_g O6_y
  clear hb7
  go_wp2_with fail
  refine (markKindS_any (some ⟨g3, 0, none⟩) n n w2.heap.size w3.heap.size 1 l _ O7_x hn (by omega) (by omega)).mono ?_
  rintro e' w8 ⟨rfl, o8, hm8⟩
  have z8 : w7.heap.size ≤ w8.heap.size := hm8.size
  have HB8 := Lib.hid (HB7.out.trans (hm8.below (by omega) (by omega)))
  have R8_a := R7_a.only hm8 (by omega) (by omega)
  have O8_s := O7_s.only hm8 (by omega)
  have O8_w := O7_w.only hm8 (by omega)
  have O8_g := O7_g.only hm8 (by omega)
  have O8_y := O7_y.only hm8 (by omega)
  clear R7_a O7_s O7_w O7_g O7_y
  have O8_x := o8
  clear hm8 o8 O7_x
  go_wp2_with fail
  refine (eqInt64S_true _ _ n2 _ _ _ _ _ _ O8_g.rd O8_w.rd hn2).mono ?_
  rintro e' w9 ⟨rfl, hq9⟩
  have hb9 : Below w8.heap.size w8 w9 := hq9.below _
  clear hq9
  have z9 : w8.heap.size ≤ w9.heap.size := hb9.size
  have HB9 := Lib.hid (HB8.out.trans (hb9.mono (by omega)))
  have R9_a := R8_a.below hb9 (by omega)
  have O9_s := O8_s.below hb9 (by omega)
  have O9_w := O8_w.below hb9 (by omega)
  have O9_x := O8_x.below hb9 (by omega)
  have O9_g := O8_g.below hb9 (by omega)
  have O9_y := O8_y.below hb9 (by omega)
  clear R8_a O8_s O8_w O8_x O8_g O8_y
  clear hb9
  go_wp2_with fail
  refine (markInt64S_any _ _ _ _ _ 1 _ _ O9_g hn2 (by omega) (by omega)).mono ?_
  rintro e' w10 ⟨rfl, o10, hm10⟩
  have z10 : w9.heap.size ≤ w10.heap.size := hm10.size
  have HB10 := Lib.hid (HB9.out.trans (hm10.below (by omega) (by omega)))
  have R10_a := R9_a.only hm10 (by omega) (by omega)
  have O10_s := O9_s.only hm10 (by omega)
  have O10_w := O9_w.only hm10 (by omega)
  have O10_x := O9_x.only hm10 (by omega)
  have O10_y := O9_y.only hm10 (by omega)
  clear R9_a O9_s O9_w O9_x O9_y
  have O10_g := o10
  clear hm10 o10 O9_g
  go_wp2_with fail
  refine (heldInt64S_any _ _ _ _ 1 _ O10_g.rd hn2 (by omega) (by omega)).mono ?_
  rintro e' _ ⟨rfl, rfl⟩
  go_wp2_with fail
  refine (toKindS_any A n c w.heap.size l _ R10_a (by omega) hn).mono ?_
  rintro e' w11 ⟨g11, rfl, o11, hb11⟩
  have z11 : w10.heap.size ≤ w11.heap.size := hb11.size
  have HB11 := Lib.hid (HB10.out.trans (hb11.mono (by omega)))
  have R11_a := R10_a.below hb11 (by omega)
  have O11_s := O10_s.below hb11 (by omega)
  have O11_w := O10_w.below hb11 (by omega)
  have O11_x := O10_x.below hb11 (by omega)
  have O11_g := O10_g.below hb11 (by omega)
  have O11_y := O10_y.below hb11 (by omega)
  clear R10_a O10_s O10_w O10_x O10_g O10_y
  have O11_z := o11
  clear hb11 o11
  go_wp2_with fail
  refine (implPnc_any a0 a1 (some ⟨g11, 0, none⟩) n n w11.heap.size l t _ (hLb.below HB11.out) O11_z.rd (by omega) (by omega) (Nat.le_refl _) w0_ w1_ ht2).mono ?_
  rintro e' w12 ⟨ds12, D12, hp12, A12, n12, c12, rfl, o12, hn12, hb12⟩
  obtain ⟨rfl, rfl⟩ : cs = ds12 ∧ C = D12 := HP1.out.same hp12
  obtain rfl : n2 = n12 := O11_w.rd.1.symm.trans o12.rd.1
  clear hp12
  have z12 : w11.heap.size ≤ w12.heap.size := hb12.size
  have HB12 := Lib.hid (HB11.out.trans (hb12.mono (by omega)))
  have R12_a := R11_a.below hb12 (by omega)
  have O12_s := O11_s.below hb12 (by omega)
  have O12_w := O11_w.below hb12 (by omega)
  have O12_x := O11_x.below hb12 (by omega)
  have O12_g := O11_g.below hb12 (by omega)
  have O12_y := O11_y.below hb12 (by omega)
  have O12_z := O11_z.below hb12 (by omega)
  clear R11_a O11_s O11_w O11_x O11_g O11_y O11_z
  have O12_h := o12
  clear hb12 o12
  go_wp2_with fail
  refine (eqInt64S_true _ _ n2 _ _ _ _ _ _ O12_h.rd O12_w.rd hn2).mono ?_
  rintro e' w13 ⟨rfl, hq13⟩
  have hb13 : Below w12.heap.size w12 w13 := hq13.below _
  clear hq13
  have z13 : w12.heap.size ≤ w13.heap.size := hb13.size
  have HB13 := Lib.hid (HB12.out.trans (hb13.mono (by omega)))
  have R13_a := R12_a.below hb13 (by omega)
  have O13_s := O12_s.below hb13 (by omega)
  have O13_w := O12_w.below hb13 (by omega)
  have O13_x := O12_x.below hb13 (by omega)
  have O13_g := O12_g.below hb13 (by omega)
  have O13_y := O12_y.below hb13 (by omega)
  have O13_z := O12_z.below hb13 (by omega)
  have O13_h := O12_h.below hb13 (by omega)
  clear R12_a O12_s O12_w O12_x O12_g O12_y O12_z O12_h
  clear hb13
  go_wp2_with fail
  refine (heldInt64S_any _ _ _ _ 1 _ O13_g.rd hn2 (by omega) (by omega)).mono ?_
  rintro e' _ ⟨rfl, rfl⟩
  go_wp2_with fail
  go_ret
  exact ⟨rfl, HB13.out⟩
end Go.Proofs.YtbhofhobnbhhhaaDoor
