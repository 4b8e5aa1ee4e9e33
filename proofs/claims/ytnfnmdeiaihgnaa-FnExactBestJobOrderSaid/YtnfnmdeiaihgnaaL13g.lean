/- The walk of the exact law of BestJobOrder, out of the contracts. -/
import Derived.Test.YtnfnmdeiaihgnaaUnSS
import Derived.Test.YtnfnmdeiaihgnaaSxEf
import Derived.Test.YtnfnmdeiaihgnaaMark
import Derived.Test.YtnfnmdeiaihgnaaLw9
import Derived.Deep.RegionHeld3
namespace Go.Proofs.Ytnfnmdeiaihgnaa
open Go.RowKit
set_option linter.unusedVariables false

theorem BjC.same {ls : List (List Un)} {C e1 e2 : Int} {o1 o2 : List Int} (h1 : C = 0 → Su.BjR ls o1 e1) (k1 : C ≠ 0 → o1 = [] ∧ e1 = 0) (h2 : C = 0 → Su.BjR ls o2 e2) (k2 : C ≠ 0 → o2 = [] ∧ e2 = 0) : o1 = o2 ∧ e1 = e2 := by
  by_cases h : C = 0
  · exact (h1 h).same (h2 h)
  · obtain ⟨a, b⟩ := k1 h
    obtain ⟨c, d⟩ := k2 h
    exact ⟨a.trans c.symm, b.trans d.symm⟩
theorem calls_bj {P : Program} {f : FuncId} {args : Array Value} {w : World} {ls ls' : List (List Un)} {C : Int} (h : Calls P f args w fun e w' => BjC w ls' C e w') (hl : ls' = ls) :
    Calls P f args w fun e w' => ∃ A m c o ef, e = .returned (.tuple #[.slice A m c, .int .i64 ef, .int .i64 C]) ∧ Own I w' w.heap.size w'.heap.size 2 (.slice A m c) o ∧ m ≤ 1048576 ∧ (C = 0 → Su.BjR ls o ef) ∧ (C ≠ 0 → o = [] ∧ ef = 0) ∧ Below w.heap.size w w' := by
  subst hl
  exact h
set_option maxRecDepth 100000 in
set_option maxHeartbeats 8000000 in
theorem w_FnExactBestJobOrder (A : Option Addr) (n c : Nat) (us : List UB) (w : World) (ha : RdA w w.heap.size A n us) (hm : n ≤ 9223372036854775807) :
    Calls Try.prog 11 #[.slice A n c] w fun e w' => e = .returned (.bool true) ∧ Below w.heap.size w w' := by
  by_cases hs : 1048576 < n + totU us
  · have HB0 := Lib.hid (Below.refl w.heap.size w)
    have z0 : w.heap.size + 0 = w.heap.size := by simp
    go_enter Try.func11, Try.ntmps11
    go_wp2_with fail
    refine (szUnitSS_no A n c w.heap.size us _ ha hs hm).mono ?_
    rintro e' _ ⟨rfl, rfl⟩
    go_wp2_with fail
    go_ret
    exact ⟨rfl, HB0.out⟩
  have hsz : n + totU us ≤ 1048576 := by omega
  have hn1 : n ≤ 1048576 := by omega
  have hq0 : ¬ (1048576 - (n : Int) - (totU us : Int) < 0) := by omega
  obtain ⟨Cd, hCd⟩ : ∃ v, Su.jbC (Su.lsU us) = v := ⟨_, rfl⟩
  have HCd := Lib.hid hCd
  clear hCd
  have HB0 := Lib.hid (Below.refl w.heap.size w)
  have z0 : w.heap.size + 0 = w.heap.size := by simp
  have R0_a := ha
  go_enter Try.func11, Try.ntmps11
  go_wp2_with fail
  refine (szUnitSS_yes A n c w.heap.size us _ ha hsz).mono ?_
  rintro e' _ ⟨rfl, rfl⟩
  go_wp2_with fail
  refine (toUnitSS_any A n c w.heap.size us _ R0_a (by omega) hsz).mono ?_
  rintro e' w1 ⟨g1, us1, rfl, o1, hl1, ht1, hb1⟩
  have HL1 := Lib.hid hl1
  have HT1 := Lib.hid ht1
  have z1 : w.heap.size ≤ w1.heap.size := hb1.size
  have HB1 := Lib.hid (HB0.out.trans (hb1.mono (by omega)))
  have R1_a := R0_a.below hb1 (by omega)
  clear R0_a
  have O1_s := o1
  clear hb1 o1 hl1 ht1
  go_wp2_with fail
  refine (calls_bj (specBj_any (some ⟨g1, 0, none⟩) n n w1.heap.size us1 _ O1_s.rd (by omega) hn1 Cd (by rw [HL1.out]; exact HCd.out)) HL1.out).mono ?_
  rintro e' w2 ⟨A2, n2, c2, l2, e2, rfl, o2, hn2, hz2, hy2, hb2⟩
  have HZ0_ := Lib.hid hz2
  have HY0_ := Lib.hid hy2
  clear hz2 hy2
  have z2 : w1.heap.size ≤ w2.heap.size := hb2.size
  have HB2 := Lib.hid (HB1.out.trans (hb2.mono (by omega)))
  have R2_a := R1_a.below hb2 (by omega)
  have O2_s := O1_s.below hb2 (by omega)
  clear R1_a O1_s
  have O2_w0 := o2
  clear hb2 o2
  go_wp2_with fail
  refine (toUnitSS_any A n c w.heap.size us _ R2_a (by omega) hsz).mono ?_
  rintro e' w3 ⟨g3, us3, rfl, o3, hl3, ht3, hb3⟩
  have HL3 := Lib.hid hl3
  have HT3 := Lib.hid ht3
  have z3 : w2.heap.size ≤ w3.heap.size := hb3.size
  have HB3 := Lib.hid (HB2.out.trans (hb3.mono (by omega)))
  have R3_a := R2_a.below hb3 (by omega)
  have O3_s := O2_s.below hb3 (by omega)
  have O3_w0 := O2_w0.below hb3 (by omega)
  clear R2_a O2_s O2_w0
  have O3_x := o3
  clear hb3 o3 hl3 ht3
  go_wp2_with fail
  refine (calls_bj (implBj_any (some ⟨g3, 0, none⟩) n n w3.heap.size us3 _ O3_x.rd (by omega) hn1 Cd (by rw [HL3.out]; exact HCd.out)) HL3.out).mono ?_
  rintro e' w4 ⟨A4, n4, c4, l4, e4, rfl, o4, hn4, hz4, hy4, hb4⟩
  obtain ⟨rfl, rfl⟩ : l2 = l4 ∧ e2 = e4 := BjC.same HZ0_.out HY0_.out hz4 hy4
  obtain rfl : n2 = n4 := O3_w0.rd.1.symm.trans o4.rd.1
  clear hz4 hy4 hn4
  have z4 : w3.heap.size ≤ w4.heap.size := hb4.size
  have HB4 := Lib.hid (HB3.out.trans (hb4.mono (by omega)))
  have R4_a := R3_a.below hb4 (by omega)
  have O4_s := O3_s.below hb4 (by omega)
  have O4_w0 := O3_w0.below hb4 (by omega)
  have O4_x := O3_x.below hb4 (by omega)
  clear R3_a O3_s O3_w0 O3_x
  have O4_g0 := o4
  clear hb4 o4
  go_wp2_with fail
  refine (eqInt64S_true _ _ n2 _ _ _ _ _ _ O4_g0.rd O4_w0.rd hn2).mono ?_
  rintro e' w5 ⟨rfl, hq5⟩
  have hb5 : Below w4.heap.size w4 w5 := hq5.below _
  clear hq5
  have z5 : w4.heap.size ≤ w5.heap.size := hb5.size
  have HB5 := Lib.hid (HB4.out.trans (hb5.mono (by omega)))
  have R5_a := R4_a.below hb5 (by omega)
  have O5_s := O4_s.below hb5 (by omega)
  have O5_w0 := O4_w0.below hb5 (by omega)
  have O5_x := O4_x.below hb5 (by omega)
  have O5_g0 := O4_g0.below hb5 (by omega)
  clear R4_a O4_s O4_w0 O4_x O4_g0
  clear hb5
  go_wp2_with fail
  refine (toUnitSS_any A n c w.heap.size us _ R5_a (by omega) hsz).mono ?_
  rintro e' w6 ⟨g6, us6, rfl, o6, hl6, ht6, hb6⟩
  have HL6 := Lib.hid hl6
  have HT6 := Lib.hid ht6
  have z6 : w5.heap.size ≤ w6.heap.size := hb6.size
  have HB6 := Lib.hid (HB5.out.trans (hb6.mono (by omega)))
  have R6_a := R5_a.below hb6 (by omega)
  have O6_s := O5_s.below hb6 (by omega)
  have O6_w0 := O5_w0.below hb6 (by omega)
  have O6_x := O5_x.below hb6 (by omega)
  have O6_g0 := O5_g0.below hb6 (by omega)
  clear R5_a O5_s O5_w0 O5_x O5_g0
  have O6_y := o6
  clear hb6 o6 hl6 ht6
  go_wp2_with fail
  refine (eqUnitSS_true _ _ _ _ _ _ _ us3 us6 _ O6_x.rd O6_y.rd (by rw [HL6.out, HL3.out]) (by omega) (by omega) hn1).mono ?_
  rintro e' w7 ⟨rfl, hb7⟩
  have z7 : w6.heap.size ≤ w7.heap.size := hb7.size
  have HB7 := Lib.hid (HB6.out.trans (hb7.mono (by omega)))
  have R7_a := R6_a.below hb7 (by omega)
  have O7_s := O6_s.below hb7 (by omega)
  have O7_w0 := O6_w0.below hb7 (by omega)
  have O7_x := O6_x.below hb7 (by omega)
  have O7_g0 := O6_g0.below hb7 (by omega)
  have O7_y := O6_y.below hb7 (by omega)
  clear R6_a O6_s O6_w0 O6_x O6_g0 O6_y
  clear hb7
  go_wp2_with fail
  have hk8 : (1 + 3 * (totU us3 : Int) < 0) = False := eq_false (by omega)
  refine (markUnitSS_any (some ⟨g3, 0, none⟩) n n w2.heap.size w3.heap.size us3 _ O7_x (by rw [HT3.out]; exact hsz) (by omega)).mono ?_
  rintro e' w8 ⟨rfl, hm8⟩
  have z8 : w7.heap.size ≤ w8.heap.size := hm8.size
  have HB8 := Lib.hid (HB7.out.trans (hm8.below (by omega) (by omega)))
  have R8_a := R7_a.only hm8 (by omega) (by omega)
  have O8_s := O7_s.only hm8 (by omega)
  have O8_w0 := O7_w0.only hm8 (by omega)
  have O8_g0 := O7_g0.only hm8 (by omega)
  have O8_y := O7_y.only hm8 (by omega)
  clear R7_a O7_s O7_w0 O7_g0 O7_y
  clear hm8 O7_x
  go_wp2_with fail
  refine (eqInt64S_true _ _ n2 _ _ _ _ _ _ O8_g0.rd O8_w0.rd hn2).mono ?_
  rintro e' w9 ⟨rfl, hq9⟩
  have hb9 : Below w8.heap.size w8 w9 := hq9.below _
  clear hq9
  have z9 : w8.heap.size ≤ w9.heap.size := hb9.size
  have HB9 := Lib.hid (HB8.out.trans (hb9.mono (by omega)))
  have R9_a := R8_a.below hb9 (by omega)
  have O9_s := O8_s.below hb9 (by omega)
  have O9_w0 := O8_w0.below hb9 (by omega)
  have O9_g0 := O8_g0.below hb9 (by omega)
  have O9_y := O8_y.below hb9 (by omega)
  clear R8_a O8_s O8_w0 O8_g0 O8_y
  clear hb9
  go_wp2_with fail
  refine (markInt64S_any _ _ _ _ _ 1 _ _ O9_g0 hn2 (by omega) (by omega)).mono ?_
  rintro e' w10 ⟨rfl, o10, hm10⟩
  have z10 : w9.heap.size ≤ w10.heap.size := hm10.size
  have HB10 := Lib.hid (HB9.out.trans (hm10.below (by omega) (by omega)))
  have R10_a := R9_a.only hm10 (by omega) (by omega)
  have O10_s := O9_s.only hm10 (by omega)
  have O10_w0 := O9_w0.only hm10 (by omega)
  have O10_y := O9_y.only hm10 (by omega)
  clear R9_a O9_s O9_w0 O9_y
  have O10_g0 := o10
  clear hm10 o10 O9_g0
  go_wp2_with fail
  refine (heldInt64S_any _ _ _ _ 1 _ O10_g0.rd hn2 (by omega) (by omega)).mono ?_
  rintro e' _ ⟨rfl, rfl⟩
  go_wp2_with fail
  refine (toUnitSS_any A n c w.heap.size us _ R10_a (by omega) hsz).mono ?_
  rintro e' w11 ⟨g11, us11, rfl, o11, hl11, ht11, hb11⟩
  have HL11 := Lib.hid hl11
  have HT11 := Lib.hid ht11
  have z11 : w10.heap.size ≤ w11.heap.size := hb11.size
  have HB11 := Lib.hid (HB10.out.trans (hb11.mono (by omega)))
  have R11_a := R10_a.below hb11 (by omega)
  have O11_w0 := O10_w0.below hb11 (by omega)
  have O11_g0 := O10_g0.below hb11 (by omega)
  clear R10_a O10_w0 O10_g0
  have O11_z := o11
  clear hb11 o11 hl11 ht11
  go_wp2_with fail
  refine (calls_bj (implBj_any (some ⟨g11, 0, none⟩) n n w11.heap.size us11 _ O11_z.rd (by omega) hn1 Cd (by rw [HL11.out]; exact HCd.out)) HL11.out).mono ?_
  rintro e' w12 ⟨A12, n12, c12, l12, e12, rfl, o12, hn12, hz12, hy12, hb12⟩
  obtain ⟨rfl, rfl⟩ : l2 = l12 ∧ e2 = e12 := BjC.same HZ0_.out HY0_.out hz12 hy12
  obtain rfl : n2 = n12 := O11_w0.rd.1.symm.trans o12.rd.1
  clear hz12 hy12 hn12
  have z12 : w11.heap.size ≤ w12.heap.size := hb12.size
  have HB12 := Lib.hid (HB11.out.trans (hb12.mono (by omega)))
  have R12_a := R11_a.below hb12 (by omega)
  have O12_w0 := O11_w0.below hb12 (by omega)
  have O12_g0 := O11_g0.below hb12 (by omega)
  have O12_z := O11_z.below hb12 (by omega)
  clear R11_a O11_w0 O11_g0 O11_z
  have O12_h0 := o12
  clear hb12 o12
  go_wp2_with fail
  refine (eqInt64S_true _ _ n2 _ _ _ _ _ _ O12_h0.rd O12_w0.rd hn2).mono ?_
  rintro e' w13 ⟨rfl, hq13⟩
  have hb13 : Below w12.heap.size w12 w13 := hq13.below _
  clear hq13
  have z13 : w12.heap.size ≤ w13.heap.size := hb13.size
  have HB13 := Lib.hid (HB12.out.trans (hb13.mono (by omega)))
  have R13_a := R12_a.below hb13 (by omega)
  have O13_w0 := O12_w0.below hb13 (by omega)
  have O13_g0 := O12_g0.below hb13 (by omega)
  have O13_z := O12_z.below hb13 (by omega)
  have O13_h0 := O12_h0.below hb13 (by omega)
  clear R12_a O12_w0 O12_g0 O12_z O12_h0
  clear hb13
  go_wp2_with fail
  refine (heldInt64S_any _ _ _ _ 1 _ O13_g0.rd hn2 (by omega) (by omega)).mono ?_
  rintro e' _ ⟨rfl, rfl⟩
  go_wp2_with fail
  go_ret
  exact ⟨rfl, HB13.out⟩
end Go.Proofs.Ytnfnmdeiaihgnaa
