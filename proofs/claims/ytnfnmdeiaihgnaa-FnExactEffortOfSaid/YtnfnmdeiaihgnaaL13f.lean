/- The walk of the exact law of EffortOf, out of the contracts. -/
import Derived.Test.YtnfnmdeiaihgnaaUnSS
import Derived.Test.YtnfnmdeiaihgnaaSxEf
import Derived.Test.YtnfnmdeiaihgnaaLw9
import Derived.Deep.RegionHeld3
namespace Go.Proofs.Ytnfnmdeiaihgnaa
open Go.RowKit
set_option linter.unusedVariables false

set_option maxRecDepth 100000 in
set_option maxHeartbeats 8000000 in
theorem w_FnExactEffortOf (A : Option Addr) (n c : Nat) (us : List UB) (A2 : Option Addr) (m c2 : Nat) (o : List Int) (w : World) (ha : RdA w w.heap.size A n us) (hm : n ≤ 9223372036854775807) (hb : Rd I w w.heap.size A2 m o) :
    Calls Try.prog 10 #[.slice A n c, .slice A2 m c2] w fun e w' => e = .returned (.bool true) ∧ Below w.heap.size w w' := by
  by_cases ht : 1048576 < m
  · have ht1 : (1048576 : Int) < (m : Int) := by omega
    have HB0 := Lib.hid (Below.refl w.heap.size w)
    have z0 : w.heap.size + 0 = w.heap.size := by simp
    go_enter Try.func10, Try.ntmps10
    go_wp2_with fail
    go_ret
    exact ⟨rfl, HB0.out⟩
  have hm2 : m ≤ 1048576 := by omega
  have ht3 : ¬ ((1048576 : Int) < (m : Int)) := by omega
  by_cases hs : 1048576 < n + totU us
  · have HB0 := Lib.hid (Below.refl w.heap.size w)
    have z0 : w.heap.size + 0 = w.heap.size := by simp
    go_enter Try.func10, Try.ntmps10
    go_wp2_with fail
    refine (szUnitSS_no A n c w.heap.size us _ ha hs hm).mono ?_
    rintro e' _ ⟨rfl, rfl⟩
    go_wp2_with fail
    go_ret
    exact ⟨rfl, HB0.out⟩
  have hsz : n + totU us ≤ 1048576 := by omega
  have hn1 : n ≤ 1048576 := by omega
  have hq0 : ¬ (1048576 - (n : Int) - (totU us : Int) < 0) := by omega
  obtain ⟨R, hR⟩ : ∃ v, Su.jfR (Su.lsU us) o = v := ⟨_, rfl⟩
  have HR := Lib.hid hR
  clear hR
  obtain ⟨Cd, hCd⟩ : ∃ v, Su.jfC (Su.lsU us) o = v := ⟨_, rfl⟩
  have HCd := Lib.hid hCd
  clear hCd
  have HB0 := Lib.hid (Below.refl w.heap.size w)
  have z0 : w.heap.size + 0 = w.heap.size := by simp
  have R0_a := ha
  have R0_b := hb
  go_enter Try.func10, Try.ntmps10
  go_wp2_with fail
  refine (szUnitSS_yes A n c w.heap.size us _ ha hsz).mono ?_
  rintro e' _ ⟨rfl, rfl⟩
  go_wp2_with fail
  refine (toUnitSS_any A n c w.heap.size us _ R0_a (by omega) hsz).mono ?_
  rintro e' w1 ⟨g1, us1, rfl, o1, hl1, ht1, hb1⟩
  have HL1 := Lib.hid hl1
  have HT1 := Lib.hid ht1
  have z1 : w.heap.size ≤ w1.heap.size := hb1.size
  have HB1 := Lib.hid (HB0.out.trans (hb1.mono (by omega)))
  have R1_a := R0_a.below hb1 (by omega)
  have R1_b := R0_b.below hb1 (by omega)
  clear R0_a R0_b
  have O1_s := o1
  clear hb1 o1 hl1 ht1
  go_wp2_with fail
  refine (toInt64S_any A2 m c2 w.heap.size o _ R1_b (by omega) hm2).mono ?_
  rintro e' w2 ⟨g2, rfl, o2, hb2⟩
  have z2 : w1.heap.size ≤ w2.heap.size := hb2.size
  have HB2 := Lib.hid (HB1.out.trans (hb2.mono (by omega)))
  have R2_a := R1_a.below hb2 (by omega)
  have R2_b := R1_b.below hb2 (by omega)
  have O2_s := O1_s.below hb2 (by omega)
  clear R1_a R1_b O1_s
  have O2_u := o2
  clear hb2 o2
  go_wp2_with fail
  refine (specEo_any (some ⟨g1, 0, none⟩) (some ⟨g2, 0, none⟩) n n m m w1.heap.size w2.heap.size us1 o _ O2_s.rd O2_u.rd (by omega) (by omega) hn1 hm2 (Nat.le_refl _) R Cd (by rw [HL1.out]; exact HR.out) (by rw [HL1.out]; exact HCd.out)).mono ?_
  rintro e' w3 ⟨rfl, hb3⟩
  have z3 : w2.heap.size ≤ w3.heap.size := hb3.size
  have HB3 := Lib.hid (HB2.out.trans (hb3.mono (by omega)))
  have R3_a := R2_a.below hb3 (by omega)
  have R3_b := R2_b.below hb3 (by omega)
  have O3_s := O2_s.below hb3 (by omega)
  have O3_u := O2_u.below hb3 (by omega)
  clear R2_a R2_b O2_s O2_u
  clear hb3
  go_wp2_with fail
  refine (toUnitSS_any A n c w.heap.size us _ R3_a (by omega) hsz).mono ?_
  rintro e' w4 ⟨g4, us4, rfl, o4, hl4, ht4, hb4⟩
  have HL4 := Lib.hid hl4
  have HT4 := Lib.hid ht4
  have z4 : w3.heap.size ≤ w4.heap.size := hb4.size
  have HB4 := Lib.hid (HB3.out.trans (hb4.mono (by omega)))
  have R4_a := R3_a.below hb4 (by omega)
  have R4_b := R3_b.below hb4 (by omega)
  have O4_s := O3_s.below hb4 (by omega)
  have O4_u := O3_u.below hb4 (by omega)
  clear R3_a R3_b O3_s O3_u
  have O4_x := o4
  clear hb4 o4 hl4 ht4
  go_wp2_with fail
  refine (toInt64S_any A2 m c2 w.heap.size o _ R4_b (by omega) hm2).mono ?_
  rintro e' w5 ⟨g5, rfl, o5, hb5⟩
  have z5 : w4.heap.size ≤ w5.heap.size := hb5.size
  have HB5 := Lib.hid (HB4.out.trans (hb5.mono (by omega)))
  have R5_a := R4_a.below hb5 (by omega)
  have R5_b := R4_b.below hb5 (by omega)
  have O5_s := O4_s.below hb5 (by omega)
  have O5_u := O4_u.below hb5 (by omega)
  have O5_x := O4_x.below hb5 (by omega)
  clear R4_a R4_b O4_s O4_u O4_x
  have O5_v := o5
  clear hb5 o5
  go_wp2_with fail
  refine (implEo_any (some ⟨g4, 0, none⟩) (some ⟨g5, 0, none⟩) n n m m w4.heap.size w5.heap.size us4 o _ O5_x.rd O5_v.rd (by omega) (by omega) hn1 hm2 (Nat.le_refl _) R Cd (by rw [HL4.out]; exact HR.out) (by rw [HL4.out]; exact HCd.out)).mono ?_
  rintro e' w6 ⟨rfl, hb6⟩
  have z6 : w5.heap.size ≤ w6.heap.size := hb6.size
  have HB6 := Lib.hid (HB5.out.trans (hb6.mono (by omega)))
  have R6_a := R5_a.below hb6 (by omega)
  have R6_b := R5_b.below hb6 (by omega)
  have O6_s := O5_s.below hb6 (by omega)
  have O6_u := O5_u.below hb6 (by omega)
  have O6_x := O5_x.below hb6 (by omega)
  have O6_v := O5_v.below hb6 (by omega)
  clear R5_a R5_b O5_s O5_u O5_x O5_v
  clear hb6
  go_wp2_with fail
  refine (toUnitSS_any A n c w.heap.size us _ R6_a (by omega) hsz).mono ?_
  rintro e' w7 ⟨g7, us7, rfl, o7, hl7, ht7, hb7⟩
  have HL7 := Lib.hid hl7
  have HT7 := Lib.hid ht7
  have z7 : w6.heap.size ≤ w7.heap.size := hb7.size
  have HB7 := Lib.hid (HB6.out.trans (hb7.mono (by omega)))
  have R7_a := R6_a.below hb7 (by omega)
  have R7_b := R6_b.below hb7 (by omega)
  have O7_s := O6_s.below hb7 (by omega)
  have O7_u := O6_u.below hb7 (by omega)
  have O7_x := O6_x.below hb7 (by omega)
  have O7_v := O6_v.below hb7 (by omega)
  clear R6_a R6_b O6_s O6_u O6_x O6_v
  have O7_y := o7
  clear hb7 o7 hl7 ht7
  go_wp2_with fail
  refine (eqUnitSS_true _ _ _ _ _ _ _ us4 us7 _ O7_x.rd O7_y.rd (by rw [HL7.out, HL4.out]) (by omega) (by omega) hn1).mono ?_
  rintro e' w8 ⟨rfl, hb8⟩
  have z8 : w7.heap.size ≤ w8.heap.size := hb8.size
  have HB8 := Lib.hid (HB7.out.trans (hb8.mono (by omega)))
  have R8_a := R7_a.below hb8 (by omega)
  have R8_b := R7_b.below hb8 (by omega)
  have O8_s := O7_s.below hb8 (by omega)
  have O8_u := O7_u.below hb8 (by omega)
  have O8_x := O7_x.below hb8 (by omega)
  have O8_v := O7_v.below hb8 (by omega)
  have O8_y := O7_y.below hb8 (by omega)
  clear R7_a R7_b O7_s O7_u O7_x O7_v O7_y
  clear hb8
  go_wp2_with fail
  refine (toInt64S_any A2 m c2 w.heap.size o _ R8_b (by omega) hm2).mono ?_
  rintro e' w9 ⟨g9, rfl, o9, hb9⟩
  have z9 : w8.heap.size ≤ w9.heap.size := hb9.size
  have HB9 := Lib.hid (HB8.out.trans (hb9.mono (by omega)))
  have R9_a := R8_a.below hb9 (by omega)
  have R9_b := R8_b.below hb9 (by omega)
  have O9_s := O8_s.below hb9 (by omega)
  have O9_u := O8_u.below hb9 (by omega)
  have O9_x := O8_x.below hb9 (by omega)
  have O9_v := O8_v.below hb9 (by omega)
  have O9_y := O8_y.below hb9 (by omega)
  clear R8_a R8_b O8_s O8_u O8_x O8_v O8_y
  have O9_z := o9
  clear hb9 o9
  go_wp2_with fail
  refine (eqInt64S_true _ _ m _ _ _ _ _ _ O9_v.rd O9_z.rd hm2).mono ?_
  rintro e' w10 ⟨rfl, hq10⟩
  have hb10 : Below w9.heap.size w9 w10 := hq10.below _
  clear hq10
  have z10 : w9.heap.size ≤ w10.heap.size := hb10.size
  have HB10 := Lib.hid (HB9.out.trans (hb10.mono (by omega)))
  have R10_a := R9_a.below hb10 (by omega)
  have R10_b := R9_b.below hb10 (by omega)
  have O10_s := O9_s.below hb10 (by omega)
  have O10_u := O9_u.below hb10 (by omega)
  have O10_x := O9_x.below hb10 (by omega)
  have O10_v := O9_v.below hb10 (by omega)
  have O10_y := O9_y.below hb10 (by omega)
  have O10_z := O9_z.below hb10 (by omega)
  clear R9_a R9_b O9_s O9_u O9_x O9_v O9_y O9_z
  clear hb10
  go_wp2_with fail
  go_ret
  exact ⟨rfl, HB10.out⟩
end Go.Proofs.Ytnfnmdeiaihgnaa
