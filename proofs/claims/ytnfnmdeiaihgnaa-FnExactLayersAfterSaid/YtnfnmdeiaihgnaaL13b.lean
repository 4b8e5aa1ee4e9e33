/- The walk of the exact law of LayersAfter, out of the contracts. -/
import Derived.Test.YtnfnmdeiaihgnaaUnLw
import Derived.Test.YtnfnmdeiaihgnaaSuIg
import Derived.Test.YtnfnmdeiaihgnaaLw9
import Derived.Deep.RegionHeld3
namespace Go.Proofs.Ytnfnmdeiaihgnaa
open Go.RowKit
set_option linter.unusedVariables false

set_option maxRecDepth 100000 in
set_option maxHeartbeats 8000000 in
theorem w_FnExactLayersAfter (A : Option Addr) (n c : Nat) (l : List Un) (a1 : Int) (w : World) (ha : RdS Un.S w w.heap.size A n l) (hm : n ≤ 9223372036854775807) (w1_ : -9223372036854775808 ≤ a1 ∧ a1 ≤ 9223372036854775807) :
    Calls Try.prog 8 #[.slice A n c, .int .i64 a1] w fun e w' => e = .returned (.bool true) ∧ Below w.heap.size w w' := by
  by_cases hs : 1048576 < n
  · have HB0 := Lib.hid (Below.refl w.heap.size w)
    have z0 : w.heap.size + 0 = w.heap.size := by simp
    go_enter Try.func8, Try.ntmps8
    go_wp2_with fail
    refine (szUnitS_no A n c _ hs hm).mono ?_
    rintro e' _ ⟨rfl, rfl⟩
    go_wp2_with fail
    go_ret
    exact ⟨rfl, HB0.out⟩
  have hn : n ≤ 1048576 := by omega
  have hq0 : ¬ (1048576 - (n : Int) < 0) := by omega
  obtain ⟨R, hR⟩ : ∃ v, Su.laR l a1 = v := ⟨_, rfl⟩
  have HR := Lib.hid hR
  clear hR
  obtain ⟨Cd, hCd⟩ : ∃ v, Su.laC l a1 = v := ⟨_, rfl⟩
  have HCd := Lib.hid hCd
  clear hCd
  have HB0 := Lib.hid (Below.refl w.heap.size w)
  have z0 : w.heap.size + 0 = w.heap.size := by simp
  have R0_a := ha
  go_enter Try.func8, Try.ntmps8
  go_wp2_with fail
  refine (szUnitS_yes A n c _ hn).mono ?_
  rintro e' _ ⟨rfl, rfl⟩
  go_wp2_with fail
  refine (toUnitS_any A n c w.heap.size l _ R0_a (by omega) hn).mono ?_
  rintro e' w1 ⟨g1, rfl, o1, hb1⟩
  have z1 : w.heap.size ≤ w1.heap.size := hb1.size
  have HB1 := Lib.hid (HB0.out.trans (hb1.mono (by omega)))
  have R1_a := R0_a.below hb1 (by omega)
  clear R0_a
  have O1_s := o1
  clear hb1 o1
  go_wp2_with fail
  refine (q_belowU (specLa_any (some ⟨g1, 0, none⟩) n n w1.heap.size l a1 R Cd _ O1_s.rd (by omega) HR.out HCd.out)).mono ?_
  rintro e' w2 ⟨rfl, hb2⟩
  have z2 : w1.heap.size ≤ w2.heap.size := hb2.size
  have HB2 := Lib.hid (HB1.out.trans (hb2.mono (by omega)))
  have R2_a := R1_a.below hb2 (by omega)
  have O2_s := O1_s.below hb2 (by omega)
  clear R1_a O1_s
  clear hb2
  go_wp2_with fail
  refine (toUnitS_any A n c w.heap.size l _ R2_a (by omega) hn).mono ?_
  rintro e' w3 ⟨g3, rfl, o3, hb3⟩
  have z3 : w2.heap.size ≤ w3.heap.size := hb3.size
  have HB3 := Lib.hid (HB2.out.trans (hb3.mono (by omega)))
  have R3_a := R2_a.below hb3 (by omega)
  have O3_s := O2_s.below hb3 (by omega)
  clear R2_a O2_s
  have O3_x := o3
  clear hb3 o3
  go_wp2_with fail
  refine (implLa_any (some ⟨g3, 0, none⟩) n n w3.heap.size l a1 R Cd _ O3_x.rd (by omega) (by omega) (Nat.le_refl _) w1_ HR.out HCd.out).mono ?_
  rintro e' w4 ⟨rfl, hb4⟩
  have z4 : w3.heap.size ≤ w4.heap.size := hb4.size
  have HB4 := Lib.hid (HB3.out.trans (hb4.mono (by omega)))
  have R4_a := R3_a.below hb4 (by omega)
  have O4_s := O3_s.below hb4 (by omega)
  have O4_x := O3_x.below hb4 (by omega)
  clear R3_a O3_s O3_x
  clear hb4
  go_wp2_with fail
  refine (toUnitS_any A n c w.heap.size l _ R4_a (by omega) hn).mono ?_
  rintro e' w5 ⟨g5, rfl, o5, hb5⟩
  have z5 : w4.heap.size ≤ w5.heap.size := hb5.size
  have HB5 := Lib.hid (HB4.out.trans (hb5.mono (by omega)))
  have R5_a := R4_a.below hb5 (by omega)
  have O5_s := O4_s.below hb5 (by omega)
  have O5_x := O4_x.below hb5 (by omega)
  clear R4_a O4_s O4_x
  have O5_y := o5
  clear hb5 o5
  go_wp2_with fail
  refine (eqUnitS_true _ _ _ _ _ _ _ l _ O5_x.rd O5_y.rd (by omega) (by omega) hn).mono ?_
  rintro e' w6 ⟨rfl, hb6⟩
  have z6 : w5.heap.size ≤ w6.heap.size := hb6.size
  have HB6 := Lib.hid (HB5.out.trans (hb6.mono (by omega)))
  have R6_a := R5_a.below hb6 (by omega)
  have O6_s := O5_s.below hb6 (by omega)
  have O6_x := O5_x.below hb6 (by omega)
  have O6_y := O5_y.below hb6 (by omega)
  clear R5_a O5_s O5_x O5_y
  clear hb6
  go_wp2_with fail
  go_ret
  exact ⟨rfl, HB6.out⟩
end Go.Proofs.Ytnfnmdeiaihgnaa
