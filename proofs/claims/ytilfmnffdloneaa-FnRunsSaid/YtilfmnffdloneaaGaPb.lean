/- Contracts of the model's RunFor, OversOf, UpsFor, LeastRun and BestUps. -/
import Derived.Test.YtilfmnffdloneaaGaRu
import Derived.Test.YtilfmnffdloneaaPush
namespace Go.Proofs.Ytilfmnffdloneaa
open Go.RowKit
set_option linter.unusedVariables false

theorem Ga.rf_cases {sl : Int} {q u : List Int} : Ga.rfC sl q u = 0 ∨ Ga.rfC sl q u = 1 ∨ Ga.rfC sl q u = 2 := by
  unfold Ga.rfC Ga.code
  cases Ga.okG sl q <;> cases Ga.okU sl q u <;> simp
set_option maxRecDepth 100000 in
set_option maxHeartbeats 4000000 in
theorem specGaRf_any (sl : Int) (A1 A2 : Option Addr) (n1 c1 B1 n2 c2 B2 : Nat) (q u : List Int) (R C : Int) (w : World) (h1 : Rd I w B1 A1 n1 q) (h2 : Rd I w B2 A2 n2 u) (hn1 : n1 ≤ 1048576) (hn2 : n2 ≤ 1048576) (hR : Ga.rfR sl q u = R) (hC : Ga.rfC sl q u = C) :
    Calls Try.prog 21 #[.int .i64 sl, .slice A1 n1 c1, .slice A2 n2 c2] w fun e w' => e = .returned (.tuple #[.int .i64 R, .int .i64 C]) ∧ Q w w' := by
  have hup := specGaU_any sl A1 A2 n1 c1 B1 n2 c2 B2 q u w h1 h2 hn1 hn2
  have hco := fun (b : Bool) (hb : sl ≤ 32 → Ga.okU sl q u = b) => specGaC_any sl A1 n1 c1 B1 q b C w h1 hn1 (by rw [Ga.code_32 hb]; exact hC)
  have HR := Lib.hid hR
  have HC := Lib.hid hC
  by_cases h0 : C = 0
  · subst h0
    obtain ⟨hg, hu⟩ := Ga.rf_ok hC
    have hgg := Ga.okG_iff.1 hg
    have huu := Ga.okU_iff.1 hu
    have HE : Hid (Ga.run q u = R) := Lib.hid (by rw [← hR]; unfold Ga.rfR; rw [if_pos hC])
    have e12 : n2 = n1 := by have h5 := huu.1; rw [h1.1, h2.1] at h5; exact h5
    subst e12
    have hrn := specGaR_any A1 A2 n2 c1 B1 c2 B2 q u R w h1 h2 (by rw [← h1.1]; exact hgg.2.2.2.1) hgg.2.2.2.2 (fun x hx => by have := huu.2.1.2 x hx; have := hgg.1; omega) HE.out
    clear hR hC hg hu hgg huu
    go_enter Try.func21, Try.ntmps21
    go_wp2_with fail
    refine hup.mono ?_
    rintro e _ ⟨b, rfl, hb, rfl⟩
    have hco2 := hco b hb
    clear hco hb hup
    go_wp2_with fail
    refine hco2.mono ?_
    rintro e _ ⟨rfl, rfl⟩
    go_wp2_with fail
    refine hrn.mono ?_
    rintro e w1 ⟨rfl, hq1⟩
    go_wp2_with fail
    go_ret2
    exact ⟨rfl, hq1⟩
  · have HE : Hid (R = 0) := Lib.hid (by rw [← hR]; unfold Ga.rfR; rw [hC, if_neg h0])
    have hcB : (C != 0) = true := by simpa using h0
    clear hR hC
    go_enter Try.func21, Try.ntmps21
    go_wp2_with fail
    refine hup.mono ?_
    rintro e _ ⟨b, rfl, hb, rfl⟩
    have hco2 := hco b hb
    clear hco hb hup
    go_wp2_with fail
    refine hco2.mono ?_
    rintro e _ ⟨rfl, rfl⟩
    go_wp2_with fail
    go_ret2
    exact ⟨by rw [HE.out]; rfl, Q.refl _⟩
set_option maxRecDepth 100000 in
set_option maxHeartbeats 8000000 in
theorem specGaOv_any (sl : Int) (A1 A2 : Option Addr) (n1 c1 B1 n2 c2 B2 : Nat) (q u R : List Int) (C : Int) (w : World) (h1 : Rd I w B1 A1 n1 q) (h2 : Rd I w B2 A2 n2 u) (hB1 : B1 ≤ w.heap.size) (hB2 : B2 ≤ w.heap.size) (hn1 : n1 ≤ 1048576) (hn2 : n2 ≤ 1048576) (hR : Ga.ovR sl q u = R) (hC : Ga.rfC sl q u = C) :
    Calls Try.prog 23 #[.int .i64 sl, .slice A1 n1 c1, .slice A2 n2 c2] w fun e w' => LC w R C e w' := by
  obtain ⟨i0, hi0, hz0, hz1, hz2⟩ := info_parts infoI
  have hup := specGaU_any sl A1 A2 n1 c1 B1 n2 c2 B2 q u w h1 h2 hn1 hn2
  have hco := fun (b : Bool) (hb : sl ≤ 32 → Ga.okU sl q u = b) => specGaC_any sl A1 n1 c1 B1 q b C w h1 hn1 (by rw [Ga.code_32 hb]; exact hC)
  by_cases h0 : C = 0
  · subst h0
    obtain ⟨hg, hu⟩ := Ga.rf_ok hC
    have hgg := Ga.okG_iff.1 hg
    have huu := Ga.okU_iff.1 hu
    have e12 : n2 = n1 := by have h5 := huu.1; rw [h1.1, h2.1] at h5; exact h5
    subst e12
    obtain ⟨r, hr⟩ : ∃ r, Ga.run q u = r := ⟨_, rfl⟩
    have HE : Hid (Ga.overs r q u = R) := Lib.hid (by rw [← hR]; unfold Ga.ovR; rw [if_pos hC, hr])
    have hn6 : n2 ≤ 6 := by rw [← h1.1]; exact hgg.2.2.2.1
    have HQ := Lib.hid hgg.2.2.2.2
    have HU : Hid (∀ x ∈ u, 1 ≤ x ∧ x ≤ 32) := Lib.hid fun x hx => by have := huu.2.1.2 x hx; have := hgg.1; omega
    have hrb : 0 ≤ r ∧ r ≤ 1000000 := by
      rw [← hr]
      exact ⟨Ga.run_pos q u, Ga.run_bd HQ.out fun x hx => (HU.out x hx).1⟩
    have hrn := specGaR_any A1 A2 n2 c1 B1 c2 B2 q u r w h1 h2 hn6 HQ.out HU.out hr
    have HL1 := Lib.hid h1.1
    have HL2 := Lib.hid h2.1
    have HOL : Hid ((Ga.overs r q u).length = n2) := Lib.hid (by rw [Ga.overs_len huu.1]; exact h1.1)
    clear hR hC hg hu hgg huu hr
    go_enter Try.func23, Try.ntmps23
    go_wp2_with fail
    refine hup.mono ?_
    rintro e _ ⟨b, rfl, hb, rfl⟩
    have hco2 := hco b hb
    clear hco hb hup
    go_wp2_with fail
    refine hco2.mono ?_
    rintro e _ ⟨rfl, rfl⟩
    go_wp2_with fail
    refine hrn.mono ?_
    rintro e w1 ⟨rfl, hq1⟩
    have hz1' : Hid (w1.heap.size = w.heap.size) := Lib.hid hq1.size
    have ho0 : Own I (w1.alloc (.cells #[] 2)) w1.heap.size (w1.heap.size + 1) 2 (.slice (some ⟨w1.heap.size, 0, none⟩) 0 0) ([] : List Int) := Own.lit0 I w1 2
    have hb0 : Below w.heap.size w (w1.alloc (.cells #[] 2)) := (hq1.below _).alloc (by rw [hz1'.out]; exact Nat.le_refl _) _
    have hzz : (w1.alloc (.cells #[] 2)).heap.size = w1.heap.size + 1 := by simp
    clear hrn hco2
    go_wp2_with fail
    go_loopw [10, 11] (fun v i wr => ∃ (k : Nat) (A : Option Addr) (c : Nat), k ≤ n2 ∧ i = .int .i64 k ∧ v = .slice A k c ∧ Own I wr w.heap.size wr.heap.size 2 (.slice A k c) ((Ga.overs r q u).take k) ∧ Below w.heap.size w wr) (fun _ i _ => n2 - (intOf i).toNat)
    case atStart => exact ⟨0, _, _, Nat.zero_le _, rfl, rfl, by simpa using ho0.mono (Nat.le_of_eq hz1'.out.symm) (show w1.heap.size + 1 ≤ (w1.alloc (.cells #[] 2)).heap.size by omega), hb0⟩
    case round =>
      clear ho0 hb0 hzz hq1 hz1'
      obtain ⟨k, A, c, hk, rfl, rfl, ho, hb⟩ := hrel
      have hzb := hb.size
      by_cases hlt : k < n2
      · have hltI : (k : Int) < (n2 : Int) := by omega
        obtain ⟨b1, o1, a, rfl, hb1, ha, ca⟩ := (h1.below hb hB1).at_ hlt
        obtain ⟨b2, o2, v, rfl, hb2, hv, cv⟩ := (h2.below hb hB2).at_ hlt
        have ha1 := HQ.out a (List.mem_of_getElem? ha)
        have hv1 := HU.out v (List.mem_of_getElem? hv)
        obtain ⟨t, ht⟩ : ∃ t, v * r = t := ⟨_, rfl⟩
        have htb : 0 ≤ t ∧ t ≤ 32000000 := by
          rw [← ht]
          have h5 := Int.mul_le_mul (a := v) (b := r) (c := 32) (d := 1000000) (by omega) (by omega) (by omega) (by omega)
          exact ⟨Int.mul_nonneg (by omega) (by omega), by omega⟩
        have e1 : IntKind.i64.wrap (v * r) = t := by rw [ht]; exact IntWalk.i64_in _ (by omega)
        obtain ⟨z, hz⟩ : ∃ z, t - a = z := ⟨_, rfl⟩
        have e2 : IntKind.i64.wrap (t - a) = z := by rw [hz]; exact IntWalk.i64_in _ (by omega)
        have HN : Hid ((Ga.overs r q u).take (k + 1) = (Ga.overs r q u).take k ++ [z]) := Lib.hid (by
          rw [take_nextGa _ k _ (Ga.overs_at ha hv), ht, hz])
        have l1 : b1 < wr.heap.size := by omega
        have l2 : b2 < wr.heap.size := by omega
        clear ha hv ha1 hv1 ht htb hz
        go_wp2_with fail
        go_region_law (first
          | ((refine step_push3 wr.drew rfl (.tmp 32) (.tmp 44) 24 rfl 2 i0 (.int .i64 0) 8 Try.underlying24 hi0 hz0 hz1 hz2 rfl A k c ((Ga.overs r q u).take k) w.heap.size wr.heap.size (by rfl) (ho.drewN 1) z (by rfl) rfl (by omega) (by omega) hzb ?_); intro A5 c5 w5 ho5 hm5 hk5))
        all_goals
          have HO5 : Hid (Own I w5 w.heap.size w5.heap.size 2 (.slice A5 (k + 1) c5) ((Ga.overs r q u).take (k + 1))) := Lib.hid (by rw [HN.out]; exact ho5)
          have HB5 := Lib.hid ((below_drewN' hb 1).trans (hm5.below (B := w.heap.size) (Nat.le_refl _) hzb))
          clear ho hb ho5 hm5 hk5 ca cv
          go_wp2_with fail
          go_roundw
          case rel => exact ⟨k + 1, A5, c5, by omega, by go_num, rfl, HO5.out, HB5.out⟩
          case measure => simp [intOf]; omega
      · obtain rfl : k = n2 := by omega
        have HT : Hid ((Ga.overs r q u).take k = R) := Lib.hid (by rw [List.take_of_length_le (by rw [HOL.out]; exact Nat.le_refl _), HE.out])
        rw [HT.out] at ho
        go_wp2_with fail
        go_ret2
        exact LC.mk_ rfl rfl ho (Nat.le_refl _) (Nat.le_refl _) (by omega) hb
  · have HE : Hid (R = []) := Lib.hid (by rw [← hR]; unfold Ga.ovR; rw [hC, if_neg h0])
    have hcB : (C != 0) = true := by simpa using h0
    clear hR hC
    go_enter Try.func23, Try.ntmps23
    go_wp2_with fail
    refine hup.mono ?_
    rintro e _ ⟨b, rfl, hb, rfl⟩
    have hco2 := hco b hb
    clear hco hb hup
    go_wp2_with fail
    refine hco2.mono ?_
    rintro e _ ⟨rfl, rfl⟩
    go_wp2_with fail
    go_ret2
    exact LC.nil_ HE.out rfl (Below.refl _ _)
end Go.Proofs.Ytilfmnffdloneaa
