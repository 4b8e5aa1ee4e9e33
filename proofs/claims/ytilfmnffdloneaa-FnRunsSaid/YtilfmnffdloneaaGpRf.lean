/- Contracts of the program's RunFor, OversOf and UpsFor. -/
import Derived.Test.YtilfmnffdloneaaGpRu
namespace Go.Proofs.Ytilfmnffdloneaa
open Go.RowKit
set_option linter.unusedVariables false

set_option maxRecDepth 100000 in
set_option maxHeartbeats 4000000 in
theorem implGaRf_any (r : Int) (A1 A2 : Option Addr) (n1 c1 B1 n2 c2 B2 : Nat) (q u : List Int) (R C : Int) (w : World) (h1 : Rd I w B1 A1 n1 q) (h2 : Rd I w B2 A2 n2 u) (hB1 : B1 ≤ w.heap.size) (hB2 : B2 ≤ w.heap.size) (hn1 : n1 ≤ 1048576) (hn2 : n2 ≤ 1048576) (hc1 : n1 ≤ c1) (hc2 : n2 ≤ c2) (hr : Ga.i64 r) (hR : Ga.rfR r q u = R) (hC : Ga.rfC r q u = C) :
    Calls Try.prog 20 #[.int .i64 r, .slice A1 n1 c1, .slice A2 n2 c2] w fun e w' => e = .returned (.tuple #[.int .i64 R, .int .i64 C]) ∧ Below w.heap.size w w' := by
  obtain ⟨d, hd⟩ : ∃ d, Ga.okG r q = d := ⟨_, rfl⟩
  have HD := Lib.hid hd
  have HN := Lib.hid (below_newG w (.cells #[.int .i64 r, .slice A1 n1 c1] 57))
  have hbx : GBx (w.alloc (.cells #[.int .i64 r, .slice A1 n1 c1] 57)) w.heap.size r A1 n1 c1 := Blk.new _ _ rfl
  have hr1 := h1.alloc hB1 (.cells #[.int .i64 r, .slice A1 n1 c1] 57)
  have hr2 := h2.alloc hB2 (.cells #[.int .i64 r, .slice A1 n1 c1] 57)
  have k0 := hbx.cell 0 (v := .int .i64 r) rfl
  have k1 := hbx.cell 1 (v := .slice A1 n1 c1) rfl
  have hz : (w.alloc (.cells #[.int .i64 r, .slice A1 n1 c1] 57)).heap.size = w.heap.size + 1 := by simp
  have hvt := implGv_any r A1 n1 c1 B1 q d _ hr1 (by omega) hn1 hd
  clear hd hr
  cases d
  · have e2 : C = 1 := by rw [← hC]; unfold Ga.rfC Ga.code; rw [HD.out]; rfl
    have e1 : R = 0 := by rw [← hR]; unfold Ga.rfR; rw [hC, e2]; rfl
    subst e1 e2
    clear hR hC
    go_enter Try.func20, Try.ntmps20
    go_wp2_with fail
    refine hvt.mono ?_
    rintro e w1 ⟨rfl, hb1⟩
    go_wp2_with fail
    go_ret2
    exact ⟨rfl, HN.out.trans (hb1.mono (by omega))⟩
  · obtain ⟨b, hb⟩ : ∃ b, Ga.okU r q u = b := ⟨_, rfl⟩
    have HB := Lib.hid hb
    have hgg := Ga.okG_iff.1 HD.out
    have hn6 : n1 ≤ 6 := by rw [← h1.1]; exact hgg.2.2.2.1
    have hr32 := hgg.1
    have HQ := Lib.hid hgg.2.2.2.2
    have HL1 := Lib.hid h1.1
    have HL2 := Lib.hid h2.1
    have HC : Hid ((if b then 0 else 2) = C) := Lib.hid (by rw [← hC, ← hb]; unfold Ga.rfC Ga.code; rw [HD.out]; rfl)
    have HR : Hid ((if b then Ga.run q u else 0) = R) := Lib.hid (by
      rw [← hR]
      unfold Ga.rfR
      rw [hC, ← HC.out]
      cases b <;> rfl)
    clear hR hC hb hgg
    cases b
    · have e1 : R = 0 := HR.out.symm
      have e2 : C = 2 := HC.out.symm
      subst e1 e2
      go_enter Try.func20, Try.ntmps20
      go_wp2_with fail
      refine hvt.mono ?_
      rintro e w1 ⟨rfl, hb1⟩
      have q1 := hbx.below hb1 hbx.lt
      have hz1 := hb1.size
      replace k0 := q1.cell 0 (v := .int .i64 r) rfl
      replace k1 := q1.cell 1 (v := .slice A1 n1 c1) rfl
      have hal := implGal_any r A1 A2 n1 c1 n2 c2 B2 q u false w1 HL1.out (hr2.below hb1 (by omega)) (by omega) hn6 hr32 HB.out
      go_wp2_with fail
      refine hal.mono ?_
      rintro e w2 ⟨rfl, hb2⟩
      go_wp2_with fail
      go_ret2
      exact ⟨rfl, (HN.out.trans (hb1.mono (by omega))).trans (hb2.mono (by omega))⟩
    · have HRR : Hid (Ga.run q u = R) := Lib.hid HR.out
      have e2 : C = 0 := HC.out.symm
      subst e2
      have huu := Ga.okU_iff.1 HB.out
      have e12 : n2 = n1 := by have h5 := huu.1; rw [HL1.out, HL2.out] at h5; exact h5
      subst e12
      have HU : Hid (∀ x ∈ u, 1 ≤ x ∧ x ≤ 32) := Lib.hid fun x hx => by have := huu.2.1.2 x hx; omega
      clear huu
      go_enter Try.func20, Try.ntmps20
      go_wp2_with fail
      refine hvt.mono ?_
      rintro e w1 ⟨rfl, hb1⟩
      have q1 := hbx.below hb1 hbx.lt
      have hz1 := hb1.size
      replace k0 := q1.cell 0 (v := .int .i64 r) rfl
      replace k1 := q1.cell 1 (v := .slice A1 n2 c1) rfl
      have hs1 := hr1.below hb1 (by omega)
      have hs2 := hr2.below hb1 (by omega)
      have hal := implGal_any r A1 A2 n2 c1 n2 c2 B2 q u true w1 HL1.out hs2 (by omega) hn6 hr32 HB.out
      go_wp2_with fail
      refine hal.mono ?_
      rintro e w2 ⟨rfl, hb2⟩
      have q2 := q1.below hb2 q1.lt
      have hz2 := hb2.size
      replace k0 := q2.cell 0 (v := .int .i64 r) rfl
      replace k1 := q2.cell 1 (v := .slice A1 n2 c1) rfl
      have hru := implGrun_any r A1 A2 n2 c1 B1 c2 B2 q u R w2 (hs1.below hb2 (by omega)) (hs2.below hb2 (by omega)) (by omega) (by omega) hn6 HQ.out HU.out HRR.out
      go_wp2_with fail
      refine hru.mono ?_
      rintro e w3 ⟨rfl, hb3⟩
      go_wp2_with fail
      go_ret2
      exact ⟨rfl, ((HN.out.trans (hb1.mono (by omega))).trans (hb2.mono (by omega))).trans (hb3.mono (by omega))⟩
set_option maxRecDepth 100000 in
set_option maxHeartbeats 4000000 in
theorem implGaOv_any (r : Int) (A1 A2 : Option Addr) (n1 c1 B1 n2 c2 B2 : Nat) (q u R : List Int) (C : Int) (w : World) (h1 : Rd I w B1 A1 n1 q) (h2 : Rd I w B2 A2 n2 u) (hB1 : B1 ≤ w.heap.size) (hB2 : B2 ≤ w.heap.size) (hn1 : n1 ≤ 1048576) (hn2 : n2 ≤ 1048576) (hc1 : n1 ≤ c1) (hc2 : n2 ≤ c2) (hr : Ga.i64 r) (hR : Ga.ovR r q u = R) (hC : Ga.rfC r q u = C) :
    Calls Try.prog 22 #[.int .i64 r, .slice A1 n1 c1, .slice A2 n2 c2] w fun e w' => LC w R C e w' := by
  obtain ⟨i0, hi0, hz0, hz1, hz2⟩ := info_parts infoI
  by_cases h0 : C = 0
  · subst h0
    obtain ⟨hg, hu⟩ := Ga.rf_ok hC
    have hgg := Ga.okG_iff.1 hg
    have huu := Ga.okU_iff.1 hu
    have e12 : n2 = n1 := by have h5 := huu.1; rw [h1.1, h2.1] at h5; exact h5
    subst e12
    obtain ⟨t0, ht0⟩ : ∃ t, Ga.run q u = t := ⟨_, rfl⟩
    have hrf := implGaRf_any r A1 A2 n2 c1 B1 n2 c2 B2 q u t0 0 w h1 h2 hB1 hB2 hn1 hn2 hc1 hc2 hr (by unfold Ga.rfR; rw [if_pos hC, ht0]) hC
    have HE : Hid (Ga.overs t0 q u = R) := Lib.hid (by rw [← hR]; unfold Ga.ovR; rw [if_pos hC, ht0])
    have hn6 : n2 ≤ 6 := by rw [← h1.1]; exact hgg.2.2.2.1
    have HQ := Lib.hid hgg.2.2.2.2
    have HU : Hid (∀ x ∈ u, 1 ≤ x ∧ x ≤ 32) := Lib.hid fun x hx => by have := huu.2.1.2 x hx; have := hgg.1; omega
    have hrb : 0 ≤ t0 ∧ t0 ≤ 1000000 := by
      rw [← ht0]
      exact ⟨Ga.run_pos q u, Ga.run_bd HQ.out fun x hx => (HU.out x hx).1⟩
    have HL1 := Lib.hid h1.1
    have HL2 := Lib.hid h2.1
    have HOL : Hid ((Ga.overs t0 q u).length = n2) := Lib.hid (by rw [Ga.overs_len huu.1]; exact h1.1)
    have HB2 : i0.bytes * n2 ≤ 281474976710656 := by rw [hz2]; omega
    have HN2 : n2 ≤ maxLen := by unfold maxLen; omega
    clear hR hC hg hu hgg huu ht0 hr
    go_enter Try.func22, Try.ntmps22
    go_wp2_with fail
    refine hrf.mono ?_
    rintro e w1 ⟨rfl, hb1⟩
    have z1 := hb1.size
    clear hrf
    go_wp2_with (at_make; refine wpList_make_own _ rfl _ _ 24 rfl w1.heap.size 2 i0 _ 1 Try.underlying24 hi0 hz0 hz1 .i64 .i64 _ n2 rfl rfl rfl HB2 HN2 (Nat.le_refl _) ?_; intro w2 hown2 hg2)
    have hb2 : Below w1.heap.size w1 w2 := (Below.refl _ _).grown hg2 (Nat.le_refl _) (by simp)
    have hbb := hb1.trans (hb2.mono z1)
    have ho2 : Own I w2 w1.heap.size w2.heap.size 2 (.slice (some ⟨w1.heap.size, 0, none⟩) 0 n2) ([] : List Int) := Own.here hown2 rfl
    clear hown2 hg2 hb1 hb2
    go_loopw [10, 11, 12, 28] (fun v _ _ i wr => ∃ (k : Nat) (A : Option Addr) (c : Nat), k ≤ n2 ∧ i = .int .i64 k ∧ v = .slice A k c ∧ Own I wr w.heap.size wr.heap.size 2 (.slice A k c) ((Ga.overs t0 q u).take k) ∧ Below w.heap.size w wr) (fun _ _ _ i _ => n2 - (intOf i).toNat)
    case atStart => exact ⟨0, _, _, Nat.zero_le _, rfl, rfl, by simpa using ho2.mono z1 (Nat.le_refl _), hbb⟩
    case round =>
      clear ho2 hbb
      obtain ⟨k, A, c, hk, rfl, rfl, ho, hb⟩ := hrel
      have hzb := hb.size
      by_cases hlt : k < n2
      · have hltI : (k : Int) < (n2 : Int) := by omega
        obtain ⟨b1, o1, a, rfl, hb1, ha, ca⟩ := (h1.below hb hB1).at_ hlt
        obtain ⟨b2, o2, v, rfl, hb2, hv, cv⟩ := (h2.below hb hB2).at_ hlt
        have ha1 := HQ.out a (List.mem_of_getElem? ha)
        have hv1 := HU.out v (List.mem_of_getElem? hv)
        obtain ⟨t, ht⟩ : ∃ t, v * t0 = t := ⟨_, rfl⟩
        have htb : 0 ≤ t ∧ t ≤ 32000000 := by
          rw [← ht]
          have h5 := Int.mul_le_mul (a := v) (b := t0) (c := 32) (d := 1000000) (by omega) (by omega) (by omega) (by omega)
          exact ⟨Int.mul_nonneg (by omega) (by omega), by omega⟩
        have e1 : IntKind.i64.wrap (v * t0) = t := by rw [ht]; exact IntWalk.i64_in _ (by omega)
        obtain ⟨z, hz⟩ : ∃ z, t - a = z := ⟨_, rfl⟩
        have e2 : IntKind.i64.wrap (t - a) = z := by rw [hz]; exact IntWalk.i64_in _ (by omega)
        have HN : Hid ((Ga.overs t0 q u).take (k + 1) = (Ga.overs t0 q u).take k ++ [z]) := Lib.hid (by
          rw [take_nextGa _ k _ (Ga.overs_at ha hv), ht, hz])
        clear ha hv ha1 hv1 ht htb hz
        go_wp2_with (at_builtin; refine wp_push (enc := I) wr rfl _ _ 24 rfl 2 i0 _ 8 Try.underlying24 hi0 hz0 hz1 hz2 rfl A k c _ _ _ rfl ho z rfl rfl (by omega) (by omega) (by omega) ?_; intro A4 c4 w4 ho4 hm4; have HO4 : Hid (Own I w4 w.heap.size w4.heap.size 2 (.slice A4 (k + 1) c4) ((Ga.overs t0 q u).take (k + 1))) := Lib.hid (by rw [HN.out]; exact ho4); have HB4 := Lib.hid (hb.trans (hm4.below (Nat.le_refl _) hzb)); clear ho4 hm4)
        go_roundw
        case rel => exact ⟨k + 1, A4, c4, by omega, by go_num, rfl, HO4.out, HB4.out⟩
        case measure => simp [intOf]; omega
      · obtain rfl : k = n2 := by omega
        have HT : Hid ((Ga.overs t0 q u).take k = R) := Lib.hid (by rw [List.take_of_length_le (by rw [HOL.out]; exact Nat.le_refl _), HE.out])
        rw [HT.out] at ho
        go_wp2_with fail
        go_ret2
        exact LC.mk_ rfl rfl ho (Nat.le_refl _) (Nat.le_refl _) (by omega) hb
  · have HE : Hid (R = []) := Lib.hid (by rw [← hR]; unfold Ga.ovR; rw [hC, if_neg h0])
    have hcB : (C != 0) = true := by simpa using h0
    have hrf := implGaRf_any r A1 A2 n1 c1 B1 n2 c2 B2 q u _ C w h1 h2 hB1 hB2 hn1 hn2 hc1 hc2 hr rfl hC
    clear hR hC hr
    go_enter Try.func22, Try.ntmps22
    go_wp2_with fail
    refine hrf.mono ?_
    rintro e w1 ⟨rfl, hb1⟩
    clear hrf
    go_wp2_with fail
    go_ret2
    exact LC.nil_ HE.out rfl hb1
set_option maxRecDepth 100000 in
set_option maxHeartbeats 4000000 in
theorem implGaUf_any (r z : Int) (A : Option Addr) (n c B : Nat) (q R : List Int) (C : Int) (w : World) (h : Rd I w B A n q) (hB : B ≤ w.heap.size) (hn : n ≤ 1048576) (hc : n ≤ c) (hr : Ga.i64 r) (hz : Ga.i64 z) (hR : Ga.ufR r q z = R) (hC : Ga.ufC r q z = C) :
    Calls Try.prog 25 #[.int .i64 r, .slice A n c, .int .i64 z] w fun e w' => LC w R C e w' := by
  obtain ⟨d, hd⟩ : ∃ d, Ga.okG r q = d := ⟨_, rfl⟩
  have HD := Lib.hid hd
  have HN := Lib.hid (below_newG w (.cells #[.int .i64 r, .slice A n c] 57))
  have hbx : GBx (w.alloc (.cells #[.int .i64 r, .slice A n c] 57)) w.heap.size r A n c := Blk.new _ _ rfl
  have hr1 := h.alloc hB (.cells #[.int .i64 r, .slice A n c] 57)
  have k0 := hbx.cell 0 (v := .int .i64 r) rfl
  have k1 := hbx.cell 1 (v := .slice A n c) rfl
  have hz9 : (w.alloc (.cells #[.int .i64 r, .slice A n c] 57)).heap.size = w.heap.size + 1 := by simp
  have hvt := implGv_any r A n c B q d _ hr1 (by omega) hn hd
  have HNO : Hid (C ≠ 0 → R = []) := Lib.hid fun hne => by rw [← hR]; unfold Ga.ufR; rw [hC, if_neg hne]
  clear hd hr
  cases d
  · have HC : Hid (C = 1) := Lib.hid (by rw [← hC]; unfold Ga.ufC; rw [HD.out]; rfl)
    clear hR hC
    go_enter Try.func25, Try.ntmps25
    go_wp2_with fail
    refine hvt.mono ?_
    rintro e w1 ⟨rfl, hb1⟩
    go_wp2_with fail
    go_ret2
    exact LC.nil_ (HNO.out (by rw [HC.out]; decide)) HC.out (HN.out.trans (hb1.mono (by omega)))
  have hgg := Ga.okG_iff.1 HD.out
  have hn6 : n ≤ 6 := by rw [← h.1]; exact hgg.2.2.2.1
  have hr32 := hgg.1
  have HQ := Lib.hid hgg.2.2.2.2
  have HC : Hid (C = if 1 ≤ z ∧ z ≤ 1000000 then (if Ga.tot (Ga.forR q z) ≤ r then 0 else 4) else 2) := Lib.hid (by rw [← hC]; unfold Ga.ufC; rw [HD.out]; rfl)
  have HRR : Hid (C = 0 → R = Ga.forR q z) := Lib.hid fun hne => by rw [← hR]; unfold Ga.ufR; rw [hC, if_pos hne]
  clear hR hC hgg
  by_cases hz1 : z < 1
  · have HC2 : Hid (C = 2) := Lib.hid (by rw [HC.out, if_neg (by omega)])
    go_enter Try.func25, Try.ntmps25
    go_wp2_with fail
    refine hvt.mono ?_
    rintro e w1 ⟨rfl, hb1⟩
    go_wp2_with fail
    go_ret2
    exact LC.nil_ (HNO.out (by rw [HC2.out]; decide)) HC2.out (HN.out.trans (hb1.mono (by omega)))
  by_cases hz2 : 1000000 < z
  · have HC2 : Hid (C = 2) := Lib.hid (by rw [HC.out, if_neg (by omega)])
    go_enter Try.func25, Try.ntmps25
    go_wp2_with fail
    refine hvt.mono ?_
    rintro e w1 ⟨rfl, hb1⟩
    go_wp2_with fail
    go_ret2
    exact LC.nil_ (HNO.out (by rw [HC2.out]; decide)) HC2.out (HN.out.trans (hb1.mono (by omega)))
  obtain ⟨b, hb⟩ : ∃ b, decide (Ga.tot (Ga.forR q z) ≤ r) = b := ⟨_, rfl⟩
  have HB := Lib.hid hb
  clear hb
  go_enter Try.func25, Try.ntmps25
  go_wp2_with fail
  refine hvt.mono ?_
  rintro e w1 ⟨rfl, hb1⟩
  have q1 := hbx.below hb1 hbx.lt
  have hz3 := hb1.size
  replace k0 := q1.cell 0 (v := .int .i64 r) rfl
  replace k1 := q1.cell 1 (v := .slice A n c) rfl
  have huf := implGuf_any r z A n c B q _ b w1 (hr1.below hb1 (by omega)) (by omega) hn6 HQ.out hr32 (by omega) rfl HB.out
  have HB1 := Lib.hid (HN.out.trans (hb1.mono (by omega)))
  have HZ1 : Hid (w.heap.size ≤ w1.heap.size) := Lib.hid (by omega)
  clear hb1
  go_wp2_with fail
  refine huf.mono ?_
  rintro e w2 ⟨A3, n3, c3, rfl, ho3, hn3, hb3⟩
  have HB3 := Lib.hid (HB1.out.trans (hb3.mono HZ1.out))
  cases b
  · have HC2 : Hid (C = 4) := Lib.hid (by rw [HC.out, if_pos (by omega), if_neg (of_decide_eq_false HB.out)])
    clear ho3 hb3
    go_wp2_with fail
    go_ret2
    exact LC.nil_ (HNO.out (by rw [HC2.out]; decide)) HC2.out HB3.out
  · have HC2 : Hid (C = 0) := Lib.hid (by rw [HC.out, if_pos (by omega), if_pos (of_decide_eq_true HB.out)])
    rw [if_pos (of_decide_eq_true HB.out)] at ho3
    have HO3 := Lib.hid (ho3.mono HZ1.out (Nat.le_refl _))
    clear ho3 hb3
    go_wp2_with fail
    go_ret2
    exact LC.mk_ (HRR.out HC2.out) HC2.out HO3.out (Nat.le_refl _) (Nat.le_refl _) hn3 HB3.out
end Go.Proofs.Ytilfmnffdloneaa
