/- The walk of the law FnCreep, out of the contracts. -/
import Derived.Test.YtamnhbambklmkaaTkDw
import Derived.Test.YtamnhbambklmkaaTkMg
import Derived.Test.YtamnhbambklmkaaSgLk
namespace Go.Proofs.Ytamnhbambklmkaa
open Go.RowKit

theorem Tk.tl_of {n t : Int} (h : Tk.fits n t = true) : Tk.tlR n t = (n - 1) * t ∧ Tk.tlC n t = 0 := ⟨if_pos h, if_pos h⟩
theorem Tk.tl_no {n t : Int} (h : Tk.fits n t = false) : Tk.tlR n t = 0 ∧ Tk.tlC n t = 2 := by
  unfold Tk.tlR Tk.tlC
  rw [h]
  exact ⟨rfl, rfl⟩
/-- What a code that is 0 says of the number of nested sheets: the two losses. -/
theorem Tk.mn_facts {b l r c : Int} (h : Tk.mnOk b l = true) (hr : Tk.mnR b l = r) (hc : Tk.mnC b l = c) : c = 0 ∧ (1 ≤ r ∧ r ≤ 64) ∧ ∃ x y d, (Tk.tlR r b = x ∧ Tk.tlC r b = 0) ∧ (Tk.tlR (r + 1) b = y ∧ Tk.tlC (r + 1) b = d) ∧ x ≤ l ∧ ((d = 0 ∧ l < y) ∨ d = 2) := by
  obtain ⟨h1, h2⟩ := Tk.mn_yes h hr hc
  obtain ⟨⟨b1, b2⟩, _, _⟩ := Tk.mn_out h
  obtain ⟨r1, r2, q1, q2⟩ := Tk.mn_best h h1
  have hf := Tk.tl_of (Tk.fits_mk r1 r2 b1 b2)
  refine ⟨h2, ⟨r1, r2⟩, _, _, _, hf, ⟨rfl, rfl⟩, q1, ?_⟩
  by_cases h64 : r < 64
  · have hg := Tk.tl_of (Tk.fits_mk (n := r + 1) (by omega) (by omega) b1 b2)
    left
    refine ⟨hg.2, ?_⟩
    rw [hg.1, show r + 1 - 1 = r from by omega]
    exact q2 h64
  · right
    refine (Tk.tl_no ?_).2
    unfold Tk.fits Tk.okN
    rw [decide_eq_false (by omega)]
    rfl

set_option maxRecDepth 100000 in
set_option maxHeartbeats 4000000 in
theorem w_FnCreep (A : Option Addr) (N C : Nat) (l : List Int) (w : World) (h : Rd U w w.heap.size A N l) (hl : inByte l) :
    Calls Try.prog 5 #[.slice A N C] w fun e w' => e = .returned (.bool true) ∧ Below w.heap.size w w' := by
  by_cases hN : N ≤ 4096
  · have HF : Hid (decide (4096 < N) = false) := decide_eq_false (by omega)
    go_enter Try.func5, Try.ntmps5
    go_wp2_with fail
    refine (sgBig_any A N C _).mono ?_
    rintro e _ ⟨rfl, rfl⟩
    rw [HF.out]
    go_wp2_with fail
    refine (DrawMg_any N C w.heap.size A l w h hl (Nat.le_refl _) (by omega)).mono ?_
    rintro e w1 ⟨n, t, m, rfl, hb1⟩
    have z1 := hb1.size
    have h1 := h.below hb1 (Nat.le_refl _)
    obtain ⟨R, hR⟩ : ∃ R, Tk.mgR n t m = R := ⟨_, rfl⟩
    have HR := Lib.hid hR
    clear hR
    obtain ⟨c, hc⟩ : ∃ c, Tk.mgC n t m = c := ⟨_, rfl⟩
    have Hc := Lib.hid hc
    clear hc
    obtain ⟨S, hS⟩ : ∃ S, Tk.ctR n t = S := ⟨_, rfl⟩
    have HS := Lib.hid hS
    clear hS
    obtain ⟨d, hd⟩ : ∃ d, Tk.ctC n t = d := ⟨_, rfl⟩
    have Hd := Lib.hid hd
    clear hd
    go_wp2_with fail
    refine (implMg_any n t m R c _ HR.out Hc.out).mono ?_
    rintro e w2 ⟨A2, n2, c2, rfl, ho2, hn2, hb2⟩
    have z2 := hb2.size
    have hB2 := hb1.trans (hb2.mono (by omega))
    go_wp2_with fail
    refine (specMg_any n t m R c _ HR.out Hc.out).mono ?_
    rintro e w3 ⟨A3, n3, c3, rfl, ho3, hn3, hb3⟩
    have z3 := hb3.size
    have hB3 := hB2.trans (hb3.mono (by omega))
    have rM_3 := ho2.below hb3 (by omega)
    go_wp2_with fail
    refine (implCt_any n t S d _ HS.out Hd.out).mono ?_
    rintro e w4 ⟨A4, n4, c4, rfl, ho4, hn4, hb4⟩
    have z4 := hb4.size
    have hB4 := hB3.trans (hb4.mono (by omega))
    have rM_4 := rM_3.below hb4 (by omega)
    have rMM_4 := ho3.below hb4 (by omega)
    go_wp2_with fail
    refine (specCt_any n t S d _ HS.out Hd.out).mono ?_
    rintro e w5 ⟨A5, n5, c5, rfl, ho5, hn5, hb5⟩
    have z5 := hb5.size
    have hB5 := hB4.trans (hb5.mono (by omega))
    have rM_5 := rM_4.below hb5 (by omega)
    have rMM_5 := rMM_4.below hb5 (by omega)
    have rC_5 := ho4.below hb5 (by omega)
    have HC5 := h.below hB5 (Nat.le_refl _)
    go_wp2_with fail
    refine (DrawCo_any N C w.heap.size A l w5 HC5 hl (by omega) (by omega)).mono ?_
    rintro e w6 ⟨a, k, u, rfl, hb6⟩
    have z6 := hb6.size
    have hB6 := hB5.trans (hb6.mono (by omega))
    have rM_6 := rM_5.below hb6 (by omega)
    have rMM_6 := rMM_5.below hb6 (by omega)
    have rC_6 := rC_5.below hb6 (by omega)
    have rCC_6 := ho5.below hb6 (by omega)
    obtain ⟨x, hx⟩ : ∃ x, Tk.coR a k u = x := ⟨_, rfl⟩
    have Hx := Lib.hid hx
    clear hx
    obtain ⟨f, hf⟩ : ∃ f, Tk.coC a k u = f := ⟨_, rfl⟩
    have Hf := Lib.hid hf
    clear hf
    go_wp2_with fail
    refine (implCo_any a k u x f _ Hx.out Hf.out).mono ?_
    rintro e _ ⟨rfl, rfl⟩
    go_wp2_with fail
    refine (specCo_any a k u x f _ Hx.out Hf.out).mono ?_
    rintro e _ ⟨rfl, rfl⟩
    obtain ⟨y, hy⟩ : ∃ y, Tk.tlR n t = y := ⟨_, rfl⟩
    have Hy := Lib.hid hy
    clear hy
    obtain ⟨g, hg⟩ : ∃ g, Tk.tlC n t = g := ⟨_, rfl⟩
    have Hg := Lib.hid hg
    clear hg
    go_wp2_with fail
    refine (implTl_any n t y g _ Hy.out Hg.out).mono ?_
    rintro e _ ⟨rfl, rfl⟩
    go_wp2_with fail
    refine (specTl_any n t y g _ Hy.out Hg.out).mono ?_
    rintro e _ ⟨rfl, rfl⟩
    have HC6 := h.below hB6 (Nat.le_refl _)
    go_wp2_with fail
    refine (DrawMn_any N C w.heap.size A l w6 HC6 hl (by omega) (by omega)).mono ?_
    rintro e w7 ⟨b, lim, rfl, hb7⟩
    have z7 := hb7.size
    have hB7 := hB6.trans (hb7.mono (by omega))
    have rM_7 := rM_6.below hb7 (by omega)
    have rMM_7 := rMM_6.below hb7 (by omega)
    have rC_7 := rC_6.below hb7 (by omega)
    have rCC_7 := rCC_6.below hb7 (by omega)
    obtain ⟨r, hr⟩ : ∃ r, Tk.mnR b lim = r := ⟨_, rfl⟩
    have Hr := Lib.hid hr
    clear hr
    obtain ⟨s, hs⟩ : ∃ s, Tk.mnC b lim = s := ⟨_, rfl⟩
    have Hs := Lib.hid hs
    clear hs
    go_wp2_with fail
    refine (implMn_any b lim r s _ Hr.out Hs.out).mono ?_
    rintro e _ ⟨rfl, rfl⟩
    go_wp2_with fail
    refine (specMn_any b lim r s _ Hr.out Hs.out).mono ?_
    rintro e _ ⟨rfl, rfl⟩
    go_wp2_with fail
    refine (sgLike_true A2 A3 n2 n3 c2 c3 _ _ R w7 rM_7.rd rMM_7.rd hn2).mono ?_
    rintro e w8 ⟨rfl, hq8⟩
    have hB8 := hB7.trans (hq8.below _)
    have z8 := hq8.le
    have rM_8 := rM_7.q hq8
    have rMM_8 := rMM_7.q hq8
    have rC_8 := rC_7.q hq8
    have rCC_8 := rCC_7.q hq8
    go_wp2_with fail
    refine (sgLike_true A4 A5 n4 n5 c4 c5 _ _ S w8 rC_8.rd rCC_8.rd hn4).mono ?_
    rintro e w9 ⟨rfl, hq9⟩
    have hB9 := hB8.trans (hq9.below _)
    have z9 := hq9.le
    have rM_9 := rM_8.q hq9
    have rMM_9 := rMM_8.q hq9
    have rC_9 := rC_8.q hq9
    have rCC_9 := rCC_8.q hq9
    have HB := Lib.hid hB9
    have HM := Lib.hid rM_9
    have HCC := Lib.hid rC_9
    have HC_ := Lib.hid h
    clear h h1 HC5 HC6 hb1 hb2 hb3 hb4 hb5 hb6 hb7 hB2 hB3 hB4 hB5 hB6 hB7 hB8 hB9 ho2 ho3 ho4 ho5 HC_ hq8 hq9 rCC_6 rCC_7 rCC_8 rCC_9 rC_5 rC_6 rC_7 rC_8 rC_9 rMM_4 rMM_5 rMM_6 rMM_7 rMM_8 rMM_9 rM_3 rM_4 rM_5 rM_6 rM_7 rM_8 rM_9
    cases hmn : Tk.mnOk b lim
    · have HSS : Hid (s = 2) := Lib.hid (Tk.mn_no hmn Hr.out Hs.out).2
      rw [HSS.out]
      clear hmn
      cases hf : Tk.fits n t
      · have HDD : Hid (d = 2) := Lib.hid (Tk.ct_no hf HS.out Hd.out).2
        rw [HDD.out]
        clear hf
        go_wp2_with fail
        go_loopw [35] (fun i wr => i = .int .i64 0 ∧ w9 = wr) (fun _ _ => 0)
        case atStart => exact ⟨rfl, by trivial⟩
        case round =>
          obtain ⟨rfl, rfl⟩ := hrel
          go_wp2_with fail
          go_ret
          exact ⟨rfl, HB.out⟩
      · obtain ⟨⟨u1, u2⟩, t1, t2⟩ := Tk.fits_out hf
        obtain ⟨NN, rfl⟩ := Int.eq_ofNat_of_zero_le (show 0 ≤ n by omega)
        have hcs := Tk.ct_yes hf HS.out Hd.out
        have HSC := Lib.hid hcs.1
        have HDD := Lib.hid hcs.2
        have HFT := Lib.hid hf
        have hNN : NN ≤ 64 := by omega
        have hn4 : n4 = NN := by have := HCC.out.rd.1; rw [HSC.out, Tk.cps_len] at this; exact this.symm
        subst hn4
        rw [HDD.out]
        by_cases hc0 : c = 0
        · have hmz := Tk.mg_zero (n := (n4 : Int)) (t := t) (m := m) (by rw [Hc.out]; exact hc0)
          have hmi : 0 ≤ m ∧ m ≤ 1000000000 := by
            cases hmm : Tk.mgIn (n4 : Int) t m
            · have := (Tk.mg_no hmm HR.out Hc.out).2
              omega
            · exact (Tk.mg_out hmm).2
          have HRM : Hid (R = Tk.mgs t m n4) := Lib.hid (by rw [← HR.out]; simpa using hmz.2)
          have hn2' : n2 = n4 := by have := HM.out.rd.1; rw [HRM.out, Tk.mgs_len] at this; exact this.symm
          subst hn2'
          subst hc0
          clear hmz hf hcs
          go_wp2_with fail
          go_loopw [35] (fun i wr => ∃ k : Nat, k ≤ n2 ∧ i = .int .i64 k ∧ Q w9 wr) (fun i _ => n2 - (intOf i).toNat)
          case atStart => exact ⟨0, Nat.zero_le _, rfl, Q.refl _⟩
          case round =>
            obtain ⟨i, hi, rfl, hq⟩ := hrel
            by_cases hlt : i < n2
            · obtain ⟨z, hz, z0, z1⟩ := Tk.mul_bd (show 0 ≤ (i : Int) by omega) (show (i : Int) ≤ 64 by omega) t1 t2
              have hok : Tk.coOk (n2 : Int) (i : Int) t = true := Tk.co_mk HFT.out (by omega) (by omega)
              have HZ : Hid (Tk.coR (n2 : Int) (i : Int) t = z ∧ Tk.coC (n2 : Int) (i : Int) t = 0) := Lib.hid ⟨by unfold Tk.coR; rw [if_pos hok]; exact hz, if_pos hok⟩
              obtain ⟨v, hv0⟩ : ∃ v, Tk.tn z = v := ⟨_, rfl⟩
              have hv : Tk.tn ((i : Int) * t) = v := by rw [hz]; exact hv0
              have hvb : 100 * v ≤ z + 50 ∧ z + 50 < 100 * v + 100 := by rw [← hv0]; unfold Tk.tn; omega
              have rC := HCC.out.q hq
              have rM := HM.out.q hq
              obtain ⟨gc, vc, rfl, _, _, _, hvc, cc, _⟩ := rC.at_ (k := i) (by omega)
              have hvc' : vc = v := by
                rw [HSC.out, Tk.cps_at t n2 i hlt] at hvc
                injection hvc with hvc
                rw [← hvc, hv]
              subst hvc'
              have f1 : IntKind.i64.wrap (100 * vc) = 100 * vc := IntWalk.i64_in _ (by omega)
              have f2 : IntKind.i64.wrap (100 * vc - z) = 100 * vc - z := IntWalk.i64_in _ (by omega)
              have f3 : IntKind.i64.wrap (z - 100 * vc) = z - 100 * vc := IntWalk.i64_in _ (by omega)
              have f4 : decide (50 < 100 * vc - z) = false := decide_eq_false (by omega)
              have f4' : decide (50 ≤ z - 100 * vc) = false := decide_eq_false (by omega)
              have hin : (i : Int) < (n2 : Int) := by omega
              clear hvc hok hz hv0
              obtain ⟨gm, vm, rfl, _, _, _, hvm, cm, _⟩ := rM.at_ (k := i) (by omega)
              have hvm' : vm = m - vc := by
                rw [HRM.out, Tk.mgs_at t m n2 i hlt] at hvm
                injection hvm with hvm
                rw [← hvm, hv]
              subst hvm'
              have f5 : IntKind.i64.wrap (m - vc + vc) = m := by rw [show m - vc + vc = m from by omega]; exact IntWalk.i64_in _ (by omega)
              clear hvm
              clear hv hvb rC rM
              go_wp2_with (go_at_call 40; refine (implCo_any (n2 : Int) (i : Int) t z 0 _ HZ.out.1 HZ.out.2).mono ?_; rintro e _ ⟨rfl, rfl⟩)
              go_quiet (fail)
              go_wp2_with fail
              go_roundw
              case rel => exact ⟨i + 1, by omega, by go_num, hq.more _⟩
              case measure => simp [intOf]; omega
            · obtain rfl : i = n2 := by omega
              go_wp2_with fail
              go_ret
              exact ⟨rfl, HB.out.trans (hq.below _)⟩
        · have hc0' : (c == 0) = false := by simpa using hc0
          clear hf hcs
          go_wp2_with fail
          go_loopw [35] (fun i wr => ∃ k : Nat, k ≤ n4 ∧ i = .int .i64 k ∧ Q w9 wr) (fun i _ => n4 - (intOf i).toNat)
          case atStart => exact ⟨0, Nat.zero_le _, rfl, Q.refl _⟩
          case round =>
            obtain ⟨i, hi, rfl, hq⟩ := hrel
            by_cases hlt : i < n4
            · obtain ⟨z, hz, z0, z1⟩ := Tk.mul_bd (show 0 ≤ (i : Int) by omega) (show (i : Int) ≤ 64 by omega) t1 t2
              have hok : Tk.coOk (n4 : Int) (i : Int) t = true := Tk.co_mk HFT.out (by omega) (by omega)
              have HZ : Hid (Tk.coR (n4 : Int) (i : Int) t = z ∧ Tk.coC (n4 : Int) (i : Int) t = 0) := Lib.hid ⟨by unfold Tk.coR; rw [if_pos hok]; exact hz, if_pos hok⟩
              obtain ⟨v, hv0⟩ : ∃ v, Tk.tn z = v := ⟨_, rfl⟩
              have hv : Tk.tn ((i : Int) * t) = v := by rw [hz]; exact hv0
              have hvb : 100 * v ≤ z + 50 ∧ z + 50 < 100 * v + 100 := by rw [← hv0]; unfold Tk.tn; omega
              have rC := HCC.out.q hq
              have rM := HM.out.q hq
              obtain ⟨gc, vc, rfl, _, _, _, hvc, cc, _⟩ := rC.at_ (k := i) (by omega)
              have hvc' : vc = v := by
                rw [HSC.out, Tk.cps_at t n4 i hlt] at hvc
                injection hvc with hvc
                rw [← hvc, hv]
              subst hvc'
              have f1 : IntKind.i64.wrap (100 * vc) = 100 * vc := IntWalk.i64_in _ (by omega)
              have f2 : IntKind.i64.wrap (100 * vc - z) = 100 * vc - z := IntWalk.i64_in _ (by omega)
              have f3 : IntKind.i64.wrap (z - 100 * vc) = z - 100 * vc := IntWalk.i64_in _ (by omega)
              have f4 : decide (50 < 100 * vc - z) = false := decide_eq_false (by omega)
              have f4' : decide (50 ≤ z - 100 * vc) = false := decide_eq_false (by omega)
              have hin : (i : Int) < (n4 : Int) := by omega
              clear hvc hok hz hv0

              clear hv hvb rC rM
              go_wp2_with (go_at_call 40; refine (implCo_any (n4 : Int) (i : Int) t z 0 _ HZ.out.1 HZ.out.2).mono ?_; rintro e _ ⟨rfl, rfl⟩)
              go_quiet (fail)
              go_wp2_with fail
              go_roundw
              case rel => exact ⟨i + 1, by omega, by go_num, hq.more _⟩
              case measure => simp [intOf]; omega
            · obtain rfl : i = n4 := by omega
              go_wp2_with fail
              go_ret
              exact ⟨rfl, HB.out.trans (hq.below _)⟩
    · obtain ⟨hs0, ⟨r1, r2⟩, x2, y2, d2, ht1, ht2, hxl, hd2⟩ := Tk.mn_facts hmn Hr.out Hs.out
      have HSS := Lib.hid hs0
      have HT1 := Lib.hid ht1
      have f0 : IntKind.i64.wrap (r + 1) = r + 1 := IntWalk.i64_in _ (by omega)
      have f9 : decide (lim < x2) = false := decide_eq_false (by omega)
      rw [HSS.out]
      clear hmn hs0 ht1
      rcases hd2 with ⟨rfl, hly⟩ | rfl
      · have HT2 := Lib.hid ht2
        have f8 : decide (y2 ≤ lim) = false := decide_eq_false (by omega)
        clear ht2
        go_wp2_with fail
        refine (implTl_any r b x2 0 _ HT1.out.1 HT1.out.2).mono ?_
        rintro e _ ⟨rfl, rfl⟩
        go_wp2_with fail
        refine (implTl_any (r + 1) b y2 0 _ HT2.out.1 HT2.out.2).mono ?_
        rintro e _ ⟨rfl, rfl⟩
        cases hf : Tk.fits n t
        · have HDD : Hid (d = 2) := Lib.hid (Tk.ct_no hf HS.out Hd.out).2
          rw [HDD.out]
          clear hf
          go_wp2_with fail
          go_loopw [35] (fun i wr => i = .int .i64 0 ∧ w9 = wr) (fun _ _ => 0)
          case atStart => exact ⟨rfl, by trivial⟩
          case round =>
            obtain ⟨rfl, rfl⟩ := hrel
            go_wp2_with fail
            go_ret
            exact ⟨rfl, HB.out⟩
        · obtain ⟨⟨u1, u2⟩, t1, t2⟩ := Tk.fits_out hf
          obtain ⟨NN, rfl⟩ := Int.eq_ofNat_of_zero_le (show 0 ≤ n by omega)
          have hcs := Tk.ct_yes hf HS.out Hd.out
          have HSC := Lib.hid hcs.1
          have HDD := Lib.hid hcs.2
          have HFT := Lib.hid hf
          have hNN : NN ≤ 64 := by omega
          have hn4 : n4 = NN := by have := HCC.out.rd.1; rw [HSC.out, Tk.cps_len] at this; exact this.symm
          subst hn4
          rw [HDD.out]
          by_cases hc0 : c = 0
          · have hmz := Tk.mg_zero (n := (n4 : Int)) (t := t) (m := m) (by rw [Hc.out]; exact hc0)
            have hmi : 0 ≤ m ∧ m ≤ 1000000000 := by
              cases hmm : Tk.mgIn (n4 : Int) t m
              · have := (Tk.mg_no hmm HR.out Hc.out).2
                omega
              · exact (Tk.mg_out hmm).2
            have HRM : Hid (R = Tk.mgs t m n4) := Lib.hid (by rw [← HR.out]; simpa using hmz.2)
            have hn2' : n2 = n4 := by have := HM.out.rd.1; rw [HRM.out, Tk.mgs_len] at this; exact this.symm
            subst hn2'
            subst hc0
            clear hmz hf hcs
            go_wp2_with fail
            go_loopw [35] (fun i wr => ∃ k : Nat, k ≤ n2 ∧ i = .int .i64 k ∧ Q w9 wr) (fun i _ => n2 - (intOf i).toNat)
            case atStart => exact ⟨0, Nat.zero_le _, rfl, Q.refl _⟩
            case round =>
              obtain ⟨i, hi, rfl, hq⟩ := hrel
              by_cases hlt : i < n2
              · obtain ⟨z, hz, z0, z1⟩ := Tk.mul_bd (show 0 ≤ (i : Int) by omega) (show (i : Int) ≤ 64 by omega) t1 t2
                have hok : Tk.coOk (n2 : Int) (i : Int) t = true := Tk.co_mk HFT.out (by omega) (by omega)
                have HZ : Hid (Tk.coR (n2 : Int) (i : Int) t = z ∧ Tk.coC (n2 : Int) (i : Int) t = 0) := Lib.hid ⟨by unfold Tk.coR; rw [if_pos hok]; exact hz, if_pos hok⟩
                obtain ⟨v, hv0⟩ : ∃ v, Tk.tn z = v := ⟨_, rfl⟩
                have hv : Tk.tn ((i : Int) * t) = v := by rw [hz]; exact hv0
                have hvb : 100 * v ≤ z + 50 ∧ z + 50 < 100 * v + 100 := by rw [← hv0]; unfold Tk.tn; omega
                have rC := HCC.out.q hq
                have rM := HM.out.q hq
                obtain ⟨gc, vc, rfl, _, _, _, hvc, cc, _⟩ := rC.at_ (k := i) (by omega)
                have hvc' : vc = v := by
                  rw [HSC.out, Tk.cps_at t n2 i hlt] at hvc
                  injection hvc with hvc
                  rw [← hvc, hv]
                subst hvc'
                have f1 : IntKind.i64.wrap (100 * vc) = 100 * vc := IntWalk.i64_in _ (by omega)
                have f2 : IntKind.i64.wrap (100 * vc - z) = 100 * vc - z := IntWalk.i64_in _ (by omega)
                have f3 : IntKind.i64.wrap (z - 100 * vc) = z - 100 * vc := IntWalk.i64_in _ (by omega)
                have f4 : decide (50 < 100 * vc - z) = false := decide_eq_false (by omega)
                have f4' : decide (50 ≤ z - 100 * vc) = false := decide_eq_false (by omega)
                have hin : (i : Int) < (n2 : Int) := by omega
                clear hvc hok hz hv0
                obtain ⟨gm, vm, rfl, _, _, _, hvm, cm, _⟩ := rM.at_ (k := i) (by omega)
                have hvm' : vm = m - vc := by
                  rw [HRM.out, Tk.mgs_at t m n2 i hlt] at hvm
                  injection hvm with hvm
                  rw [← hvm, hv]
                subst hvm'
                have f5 : IntKind.i64.wrap (m - vc + vc) = m := by rw [show m - vc + vc = m from by omega]; exact IntWalk.i64_in _ (by omega)
                clear hvm
                clear hv hvb rC rM
                go_wp2_with (go_at_call 40; refine (implCo_any (n2 : Int) (i : Int) t z 0 _ HZ.out.1 HZ.out.2).mono ?_; rintro e _ ⟨rfl, rfl⟩)
                go_quiet (fail)
                go_wp2_with fail
                go_roundw
                case rel => exact ⟨i + 1, by omega, by go_num, hq.more _⟩
                case measure => simp [intOf]; omega
              · obtain rfl : i = n2 := by omega
                go_wp2_with fail
                go_ret
                exact ⟨rfl, HB.out.trans (hq.below _)⟩
          · have hc0' : (c == 0) = false := by simpa using hc0
            clear hf hcs
            go_wp2_with fail
            go_loopw [35] (fun i wr => ∃ k : Nat, k ≤ n4 ∧ i = .int .i64 k ∧ Q w9 wr) (fun i _ => n4 - (intOf i).toNat)
            case atStart => exact ⟨0, Nat.zero_le _, rfl, Q.refl _⟩
            case round =>
              obtain ⟨i, hi, rfl, hq⟩ := hrel
              by_cases hlt : i < n4
              · obtain ⟨z, hz, z0, z1⟩ := Tk.mul_bd (show 0 ≤ (i : Int) by omega) (show (i : Int) ≤ 64 by omega) t1 t2
                have hok : Tk.coOk (n4 : Int) (i : Int) t = true := Tk.co_mk HFT.out (by omega) (by omega)
                have HZ : Hid (Tk.coR (n4 : Int) (i : Int) t = z ∧ Tk.coC (n4 : Int) (i : Int) t = 0) := Lib.hid ⟨by unfold Tk.coR; rw [if_pos hok]; exact hz, if_pos hok⟩
                obtain ⟨v, hv0⟩ : ∃ v, Tk.tn z = v := ⟨_, rfl⟩
                have hv : Tk.tn ((i : Int) * t) = v := by rw [hz]; exact hv0
                have hvb : 100 * v ≤ z + 50 ∧ z + 50 < 100 * v + 100 := by rw [← hv0]; unfold Tk.tn; omega
                have rC := HCC.out.q hq
                have rM := HM.out.q hq
                obtain ⟨gc, vc, rfl, _, _, _, hvc, cc, _⟩ := rC.at_ (k := i) (by omega)
                have hvc' : vc = v := by
                  rw [HSC.out, Tk.cps_at t n4 i hlt] at hvc
                  injection hvc with hvc
                  rw [← hvc, hv]
                subst hvc'
                have f1 : IntKind.i64.wrap (100 * vc) = 100 * vc := IntWalk.i64_in _ (by omega)
                have f2 : IntKind.i64.wrap (100 * vc - z) = 100 * vc - z := IntWalk.i64_in _ (by omega)
                have f3 : IntKind.i64.wrap (z - 100 * vc) = z - 100 * vc := IntWalk.i64_in _ (by omega)
                have f4 : decide (50 < 100 * vc - z) = false := decide_eq_false (by omega)
                have f4' : decide (50 ≤ z - 100 * vc) = false := decide_eq_false (by omega)
                have hin : (i : Int) < (n4 : Int) := by omega
                clear hvc hok hz hv0

                clear hv hvb rC rM
                go_wp2_with (go_at_call 40; refine (implCo_any (n4 : Int) (i : Int) t z 0 _ HZ.out.1 HZ.out.2).mono ?_; rintro e _ ⟨rfl, rfl⟩)
                go_quiet (fail)
                go_wp2_with fail
                go_roundw
                case rel => exact ⟨i + 1, by omega, by go_num, hq.more _⟩
                case measure => simp [intOf]; omega
              · obtain rfl : i = n4 := by omega
                go_wp2_with fail
                go_ret
                exact ⟨rfl, HB.out.trans (hq.below _)⟩
      · have HT2 := Lib.hid ht2
        clear ht2
        go_wp2_with fail
        refine (implTl_any r b x2 0 _ HT1.out.1 HT1.out.2).mono ?_
        rintro e _ ⟨rfl, rfl⟩
        go_wp2_with fail
        refine (implTl_any (r + 1) b y2 2 _ HT2.out.1 HT2.out.2).mono ?_
        rintro e _ ⟨rfl, rfl⟩
        cases hf : Tk.fits n t
        · have HDD : Hid (d = 2) := Lib.hid (Tk.ct_no hf HS.out Hd.out).2
          rw [HDD.out]
          clear hf
          go_wp2_with fail
          go_loopw [35] (fun i wr => i = .int .i64 0 ∧ w9 = wr) (fun _ _ => 0)
          case atStart => exact ⟨rfl, by trivial⟩
          case round =>
            obtain ⟨rfl, rfl⟩ := hrel
            go_wp2_with fail
            go_ret
            exact ⟨rfl, HB.out⟩
        · obtain ⟨⟨u1, u2⟩, t1, t2⟩ := Tk.fits_out hf
          obtain ⟨NN, rfl⟩ := Int.eq_ofNat_of_zero_le (show 0 ≤ n by omega)
          have hcs := Tk.ct_yes hf HS.out Hd.out
          have HSC := Lib.hid hcs.1
          have HDD := Lib.hid hcs.2
          have HFT := Lib.hid hf
          have hNN : NN ≤ 64 := by omega
          have hn4 : n4 = NN := by have := HCC.out.rd.1; rw [HSC.out, Tk.cps_len] at this; exact this.symm
          subst hn4
          rw [HDD.out]
          by_cases hc0 : c = 0
          · have hmz := Tk.mg_zero (n := (n4 : Int)) (t := t) (m := m) (by rw [Hc.out]; exact hc0)
            have hmi : 0 ≤ m ∧ m ≤ 1000000000 := by
              cases hmm : Tk.mgIn (n4 : Int) t m
              · have := (Tk.mg_no hmm HR.out Hc.out).2
                omega
              · exact (Tk.mg_out hmm).2
            have HRM : Hid (R = Tk.mgs t m n4) := Lib.hid (by rw [← HR.out]; simpa using hmz.2)
            have hn2' : n2 = n4 := by have := HM.out.rd.1; rw [HRM.out, Tk.mgs_len] at this; exact this.symm
            subst hn2'
            subst hc0
            clear hmz hf hcs
            go_wp2_with fail
            go_loopw [35] (fun i wr => ∃ k : Nat, k ≤ n2 ∧ i = .int .i64 k ∧ Q w9 wr) (fun i _ => n2 - (intOf i).toNat)
            case atStart => exact ⟨0, Nat.zero_le _, rfl, Q.refl _⟩
            case round =>
              obtain ⟨i, hi, rfl, hq⟩ := hrel
              by_cases hlt : i < n2
              · obtain ⟨z, hz, z0, z1⟩ := Tk.mul_bd (show 0 ≤ (i : Int) by omega) (show (i : Int) ≤ 64 by omega) t1 t2
                have hok : Tk.coOk (n2 : Int) (i : Int) t = true := Tk.co_mk HFT.out (by omega) (by omega)
                have HZ : Hid (Tk.coR (n2 : Int) (i : Int) t = z ∧ Tk.coC (n2 : Int) (i : Int) t = 0) := Lib.hid ⟨by unfold Tk.coR; rw [if_pos hok]; exact hz, if_pos hok⟩
                obtain ⟨v, hv0⟩ : ∃ v, Tk.tn z = v := ⟨_, rfl⟩
                have hv : Tk.tn ((i : Int) * t) = v := by rw [hz]; exact hv0
                have hvb : 100 * v ≤ z + 50 ∧ z + 50 < 100 * v + 100 := by rw [← hv0]; unfold Tk.tn; omega
                have rC := HCC.out.q hq
                have rM := HM.out.q hq
                obtain ⟨gc, vc, rfl, _, _, _, hvc, cc, _⟩ := rC.at_ (k := i) (by omega)
                have hvc' : vc = v := by
                  rw [HSC.out, Tk.cps_at t n2 i hlt] at hvc
                  injection hvc with hvc
                  rw [← hvc, hv]
                subst hvc'
                have f1 : IntKind.i64.wrap (100 * vc) = 100 * vc := IntWalk.i64_in _ (by omega)
                have f2 : IntKind.i64.wrap (100 * vc - z) = 100 * vc - z := IntWalk.i64_in _ (by omega)
                have f3 : IntKind.i64.wrap (z - 100 * vc) = z - 100 * vc := IntWalk.i64_in _ (by omega)
                have f4 : decide (50 < 100 * vc - z) = false := decide_eq_false (by omega)
                have f4' : decide (50 ≤ z - 100 * vc) = false := decide_eq_false (by omega)
                have hin : (i : Int) < (n2 : Int) := by omega
                clear hvc hok hz hv0
                obtain ⟨gm, vm, rfl, _, _, _, hvm, cm, _⟩ := rM.at_ (k := i) (by omega)
                have hvm' : vm = m - vc := by
                  rw [HRM.out, Tk.mgs_at t m n2 i hlt] at hvm
                  injection hvm with hvm
                  rw [← hvm, hv]
                subst hvm'
                have f5 : IntKind.i64.wrap (m - vc + vc) = m := by rw [show m - vc + vc = m from by omega]; exact IntWalk.i64_in _ (by omega)
                clear hvm
                clear hv hvb rC rM
                go_wp2_with (go_at_call 40; refine (implCo_any (n2 : Int) (i : Int) t z 0 _ HZ.out.1 HZ.out.2).mono ?_; rintro e _ ⟨rfl, rfl⟩)
                go_quiet (fail)
                go_wp2_with fail
                go_roundw
                case rel => exact ⟨i + 1, by omega, by go_num, hq.more _⟩
                case measure => simp [intOf]; omega
              · obtain rfl : i = n2 := by omega
                go_wp2_with fail
                go_ret
                exact ⟨rfl, HB.out.trans (hq.below _)⟩
          · have hc0' : (c == 0) = false := by simpa using hc0
            clear hf hcs
            go_wp2_with fail
            go_loopw [35] (fun i wr => ∃ k : Nat, k ≤ n4 ∧ i = .int .i64 k ∧ Q w9 wr) (fun i _ => n4 - (intOf i).toNat)
            case atStart => exact ⟨0, Nat.zero_le _, rfl, Q.refl _⟩
            case round =>
              obtain ⟨i, hi, rfl, hq⟩ := hrel
              by_cases hlt : i < n4
              · obtain ⟨z, hz, z0, z1⟩ := Tk.mul_bd (show 0 ≤ (i : Int) by omega) (show (i : Int) ≤ 64 by omega) t1 t2
                have hok : Tk.coOk (n4 : Int) (i : Int) t = true := Tk.co_mk HFT.out (by omega) (by omega)
                have HZ : Hid (Tk.coR (n4 : Int) (i : Int) t = z ∧ Tk.coC (n4 : Int) (i : Int) t = 0) := Lib.hid ⟨by unfold Tk.coR; rw [if_pos hok]; exact hz, if_pos hok⟩
                obtain ⟨v, hv0⟩ : ∃ v, Tk.tn z = v := ⟨_, rfl⟩
                have hv : Tk.tn ((i : Int) * t) = v := by rw [hz]; exact hv0
                have hvb : 100 * v ≤ z + 50 ∧ z + 50 < 100 * v + 100 := by rw [← hv0]; unfold Tk.tn; omega
                have rC := HCC.out.q hq
                have rM := HM.out.q hq
                obtain ⟨gc, vc, rfl, _, _, _, hvc, cc, _⟩ := rC.at_ (k := i) (by omega)
                have hvc' : vc = v := by
                  rw [HSC.out, Tk.cps_at t n4 i hlt] at hvc
                  injection hvc with hvc
                  rw [← hvc, hv]
                subst hvc'
                have f1 : IntKind.i64.wrap (100 * vc) = 100 * vc := IntWalk.i64_in _ (by omega)
                have f2 : IntKind.i64.wrap (100 * vc - z) = 100 * vc - z := IntWalk.i64_in _ (by omega)
                have f3 : IntKind.i64.wrap (z - 100 * vc) = z - 100 * vc := IntWalk.i64_in _ (by omega)
                have f4 : decide (50 < 100 * vc - z) = false := decide_eq_false (by omega)
                have f4' : decide (50 ≤ z - 100 * vc) = false := decide_eq_false (by omega)
                have hin : (i : Int) < (n4 : Int) := by omega
                clear hvc hok hz hv0

                clear hv hvb rC rM
                go_wp2_with (go_at_call 40; refine (implCo_any (n4 : Int) (i : Int) t z 0 _ HZ.out.1 HZ.out.2).mono ?_; rintro e _ ⟨rfl, rfl⟩)
                go_quiet (fail)
                go_wp2_with fail
                go_roundw
                case rel => exact ⟨i + 1, by omega, by go_num, hq.more _⟩
                case measure => simp [intOf]; omega
              · obtain rfl : i = n4 := by omega
                go_wp2_with fail
                go_ret
                exact ⟨rfl, HB.out.trans (hq.below _)⟩
  · have HF : Hid (decide (4096 < N) = true) := decide_eq_true (by omega)
    go_enter Try.func5, Try.ntmps5
    go_wp2_with fail
    refine (sgBig_any A N C _).mono ?_
    rintro e _ ⟨rfl, rfl⟩
    rw [HF.out]
    go_wp2_with fail
    go_ret
    exact ⟨rfl, Below.refl _ _⟩
end Go.Proofs.Ytamnhbambklmkaa
