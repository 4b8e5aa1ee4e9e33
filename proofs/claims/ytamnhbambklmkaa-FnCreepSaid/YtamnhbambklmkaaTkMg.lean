/- Contracts of MarginsFor, the program's and the model's: the same lengths and codes. -/
import Derived.Test.YtamnhbambklmkaaTkCt
namespace Go.Proofs.Ytamnhbambklmkaa
open Go.RowKit

set_option maxRecDepth 100000 in
set_option maxHeartbeats 1000000 in
theorem implMg_any (n t m : Int) (R : List Int) (C : Int) (w : World) (hR : Tk.mgR n t m = R) (hC : Tk.mgC n t m = C) :
    Calls Try.prog 35 #[.int .i64 n, .int .i64 t, .int .i64 m] w fun e w' => LC w R C e w' := by
  cases hs : Tk.mgIn n t m
  · obtain ⟨r0, c0⟩ := Tk.mg_no hs hR hC
    have R0 := Lib.hid r0
    have C0 := Lib.hid c0
    rcases Tk.mg_cases hs with hf | ⟨hf, hm⟩
    · have HT : Hid (Tk.ctR n t = [] ∧ Tk.ctC n t = 2) := Lib.hid (Tk.ct_no hf rfl rfl)
      clear hf hs r0 c0 hR hC
      go_enter Try.func35, Try.ntmps35
      go_wp2_with fail
      refine (implCt_any n t [] 2 _ HT.out.1 HT.out.2).mono ?_
      rintro e w1 ⟨A1, k1, c1, rfl, ho1, hk1, hb1⟩
      go_wp2_with fail
      go_ret2
      exact LC.nil_ R0.out C0.out hb1
    · have HT : Hid (Tk.ctC n t = 0) := Lib.hid (by unfold Tk.ctC; rw [hf]; rfl)
      obtain ⟨L, hL⟩ : ∃ L, Tk.ctR n t = L := ⟨_, rfl⟩
      have HL := Lib.hid hL
      have HM := Lib.hid hm
      clear hf hs r0 c0 hR hC hm hL
      go_enter Try.func35, Try.ntmps35
      go_wp2_with fail
      refine (implCt_any n t L 0 _ HL.out HT.out).mono ?_
      rintro e w1 ⟨A1, k1, c1, rfl, ho1, hk1, hb1⟩
      go_wp2_with fail
      refine (isLen_no m _ HM.out).mono ?_
      rintro e _ ⟨rfl, rfl⟩
      go_wp2_with fail
      go_ret2
      exact LC.nil_ R0.out C0.out hb1
  · obtain ⟨hf, m1, m2⟩ := Tk.mg_out hs
    obtain ⟨⟨n1, n2⟩, t1, t2⟩ := Tk.fits_out hf
    obtain ⟨N, rfl⟩ := Int.eq_ofNat_of_zero_le (show 0 ≤ n by omega)
    have HT : Hid (Tk.ctR (N : Int) t = Tk.cps t N ∧ Tk.ctC (N : Int) t = 0) := Lib.hid (Tk.ct_yes hf rfl rfl)
    have hN : N ≤ 64 := by omega
    have HBAD : Hid (∀ k, k < N → m < Tk.tn ((k : Int) * t) → R = [] ∧ C = 5) := Lib.hid (fun k hk hm => Tk.mg_bad hs hk hm hR hC)
    have HYES : Hid ((∀ j, j < N → Tk.tn ((j : Int) * t) ≤ m) → R = Tk.mgs t m N ∧ C = 0) := Lib.hid (fun h => Tk.mg_yes hs h hR hC)
    obtain ⟨i0, hi0, hz0, hz1, hz2⟩ := info_parts infoI
    have HB2 : i0.bytes * N ≤ 281474976710656 := by rw [hz2]; omega
    have HN2 : N ≤ maxLen := by unfold maxLen; omega
    clear hf hs hR hC
    go_enter Try.func35, Try.ntmps35
    go_wp2_with fail
    refine (implCt_any (N : Int) t (Tk.cps t N) 0 _ HT.out.1 HT.out.2).mono ?_
    rintro e w1 ⟨A1, k1, c1, rfl, ho1, hk1, hb1⟩
    obtain rfl : N = k1 := by have := ho1.rd.1; rw [Tk.cps_len] at this; exact this
    have z1 := hb1.size
    go_wp2_with fail
    refine (isLen_yes m _ m1 m2).mono ?_
    rintro e _ ⟨rfl, rfl⟩
    go_wp2_with (at_make; refine wpList_make_own _ rfl _ _ 29 rfl w1.heap.size 2 i0 _ 1 Try.underlying29 hi0 hz0 hz1 .i64 .i64 _ N rfl rfl rfl HB2 HN2 (Nat.le_refl _) ?_; intro w3 hown3 hg3)
    have hb3 : Below w1.heap.size w1 w3 := (Below.refl _ _).grown hg3 (Nat.le_refl _) (by simp)
    have hB3 := hb1.trans (hb3.mono z1)
    have z3 := hb3.size
    have ho3 : Own I w3 w1.heap.size w3.heap.size 2 (.slice (some ⟨w1.heap.size, 0, none⟩) 0 N) ([] : List Int) := Own.here hown3 rfl
    have hc3 := ho1.below hb3 (Nat.le_refl _)
    clear hown3 hg3 hb1 hb3 ho1
    have HB3 := Lib.hid hB3
    clear hB3
    go_loopw [10, 30] (fun v i wr => ∃ k : Nat, k ≤ N ∧ i = .int .i64 k ∧ (∃ A3 c3, v = .slice A3 k c3 ∧ Own I wr w1.heap.size wr.heap.size 2 (.slice A3 k c3) (Tk.mgs t m k)) ∧ Own I wr w.heap.size w1.heap.size 2 (.slice A1 N c1) (Tk.cps t N) ∧ Hid (∀ j, j < k → Tk.tn ((j : Int) * t) ≤ m) ∧ Below w.heap.size w wr ∧ w1.heap.size ≤ wr.heap.size) (fun _ i _ => N - (intOf i).toNat)
    case atStart => exact ⟨0, Nat.zero_le _, rfl, ⟨_, _, rfl, by simpa [Tk.mgs] using ho3⟩, hc3, Lib.hid (fun j hj => by omega), HB3.out, z3⟩
    case round =>
      clear ho3 hc3
      obtain ⟨k, hk, rfl, ⟨A3, c3, rfl, ho⟩, hc, HJ, hb, hz⟩ := hrel
      by_cases hlt : k < N
      · obtain ⟨g1, x, rfl, hg1, hg2, hg3, hx, hc2, hf2⟩ := hc.at_ hlt
        have hxe : x = Tk.tn ((k : Int) * t) := by
          rw [Tk.cps_at t N k hlt] at hx
          injection hx with hx
          exact hx.symm
        obtain ⟨y, hy, y0, y1⟩ := Tk.mul_bd (show 0 ≤ (k : Int) by omega) (show (k : Int) ≤ 64 by omega) t1 t2
        have hxb : 0 ≤ x ∧ x ≤ 1280 := by rw [hxe, hy]; exact Tk.tn_bd y0 y1
        by_cases hbad : m < x
        · have HE : Hid (R = [] ∧ C = 5) := Lib.hid (HBAD.out k hlt (by rw [← hxe]; exact hbad))
          clear hx hxe hy
          go_wp2
          go_ret2
          exact LC.nil_ HE.out.1 HE.out.2 hb
        · have hle : x ≤ m := by omega
          have e1 : IntKind.i64.wrap (m - x) = m - x := IntWalk.i64_in _ (by omega)
          have HS : Hid (Tk.mgs t m k ++ [m - x] = Tk.mgs t m (k + 1)) := Lib.hid (by rw [Tk.mgs_next, hxe])
          have HJ' : Hid (∀ j, j < k + 1 → Tk.tn ((j : Int) * t) ≤ m) := Lib.hid (fun j hj => by
            rcases Nat.lt_succ_iff_lt_or_eq.1 hj with h | h
            · exact HJ.out j h
            · subst h; rw [← hxe]; exact hle)
          clear hx hxe hy
          go_wp2_with (at_builtin; refine wp_push _ rfl _ _ 29 rfl 2 i0 _ 8 Try.underlying29 hi0 hz0 hz1 hz2 rfl A3 k c3 _ _ _ rfl ho (m - x) rfl rfl (by omega) (by omega) (by omega) ?_; intro A5 c5 w5 ho5 hm5)
          rw [HS.out] at ho5
          have z5 := hm5.size
          go_roundw
          case rel => exact ⟨k + 1, by omega, by go_num, ⟨_, _, rfl, ho5⟩, hc.only hm5 (.inl (Nat.le_refl _)), HJ', hb.trans (hm5.below z1 hb.size), by omega⟩
          case measure => simp [intOf]; omega
      · obtain rfl : k = N := by omega
        have HE := Lib.hid (HYES.out HJ.out)
        go_wp2
        go_ret2
        exact LC.mk_ HE.out.1 HE.out.2 ho z1 (Nat.le_refl _) (by omega) hb

set_option maxRecDepth 100000 in
set_option maxHeartbeats 1000000 in
theorem specMg_any (n t m : Int) (R : List Int) (C : Int) (w : World) (hR : Tk.mgR n t m = R) (hC : Tk.mgC n t m = C) :
    Calls Try.prog 36 #[.int .i64 n, .int .i64 t, .int .i64 m] w fun e w' => LC w R C e w' := by
  cases hs : Tk.mgIn n t m
  · obtain ⟨r0, c0⟩ := Tk.mg_no hs hR hC
    have R0 := Lib.hid r0
    have C0 := Lib.hid c0
    rcases Tk.mg_cases hs with hf | ⟨hf, hm⟩
    · have HF := Lib.hid hf
      clear hf hs r0 c0 hR hC
      go_enter Try.func36, Try.ntmps36
      go_wp2_with fail
      refine (l07Fits_any n t false _ HF.out).mono ?_
      rintro e _ ⟨rfl, rfl⟩
      go_wp2_with fail
      go_ret2
      exact LC.nil_ R0.out C0.out (Below.refl _ _)
    · have HF := Lib.hid hf
      have HM := Lib.hid hm
      clear hf hs r0 c0 hR hC hm
      go_enter Try.func36, Try.ntmps36
      go_wp2_with fail
      refine (l07Fits_any n t true _ HF.out).mono ?_
      rintro e _ ⟨rfl, rfl⟩
      go_wp2_with fail
      refine (l01In_no _ _ _ _ HM.out).mono ?_
      rintro e _ ⟨rfl, rfl⟩
      go_wp2_with fail
      go_ret2
      exact LC.nil_ R0.out C0.out (Below.refl _ _)
  · obtain ⟨hf, m1, m2⟩ := Tk.mg_out hs
    obtain ⟨⟨n1, n2⟩, t1, t2⟩ := Tk.fits_out hf
    obtain ⟨N, rfl⟩ := Int.eq_ofNat_of_zero_le (show 0 ≤ n by omega)
    have HF := Lib.hid hf
    have hN : N ≤ 64 := by omega
    have HBAD : Hid (∀ k, k < N → m < Tk.tn ((k : Int) * t) → R = [] ∧ C = 5) := Lib.hid (fun k hk hm => Tk.mg_bad hs hk hm hR hC)
    have HYES : Hid ((∀ j, j < N → Tk.tn ((j : Int) * t) ≤ m) → R = Tk.mgs t m N ∧ C = 0) := Lib.hid (fun h => Tk.mg_yes hs h hR hC)
    obtain ⟨i0, hi0, hz0, hz1, hz2⟩ := info_parts infoI
    clear hf hs hR hC
    go_enter Try.func36, Try.ntmps36
    go_wp2_with fail
    refine (l07Fits_any (N : Int) t true _ HF.out).mono ?_
    rintro e _ ⟨rfl, rfl⟩
    go_wp2_with fail
    refine (l01In_yes _ _ _ _ m1 m2).mono ?_
    rintro e _ ⟨rfl, rfl⟩
    go_wp2_with fail
    have hl0 := Own.lit0 I w 2
    have hb0 : Below w.heap.size w (w.alloc (.cells #[] 2)) := (Below.refl w.heap.size w).alloc (Nat.le_refl _) _
    go_loopw [8, 9] (fun v i wr => ∃ k : Nat, k ≤ N ∧ i = .int .i64 k ∧ (∃ A3 c3, v = .slice A3 k c3 ∧ Own I wr w.heap.size wr.heap.size 2 (.slice A3 k c3) (Tk.mgs t m k)) ∧ Hid (∀ j, j < k → Tk.tn ((j : Int) * t) ≤ m) ∧ Below w.heap.size w wr) (fun _ i _ => N - (intOf i).toNat)
    case atStart => exact ⟨0, Nat.zero_le _, rfl, ⟨_, _, rfl, hl0.mono (Nat.le_refl _) (by simp)⟩, Lib.hid (fun j hj => by omega), hb0⟩
    case round =>
      clear hl0 hb0
      obtain ⟨k, hk, rfl, ⟨A3, c3, rfl, ho⟩, HJ, hb⟩ := hrel
      by_cases hlt : k < N
      · obtain ⟨y, hy, y0, y1⟩ := Tk.mul_bd (show 0 ≤ (k : Int) by omega) (show (k : Int) ≤ 64 by omega) t1 t2
        have e0 : IntKind.i64.wrap ((k : Int) * t) = y := by rw [hy]; exact IntWalk.i64_in _ (by omega)
        obtain ⟨x, hxe⟩ : ∃ x, Tk.tn ((k : Int) * t) = x := ⟨_, rfl⟩
        have HV : Hid (Tk.tn y = x) := Lib.hid (by rw [← hy]; exact hxe)
        have hxb : 0 ≤ x ∧ x ≤ 1280 := by rw [← hxe, hy]; exact Tk.tn_bd y0 y1
        have e1 : IntKind.i64.wrap (m - x) = m - x := IntWalk.i64_in _ (by omega)
        have hkn : (k : Int) < (N : Int) := by omega
        have z := hb.size
        by_cases hbad : m - x < 0
        · have HE : Hid (R = [] ∧ C = 5) := Lib.hid (HBAD.out k hlt (by rw [hxe]; omega))
          clear hxe hy
          go_wp2_with (go_at_call 80; refine (l07Tenths_any y x _ y0 (by omega) HV.out).mono ?_; rintro e _ ⟨rfl, rfl⟩)
          go_ret2
          exact LC.nil_ HE.out.1 HE.out.2 hb
        · have HS : Hid (Tk.mgs t m k ++ [m - x] = Tk.mgs t m (k + 1)) := Lib.hid (by rw [Tk.mgs_next, hxe])
          have HJ' : Hid (∀ j, j < k + 1 → Tk.tn ((j : Int) * t) ≤ m) := Lib.hid (fun j hj => by
            rcases Nat.lt_succ_iff_lt_or_eq.1 hj with h | h
            · exact HJ.out j h
            · subst h; rw [hxe]; omega)
          clear hxe hy
          go_wp2_with (first
            | (go_at_call 80; refine (l07Tenths_any y x _ y0 (by omega) HV.out).mono ?_; rintro e _ ⟨rfl, rfl⟩)
            | (at_builtin; refine wp_push _ rfl _ _ 29 rfl 2 i0 _ 8 Try.underlying29 hi0 hz0 hz1 hz2 rfl A3 k c3 _ _ _ rfl ho (m - x) rfl rfl (by omega) (by omega) (by omega) ?_; intro A5 c5 w5 ho5 hm5))
          rw [HS.out] at ho5
          go_roundw
          case rel => exact ⟨k + 1, by omega, by go_num, ⟨_, _, rfl, ho5⟩, HJ', hb.trans (hm5.below (Nat.le_refl _) z)⟩
          case measure => simp [intOf]; omega
      · obtain rfl : k = N := by omega
        have HE := Lib.hid (HYES.out HJ.out)
        go_wp2
        go_ret2
        exact LC.mk_ HE.out.1 HE.out.2 ho (Nat.le_refl _) (Nat.le_refl _) (by omega) hb
end Go.Proofs.Ytamnhbambklmkaa
