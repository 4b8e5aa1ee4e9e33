/- Contracts of CreepTenths and MarginsFor, the program's and the model's: the same lengths and codes. -/
import Derived.Test.YtamnhbambklmkaaTkIm
import Derived.Test.YtamnhbambklmkaaPush
namespace Go.Proofs.Ytamnhbambklmkaa
open Go.RowKit

set_option maxRecDepth 100000 in
set_option maxHeartbeats 1000000 in
theorem implCt_any (n t : Int) (R : List Int) (C : Int) (w : World) (hR : Tk.ctR n t = R) (hC : Tk.ctC n t = C) :
    Calls Try.prog 37 #[.int .i64 n, .int .i64 t] w fun e w' => LC w R C e w' := by
  cases hf : Tk.fits n t
  · obtain ⟨r0, c0⟩ := Tk.ct_no hf hR hC
    have R0 := Lib.hid r0
    have C0 := Lib.hid c0
    have HF := Lib.hid hf
    clear hf r0 c0 hR hC
    go_enter Try.func37, Try.ntmps37
    go_wp2_with fail
    refine (canCreep_any n t false _ HF.out).mono ?_
    rintro e _ ⟨rfl, rfl⟩
    go_wp2_with fail
    go_ret2
    exact LC.nil_ R0.out C0.out (Below.refl _ _)
  · obtain ⟨⟨n1, n2⟩, t1, t2⟩ := Tk.fits_out hf
    obtain ⟨N, rfl⟩ := Int.eq_ofNat_of_zero_le (show 0 ≤ n by omega)
    obtain ⟨r0, c0⟩ := Tk.ct_yes hf hR hC
    have R0 := Lib.hid r0
    have C0 := Lib.hid c0
    have HF := Lib.hid hf
    have hN : N ≤ 64 := by omega
    obtain ⟨i0, hi0, hz0, hz1, hz2⟩ := info_parts infoI
    clear hf r0 c0 hR hC
    go_enter Try.func37, Try.ntmps37
    go_wp2_with fail
    refine (canCreep_any (N : Int) t true _ HF.out).mono ?_
    rintro e _ ⟨rfl, rfl⟩
    go_wp2_with (at_make; refine wp_fresh (enc := I) _ rfl _ _ 29 rfl 2 i0 0 8 Try.underlying29 hi0 hz0 hz1 hz2 rfl .i64 .i64 _ _ N rfl rfl rfl rfl (by omega) (by omega) ?_; intro g w1 ho1 hb1)
    go_loopw [16] (fun i wr => ∃ k : Nat, k ≤ N ∧ i = .int .i64 k ∧ Own I wr w.heap.size wr.heap.size 2 (.slice (some ⟨g, 0, none⟩) N N) (Tk.cps t k ++ List.replicate (N - k) 0) ∧ Below w.heap.size w wr) (fun i _ => N - (intOf i).toNat)
    case atStart => exact ⟨0, Nat.zero_le _, rfl, by simpa [Tk.cps] using ho1, hb1⟩
    case round =>
      clear ho1 hb1
      obtain ⟨k, hk, rfl, ho, hb⟩ := hrel
      by_cases hlt : k < N
      · obtain ⟨x, hx, x0, x1⟩ := Tk.mul_bd (show 0 ≤ (k : Int) by omega) (show (k : Int) ≤ 64 by omega) t1 t2
        have e1 : IntKind.i64.wrap ((k : Int) * t) = x := by rw [hx]; exact IntWalk.i64_in _ (by omega)
        obtain ⟨v, hv⟩ : ∃ v, Tk.tn x = v := ⟨_, rfl⟩
        have HV := Lib.hid hv
        obtain ⟨g', y, eg, hg1, hg2, hg3, hy, hc2, hf2⟩ := ho.at_ hlt
        injection eg with eg
        injection eg with eg _ _
        subst eg
        have hset := ho.set_ (k := k) v
        have HS : Hid ((Tk.cps t k ++ List.replicate (N - k) 0).set k v = Tk.cps t (k + 1) ++ List.replicate (N - (k + 1)) 0) := Lib.hid (by rw [← hv, ← hx]; exact Tk.ct_step hlt)
        have HSET := Lib.hid hset
        have hkn : (k : Int) < (N : Int) := by omega
        clear hy hg1 hg2 hset hx hv
        go_wp2_with (go_at_call 82; refine (nearest_any x v _ x0 (by omega) HV.out).mono ?_; rintro e _ ⟨rfl, rfl⟩)
        go_roundw
        case rel =>
          refine ⟨k + 1, by omega, by go_num, ?_, hb.trans (HSET.out.2.below (Nat.le_refl _) hb.size)⟩
          have := HSET.out.1
          rw [HS.out] at this
          simpa using this
        case measure => simp [intOf]; omega
      · obtain rfl : k = N := by omega
        go_wp2
        go_ret2
        exact LC.mk_ R0.out C0.out (by simpa using ho) (Nat.le_refl _) (Nat.le_refl _) (by omega) hb

set_option maxRecDepth 100000 in
set_option maxHeartbeats 1000000 in
theorem specCt_any (n t : Int) (R : List Int) (C : Int) (w : World) (hR : Tk.ctR n t = R) (hC : Tk.ctC n t = C) :
    Calls Try.prog 38 #[.int .i64 n, .int .i64 t] w fun e w' => LC w R C e w' := by
  cases hf : Tk.fits n t
  · obtain ⟨r0, c0⟩ := Tk.ct_no hf hR hC
    have R0 := Lib.hid r0
    have C0 := Lib.hid c0
    have HF := Lib.hid hf
    clear hf r0 c0 hR hC
    go_enter Try.func38, Try.ntmps38
    go_wp2_with fail
    refine (l07Fits_any n t false _ HF.out).mono ?_
    rintro e _ ⟨rfl, rfl⟩
    go_wp2_with fail
    go_ret2
    exact LC.nil_ R0.out C0.out (Below.refl _ _)
  · obtain ⟨⟨n1, n2⟩, t1, t2⟩ := Tk.fits_out hf
    obtain ⟨N, rfl⟩ := Int.eq_ofNat_of_zero_le (show 0 ≤ n by omega)
    obtain ⟨r0, c0⟩ := Tk.ct_yes hf hR hC
    have R0 := Lib.hid r0
    have C0 := Lib.hid c0
    have HF := Lib.hid hf
    have hN : N ≤ 64 := by omega
    obtain ⟨i0, hi0, hz0, hz1, hz2⟩ := info_parts infoI
    clear hf r0 c0 hR hC
    go_enter Try.func38, Try.ntmps38
    go_wp2_with fail
    refine (l07Fits_any (N : Int) t true _ HF.out).mono ?_
    rintro e _ ⟨rfl, rfl⟩
    go_wp2_with fail
    have hl0 := Own.lit0 I w 2
    have hb0 : Below w.heap.size w (w.alloc (.cells #[] 2)) := (Below.refl w.heap.size w).alloc (Nat.le_refl _) _
    go_loopw [6, 7] (fun v i wr => ∃ k : Nat, k ≤ N ∧ i = .int .i64 k ∧ (∃ A3 c3, v = .slice A3 k c3 ∧ Own I wr w.heap.size wr.heap.size 2 (.slice A3 k c3) (Tk.cps t k)) ∧ Below w.heap.size w wr) (fun _ i _ => N - (intOf i).toNat)
    case atStart => exact ⟨0, Nat.zero_le _, rfl, ⟨_, _, rfl, hl0.mono (Nat.le_refl _) (by simp)⟩, hb0⟩
    case round =>
      clear hl0 hb0
      obtain ⟨k, hk, rfl, ⟨A3, c3, rfl, ho⟩, hb⟩ := hrel
      by_cases hlt : k < N
      · obtain ⟨x, hx, x0, x1⟩ := Tk.mul_bd (show 0 ≤ (k : Int) by omega) (show (k : Int) ≤ 64 by omega) t1 t2
        have e1 : IntKind.i64.wrap ((k : Int) * t) = x := by rw [hx]; exact IntWalk.i64_in _ (by omega)
        obtain ⟨v, hv⟩ : ∃ v, Tk.tn x = v := ⟨_, rfl⟩
        have HV := Lib.hid hv
        have HS : Hid (Tk.cps t k ++ [v] = Tk.cps t (k + 1)) := Lib.hid (by rw [← hv, ← hx, Tk.cps_next])
        have hkn : (k : Int) < (N : Int) := by omega
        have z := hb.size
        clear hx hv
        go_wp2_with (first
          | (go_at_call 80; refine (l07Tenths_any x v _ x0 (by omega) HV.out).mono ?_; rintro e _ ⟨rfl, rfl⟩)
          | (at_builtin; refine wp_push _ rfl _ _ 29 rfl 2 i0 _ 8 Try.underlying29 hi0 hz0 hz1 hz2 rfl A3 k c3 _ _ _ rfl ho v rfl rfl (by omega) (by omega) (by omega) ?_; intro A5 c5 w5 ho5 hm5))
        rw [HS.out] at ho5
        go_roundw
        case rel => exact ⟨k + 1, by omega, by go_num, ⟨_, _, rfl, ho5⟩, hb.trans (hm5.below (Nat.le_refl _) z)⟩
        case measure => simp [intOf]; omega
      · obtain rfl : k = N := by omega
        go_wp2
        go_ret2
        exact LC.mk_ R0.out C0.out ho (Nat.le_refl _) (Nat.le_refl _) (by omega) hb
end Go.Proofs.Ytamnhbambklmkaa
