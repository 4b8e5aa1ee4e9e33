/- Contracts of the tests of thicknesses and of the units of length of chapter 7, the program's and the model's; CreepOf and TrimLoss. -/
import Derived.Test.YtamnhbambklmkaaTkMath
import Derived.Test.YtamnhbambklmkaaSgIm
import Derived.Test.YtamnhbambklmkaaSgNs
import Derived.Test.YtamnhbambklmkaaLen
import Derived.Test.YtamnhbambklmkaaIn
namespace Go.Proofs.Ytamnhbambklmkaa
open Go.RowKit

theorem isThick_any (t : Int) (b : Bool) (w : World) (hb : Tk.okT t = b) :
    Calls Try.prog 85 #[.int .i64 t] w fun e w' => e = .returned (.bool b) ∧ w = w' := by
  have HB := Lib.hid hb
  clear hb
  by_cases h1 : 1 ≤ t
  · go_enter Try.func85, Try.ntmps85
    go_wp2
    go_ret
    exact ⟨ret_b (by rw [← HB.out]; simp [Tk.okT, h1]), rfl⟩
  · have h1' : t < 1 := by omega
    go_enter Try.func85, Try.ntmps85
    go_wp2
    go_ret
    exact ⟨ret_b (by rw [← HB.out]; simp [Tk.okT]; omega), rfl⟩

theorem canCreep_any (n t : Int) (b : Bool) (w : World) (hb : Tk.fits n t = b) :
    Calls Try.prog 81 #[.int .i64 n, .int .i64 t] w fun e w' => e = .returned (.bool b) ∧ w = w' := by
  cases hn : Tk.okN n
  · have HN : Hid (decide (1 ≤ n ∧ n ≤ 64) = false) := Lib.hid hn
    have HE : Hid (false = b) := Lib.hid (by rw [← hb]; unfold Tk.fits; rw [hn]; rfl)
    clear hn hb
    go_enter Try.func81, Try.ntmps81
    go_wp2_with fail
    refine (canNest_any n false _ HN.out).mono ?_
    rintro e _ ⟨rfl, rfl⟩
    go_wp2_with fail
    go_ret
    exact ⟨ret_b HE.out, rfl⟩
  · have HN : Hid (decide (1 ≤ n ∧ n ≤ 64) = true) := Lib.hid hn
    have HE : Hid (Tk.okT t = b) := Lib.hid (by rw [← hb]; unfold Tk.fits; rw [hn]; rfl)
    clear hn hb
    go_enter Try.func81, Try.ntmps81
    go_wp2_with fail
    refine (canNest_any n true _ HN.out).mono ?_
    rintro e _ ⟨rfl, rfl⟩
    go_wp2_with fail
    refine (isThick_any t b _ HE.out).mono ?_
    rintro e _ ⟨rfl, rfl⟩
    go_wp2_with fail
    go_ret
    exact ⟨rfl, rfl⟩

theorem l07Fits_any (n t : Int) (b : Bool) (w : World) (hb : Tk.fits n t = b) :
    Calls Try.prog 79 #[.int .i64 n, .int .i64 t] w fun e w' => e = .returned (.bool b) ∧ w = w' := by
  cases b
  · rcases Tk.fits_no hb with h | ⟨⟨h1, h2⟩, h⟩
    · have H := Lib.hid h
      clear h hb
      go_enter Try.func79, Try.ntmps79
      go_wp2_with fail
      refine (l01In_no _ _ _ _ H.out).mono ?_
      rintro e _ ⟨rfl, rfl⟩
      go_wp2_with fail
      go_ret
      exact ⟨rfl, rfl⟩
    · have H := Lib.hid h
      clear h hb
      go_enter Try.func79, Try.ntmps79
      go_wp2_with fail
      refine (l01In_yes _ _ _ _ h1 h2).mono ?_
      rintro e _ ⟨rfl, rfl⟩
      go_wp2_with fail
      refine (l01In_no _ _ _ _ H.out).mono ?_
      rintro e _ ⟨rfl, rfl⟩
      go_wp2_with fail
      go_ret
      exact ⟨rfl, rfl⟩
  · obtain ⟨⟨h1, h2⟩, h3, h4⟩ := Tk.fits_out hb
    clear hb
    go_enter Try.func79, Try.ntmps79
    go_wp2_with fail
    refine (l01In_yes _ _ _ _ h1 h2).mono ?_
    rintro e _ ⟨rfl, rfl⟩
    go_wp2_with fail
    refine (l01In_yes _ _ _ _ h3 h4).mono ?_
    rintro e _ ⟨rfl, rfl⟩
    go_wp2_with fail
    go_ret
    exact ⟨rfl, rfl⟩

/-- Rounding in the program: how many units a length has. -/
theorem rounded_any (x u k r : Int) (w : World) (h0 : 0 ≤ x) (h1 : x ≤ 1000000000) (hu : 1 ≤ u) (hu1 : u ≤ 1000) (hk : 0 ≤ k) (hk1 : k ≤ u) (hr : (x + u - k) / u = r) :
    Calls Try.prog 96 #[.int .i64 x, .int .i64 u, .int .i64 k] w fun e w' => e = .returned (.int .i64 r) ∧ w = w' := by
  subst hr
  have u0 : ¬ u = 0 := by omega
  have a1 := Int.ediv_nonneg (a := x + u - k) (b := u) (by omega) (by omega)
  have a2 := Int.ediv_le_self (a := x + u - k) u (by omega)
  have e1 : IntKind.i64.wrap (x + u) = x + u := IntWalk.i64_in _ (by omega)
  have e2 : IntKind.i64.wrap (x + u - k) = x + u - k := IntWalk.i64_in _ (by omega)
  have e3 : (x + u - k).tdiv u = (x + u - k) / u := Int.tdiv_eq_ediv_of_nonneg (by omega)
  have e4 : IntKind.i64.wrap ((x + u - k) / u) = (x + u - k) / u := IntWalk.i64_in _ (by omega)
  go_enter Try.func96, Try.ntmps96
  go_wp2_with fail
  go_ret
  exact ⟨rfl, rfl⟩
theorem nearest_any (x r : Int) (w : World) (h0 : 0 ≤ x) (h1 : x ≤ 1000000000) (hr : Tk.tn x = r) :
    Calls Try.prog 82 #[.int .i64 x] w fun e w' => e = .returned (.int .i64 r) ∧ w = w' := by
  have HR : Hid ((x + 100 - 50) / 100 = r) := Lib.hid (by rw [← hr]; unfold Tk.tn; omega)
  clear hr
  go_enter Try.func82, Try.ntmps82
  go_wp2_with fail
  refine (rounded_any x 100 50 r _ h0 h1 (by decide) (by decide) (by decide) (by decide) HR.out).mono ?_
  rintro e _ ⟨rfl, rfl⟩
  go_wp2_with fail
  go_ret
  exact ⟨rfl, rfl⟩
theorem upward_any (x r : Int) (w : World) (h0 : 0 ≤ x) (h1 : x ≤ 1000000000) (hr : Tk.up x = r) :
    Calls Try.prog 89 #[.int .i64 x] w fun e w' => e = .returned (.int .i64 r) ∧ w = w' := by
  have HR : Hid ((x + 100 - 1) / 100 = r) := Lib.hid hr
  clear hr
  go_enter Try.func89, Try.ntmps89
  go_wp2_with fail
  refine (rounded_any x 100 1 r _ h0 h1 (by decide) (by decide) (by decide) (by decide) HR.out).mono ?_
  rintro e _ ⟨rfl, rfl⟩
  go_wp2_with fail
  go_ret
  exact ⟨rfl, rfl⟩
theorem exact_any (x : Int) (w : World) (h0 : -10 ≤ x) (h1 : x ≤ 1000000000) :
    Calls Try.prog 97 #[.int .i64 x] w fun e w' => e = .returned (.int .i64 (x * 100)) ∧ w = w' := by
  have e1 : IntKind.i64.wrap (x * 100) = x * 100 := IntWalk.i64_in _ (by omega)
  go_enter Try.func97, Try.ntmps97
  go_wp2_with fail
  go_ret
  exact ⟨rfl, rfl⟩
theorem l07Tenths_any (x r : Int) (w : World) (h0 : 0 ≤ x) (h1 : x ≤ 1000000000) (hr : Tk.tn x = r) :
    Calls Try.prog 80 #[.int .i64 x] w fun e w' => e = .returned (.int .i64 r) ∧ w = w' := by
  have HR : Hid ((x + 50) / 100 = r) := Lib.hid hr
  clear hr
  have e1 : IntKind.i64.wrap (x + 50) = x + 50 := IntWalk.i64_in _ (by omega)
  have e3 : (x + 50).tdiv 100 = (x + 50) / 100 := Int.tdiv_eq_ediv_of_nonneg (by omega)
  have e4 : IntKind.i64.wrap ((x + 50) / 100) = (x + 50) / 100 := IntWalk.i64_in _ (by omega)
  go_enter Try.func80, Try.ntmps80
  go_wp2_with fail
  go_ret
  exact ⟨ret_i HR.out, rfl⟩

set_option maxHeartbeats 1000000 in
theorem implCo_any (n k t r c : Int) (w : World) (hr : Tk.coR n k t = r) (hc : Tk.coC n k t = c) :
    Calls Try.prog 40 #[.int .i64 n, .int .i64 k, .int .i64 t] w fun e w' => e = .returned (.tuple #[.int .i64 r, .int .i64 c]) ∧ w = w' := by
  cases hs : Tk.coOk n k t
  · obtain ⟨rfl, rfl⟩ := Tk.co_no hs hr hc
    rcases Tk.co_cases hs with hf | ⟨hf, hk⟩
    · have HF := Lib.hid hf
      clear hf hs hr hc
      go_enter Try.func40, Try.ntmps40
      go_wp2_with fail
      refine (canCreep_any n t false _ HF.out).mono ?_
      rintro e _ ⟨rfl, rfl⟩
      go_wp2_with fail
      go_ret2
      exact ⟨rfl, rfl⟩
    · have HF := Lib.hid hf
      by_cases k0 : k < 0
      · clear hf hs hr hc hk
        go_enter Try.func40, Try.ntmps40
        go_wp2_with fail
        refine (canCreep_any n t true _ HF.out).mono ?_
        rintro e _ ⟨rfl, rfl⟩
        go_wp2_with fail
        go_ret2
        exact ⟨rfl, rfl⟩
      · have k1 : 0 ≤ k := by omega
        have k2 : n ≤ k := by omega
        clear hf hs hr hc hk k0
        go_enter Try.func40, Try.ntmps40
        go_wp2_with fail
        refine (canCreep_any n t true _ HF.out).mono ?_
        rintro e _ ⟨rfl, rfl⟩
        go_wp2_with fail
        go_ret2
        exact ⟨rfl, rfl⟩
  · obtain ⟨hv, rfl⟩ := Tk.co_yes hs hr hc
    obtain ⟨⟨⟨n1, n2⟩, t1, t2⟩, k1, k2⟩ := Tk.co_out hs
    obtain ⟨x, hx, x0, x1⟩ := Tk.mul_bd k1 (show k ≤ 64 by omega) t1 t2
    obtain rfl : x = r := hx.symm.trans hv
    have HF : Hid (Tk.fits n t = true) := Lib.hid (Tk.fits_mk n1 n2 t1 t2)
    have e1 : IntKind.i64.wrap (k * t) = x := by rw [hx]; exact IntWalk.i64_in _ (by omega)
    clear hs hr hc hv hx
    go_enter Try.func40, Try.ntmps40
    go_wp2_with fail
    refine (canCreep_any n t true _ HF.out).mono ?_
    rintro e _ ⟨rfl, rfl⟩
    go_wp2_with fail
    go_ret2
    exact ⟨rfl, rfl⟩

set_option maxHeartbeats 1000000 in
theorem specCo_any (n k t r c : Int) (w : World) (hr : Tk.coR n k t = r) (hc : Tk.coC n k t = c) :
    Calls Try.prog 41 #[.int .i64 n, .int .i64 k, .int .i64 t] w fun e w' => e = .returned (.tuple #[.int .i64 r, .int .i64 c]) ∧ w = w' := by
  cases hs : Tk.coOk n k t
  · obtain ⟨rfl, rfl⟩ := Tk.co_no hs hr hc
    rcases Tk.co_cases hs with hf | ⟨hf, hk⟩
    · have HF := Lib.hid hf
      clear hf hs hr hc
      go_enter Try.func41, Try.ntmps41
      go_wp2_with fail
      refine (l07Fits_any n t false _ HF.out).mono ?_
      rintro e _ ⟨rfl, rfl⟩
      go_wp2_with fail
      go_ret2
      exact ⟨rfl, rfl⟩
    · have HF := Lib.hid hf
      obtain ⟨⟨n1, n2⟩, _⟩ := Tk.fits_out hf
      have HK : Hid (k < 0 ∨ n - 1 < k) := Lib.hid (by omega)
      have e1 : IntKind.i64.wrap (n - 1) = n - 1 := IntWalk.i64_in _ (by omega)
      clear hf hs hr hc hk
      go_enter Try.func41, Try.ntmps41
      go_wp2_with fail
      refine (l07Fits_any n t true _ HF.out).mono ?_
      rintro e _ ⟨rfl, rfl⟩
      go_wp2_with fail
      refine (l01In_no _ _ _ _ HK.out).mono ?_
      rintro e _ ⟨rfl, rfl⟩
      go_wp2_with fail
      go_ret2
      exact ⟨rfl, rfl⟩
  · obtain ⟨hv, rfl⟩ := Tk.co_yes hs hr hc
    obtain ⟨⟨⟨n1, n2⟩, t1, t2⟩, k1, k2⟩ := Tk.co_out hs
    obtain ⟨x, hx, x0, x1⟩ := Tk.mul_bd k1 (show k ≤ 64 by omega) t1 t2
    obtain rfl : x = r := hx.symm.trans hv
    have HF : Hid (Tk.fits n t = true) := Lib.hid (Tk.fits_mk n1 n2 t1 t2)
    have e0 : IntKind.i64.wrap (n - 1) = n - 1 := IntWalk.i64_in _ (by omega)
    have e1 : IntKind.i64.wrap (k * t) = x := by rw [hx]; exact IntWalk.i64_in _ (by omega)
    have hk' : k ≤ n - 1 := by omega
    clear hs hr hc hv hx
    go_enter Try.func41, Try.ntmps41
    go_wp2_with fail
    refine (l07Fits_any n t true _ HF.out).mono ?_
    rintro e _ ⟨rfl, rfl⟩
    go_wp2_with fail
    refine (l01In_yes _ _ _ _ k1 hk').mono ?_
    rintro e _ ⟨rfl, rfl⟩
    go_wp2_with fail
    go_ret2
    exact ⟨rfl, rfl⟩

set_option maxHeartbeats 1000000 in
theorem implTl_any (n t r c : Int) (w : World) (hr : Tk.tlR n t = r) (hc : Tk.tlC n t = c) :
    Calls Try.prog 42 #[.int .i64 n, .int .i64 t] w fun e w' => e = .returned (.tuple #[.int .i64 r, .int .i64 c]) ∧ w = w' := by
  obtain ⟨m, hm⟩ : ∃ m, IntKind.i64.wrap (n - 1) = m := ⟨_, rfl⟩
  have hh := Tk.tl_co n m t (by
    cases hf : Tk.fits n t
    · exact .inl rfl
    · right
      obtain ⟨⟨n1, n2⟩, _⟩ := Tk.fits_out hf
      rw [← hm]
      exact IntWalk.i64_in _ (by omega))
  have HR : Hid (Tk.coR n m t = r) := Lib.hid (by rw [hh.1]; exact hr)
  have HC : Hid (Tk.coC n m t = c) := Lib.hid (by rw [hh.2]; exact hc)
  clear hh hr hc
  go_enter Try.func42, Try.ntmps42
  go_wp2_with fail
  refine (implCo_any n m t r c _ HR.out HC.out).mono ?_
  rintro e _ ⟨rfl, rfl⟩
  go_wp2_with fail
  go_ret2
  exact ⟨rfl, rfl⟩

set_option maxHeartbeats 1000000 in
theorem specTl_any (n t r c : Int) (w : World) (hr : Tk.tlR n t = r) (hc : Tk.tlC n t = c) :
    Calls Try.prog 43 #[.int .i64 n, .int .i64 t] w fun e w' => e = .returned (.tuple #[.int .i64 r, .int .i64 c]) ∧ w = w' := by
  cases hf : Tk.fits n t
  · have HF := Lib.hid hf
    have R0 : Hid (r = 0) := Lib.hid (by rw [← hr]; unfold Tk.tlR; rw [hf]; rfl)
    have C0 : Hid (c = 2) := Lib.hid (by rw [← hc]; unfold Tk.tlC; rw [hf]; rfl)
    clear hf hr hc
    rw [R0.out, C0.out]
    go_enter Try.func43, Try.ntmps43
    go_wp2_with fail
    refine (l07Fits_any n t false _ HF.out).mono ?_
    rintro e _ ⟨rfl, rfl⟩
    go_wp2_with fail
    go_ret2
    exact ⟨rfl, rfl⟩
  · obtain ⟨⟨n1, n2⟩, t1, t2⟩ := Tk.fits_out hf
    obtain ⟨x, hx, x0, x1⟩ := Tk.mul_bd (show 0 ≤ n - 1 by omega) (show n - 1 ≤ 64 by omega) t1 t2
    have HF := Lib.hid hf
    have C0 : Hid (c = 0) := Lib.hid (by rw [← hc]; unfold Tk.tlC; rw [hf]; rfl)
    obtain rfl : x = r := by rw [← hx, ← hr]; unfold Tk.tlR; rw [hf]; rfl
    have e0 : IntKind.i64.wrap (n - 1) = n - 1 := IntWalk.i64_in _ (by omega)
    have e1 : IntKind.i64.wrap ((n - 1) * t) = x := by rw [hx]; exact IntWalk.i64_in _ (by omega)
    clear hf hr hc hx
    rw [C0.out]
    go_enter Try.func43, Try.ntmps43
    go_wp2_with fail
    refine (l07Fits_any n t true _ HF.out).mono ?_
    rintro e _ ⟨rfl, rfl⟩
    go_wp2_with fail
    go_ret2
    exact ⟨rfl, rfl⟩
end Go.Proofs.Ytamnhbambklmkaa
