/- Contracts of SignatureCount and SignatureOf, the program's and the model's: the same numbers and codes. -/
import Derived.Test.YtamnhbambklmkaaSgIm
namespace Go.Proofs.Ytamnhbambklmkaa
open Go.RowKit

theorem Sg.fits_pad {p u : Int} (h : Sg.fits p u = true) : padR p u = Sg.ceil p u * u ∧ padC p u = 0 := by
  obtain ⟨⟨h1, h2⟩, hu⟩ := Sg.fits_out h
  have hb := Sg.un_bd hu
  have ho : padOk p u := ⟨⟨by omega, by omega⟩, by omega, by omega⟩
  exact ⟨if_pos ho, if_pos ho⟩

set_option maxHeartbeats 1000000 in
theorem implSc_any (p u r c : Int) (w : World) (hr : Sg.scR p u = r) (hc : Sg.scC p u = c) (hp : -9223372036854775808 ≤ p ∧ p ≤ 9223372036854775807) (hu : -9223372036854775808 ≤ u ∧ u ≤ 9223372036854775807) :
    Calls Try.prog 23 #[.int .i64 p, .int .i64 u] w fun e w' => e = .returned (.tuple #[.int .i64 r, .int .i64 c]) ∧ Below w.heap.size w w' := by
  have HR := Lib.hid hr
  have HC := Lib.hid hc
  clear hr hc
  cases hf : Sg.fits p u
  · have HF := Lib.hid hf
    have R0 : Hid (r = 0) := Lib.hid (by rw [← HR.out]; unfold Sg.scR; rw [hf]; rfl)
    have C0 : Hid (c = 2) := Lib.hid (by rw [← HC.out]; unfold Sg.scC; rw [hf]; rfl)
    clear hf HR HC
    rw [R0.out, C0.out]
    go_enter Try.func23, Try.ntmps23
    go_wp2_with fail
    refine (can_lit p u false _ HF.out).mono ?_
    rintro e w1 ⟨rfl, hb1⟩
    go_wp2_with fail
    go_ret2
    exact ⟨rfl, hb1⟩
  · have HF := Lib.hid hf
    have hp2 := Sg.fits_pad hf
    have hcb := Sg.ceil_bd hf
    have hub := Sg.un_bd (Sg.fits_out hf).2
    have hpb := (Sg.fits_out hf).1
    have R0 : Hid (Sg.ceil p u = r) := Lib.hid (by rw [← HR.out]; unfold Sg.scR; rw [if_pos hf])
    have C0 : Hid (c = 0) := Lib.hid (by rw [← HC.out]; unfold Sg.scC; rw [if_pos hf])
    clear hf HR HC
    obtain ⟨q, hq⟩ : ∃ q, Sg.ceil p u = q := ⟨_, rfl⟩
    rw [hq] at hcb hp2 R0
    obtain ⟨m, hm⟩ : ∃ m, q * u = m := ⟨_, rfl⟩
    rw [hm] at hcb hp2
    have u0 : ¬ u = 0 := by omega
    have hd : Hid (m.tdiv u = q) := Lib.hid (by rw [← hm]; exact Int.mul_tdiv_cancel q u0)
    have hd2 : Hid (m / u = q) := Lib.hid (by rw [← hm]; exact Int.mul_ediv_cancel q u0)
    have HP := Lib.hid hp2
    clear hp2 hq hm
    have hd' := hd.out
    have hd2' := hd2.out
    have eq : IntKind.i64.wrap q = q := IntWalk.i64_in _ (by omega)
    rw [C0.out]
    go_enter Try.func23, Try.ntmps23
    go_wp2_with fail
    refine (can_lit p u true _ HF.out).mono ?_
    rintro e w1 ⟨rfl, hb1⟩
    go_wp2_with fail
    refine (implPad_any p u _ hp hu).mono ?_
    rintro e _ ⟨rfl, rfl⟩
    rw [HP.out.1, HP.out.2]
    go_wp2_with fail
    go_ret2
    rw [R0.out]
    exact ⟨rfl, hb1⟩

set_option maxHeartbeats 1000000 in
theorem specSc_any (p u r c : Int) (w : World) (hr : Sg.scR p u = r) (hc : Sg.scC p u = c) :
    Calls Try.prog 24 #[.int .i64 p, .int .i64 u] w fun e w' => e = .returned (.tuple #[.int .i64 r, .int .i64 c]) ∧ Below w.heap.size w w' := by
  have HR := Lib.hid hr
  have HC := Lib.hid hc
  clear hr hc
  cases hf : Sg.fits p u
  · have HF := Lib.hid hf
    have R0 : Hid (r = 0) := Lib.hid (by rw [← HR.out]; unfold Sg.scR; rw [hf]; rfl)
    have C0 : Hid (c = 2) := Lib.hid (by rw [← HC.out]; unfold Sg.scC; rw [hf]; rfl)
    clear hf HR HC
    rw [R0.out, C0.out]
    go_enter Try.func24, Try.ntmps24
    go_wp2_with fail
    refine (l06Fits_any p u false _ HF.out).mono ?_
    rintro e w1 ⟨rfl, hb1⟩
    go_wp2_with fail
    go_ret2
    exact ⟨rfl, hb1⟩
  · have HF := Lib.hid hf
    have hub := Sg.un_bd (Sg.fits_out hf).2
    have hpb := (Sg.fits_out hf).1
    have R0 : Hid (Sg.ceil p u = r) := Lib.hid (by rw [← HR.out]; unfold Sg.scR; rw [if_pos hf])
    have C0 : Hid (c = 0) := Lib.hid (by rw [← HC.out]; unfold Sg.scC; rw [if_pos hf])
    clear hf HR HC
    rw [C0.out]
    go_enter Try.func24, Try.ntmps24
    go_wp2_with fail
    refine (l06Fits_any p u true _ HF.out).mono ?_
    rintro e w1 ⟨rfl, hb1⟩
    go_wp2_with fail
    refine (l01Ceil_any p u r _ (by omega) (by omega) (by omega) (by omega) R0.out).mono ?_
    rintro e _ ⟨rfl, rfl⟩
    go_wp2_with fail
    go_ret2
    exact ⟨rfl, hb1⟩

theorem Sg.so_cases {p u x : Int} (h : Sg.soOk p u x = false) : Sg.fits p u = false ∨ (Sg.fits p u = true ∧ x < 1) ∨ (Sg.fits p u = true ∧ 1 ≤ x ∧ p < x) := by
  cases hf : Sg.fits p u
  · exact .inl rfl
  · right
    by_cases h1 : x < 1
    · exact .inl ⟨rfl, h1⟩
    · refine .inr ⟨rfl, by omega, ?_⟩
      rcases Int.lt_or_le p x with h2 | h2
      · exact h2
      · rw [Sg.so_mk hf (by omega) h2] at h
        cases h
theorem Sg.so_no {p u x r k c : Int} (h : Sg.soOk p u x = false) (hr : Sg.soR p u x = r) (hk : Sg.soK p u x = k) (hc : Sg.soC p u x = c) : r = 0 ∧ k = 0 ∧ c = 2 := by
  unfold Sg.soR at hr
  unfold Sg.soK at hk
  unfold Sg.soC at hc
  rw [h] at hr hk hc
  exact ⟨hr.symm, hk.symm, hc.symm⟩

set_option maxHeartbeats 1000000 in
theorem implSig_any (p u x r k c : Int) (w : World) (hr : Sg.soR p u x = r) (hk : Sg.soK p u x = k) (hc : Sg.soC p u x = c) :
    Calls Try.prog 21 #[.int .i64 p, .int .i64 u, .int .i64 x] w fun e w' => e = .returned (.tuple #[.int .i64 r, .int .i64 k, .int .i64 c]) ∧ Below w.heap.size w w' := by
  cases hs : Sg.soOk p u x
  · obtain ⟨rfl, rfl, rfl⟩ := Sg.so_no hs hr hk hc
    rcases Sg.so_cases hs with hf | ⟨hf, h1⟩ | ⟨hf, h1, h2⟩
    · have HF := Lib.hid hf
      clear hf hs hr hk hc
      go_enter Try.func21, Try.ntmps21
      go_wp2_with fail
      refine (can_lit p u false _ HF.out).mono ?_
      rintro e w1 ⟨rfl, hb1⟩
      go_wp2_with fail
      exact bodyPost_ret (v := .tuple #[.int .i64 0, .int .i64 0, .int .i64 2]) (by simp [results, Try.results21, go_sem]) rfl ⟨rfl, hb1⟩
    · have HF := Lib.hid hf
      clear hf hs hr hk hc
      go_enter Try.func21, Try.ntmps21
      go_wp2_with fail
      refine (can_lit p u true _ HF.out).mono ?_
      rintro e w1 ⟨rfl, hb1⟩
      go_wp2_with fail
      exact bodyPost_ret (v := .tuple #[.int .i64 0, .int .i64 0, .int .i64 2]) (by simp [results, Try.results21, go_sem]) rfl ⟨rfl, hb1⟩
    · have HF := Lib.hid hf
      clear hf hs hr hk hc
      go_enter Try.func21, Try.ntmps21
      go_wp2_with fail
      refine (can_lit p u true _ HF.out).mono ?_
      rintro e w1 ⟨rfl, hb1⟩
      go_wp2_with fail
      exact bodyPost_ret (v := .tuple #[.int .i64 0, .int .i64 0, .int .i64 2]) (by simp [results, Try.results21, go_sem]) rfl ⟨rfl, hb1⟩
  · obtain ⟨hf, h1, h2⟩ := Sg.so_out hs
    have hub := Sg.un_bd (Sg.fits_out hf).2
    have hpb := (Sg.fits_out hf).1
    have HR : Hid ((x - 1) / u = r) := Lib.hid (by rw [← hr]; unfold Sg.soR; rw [if_pos hs])
    have HK : Hid ((x - 1) % u + 1 = k) := Lib.hid (by rw [← hk]; unfold Sg.soK; rw [if_pos hs])
    have HC : Hid (c = 0) := Lib.hid (by rw [← hc]; unfold Sg.soC; rw [if_pos hs])
    have HF := Lib.hid hf
    rw [HC.out]
    clear hs hr hk hc hf
    have u0 : ¬ u = 0 := by omega
    obtain ⟨q, hq⟩ : ∃ q, (x - 1) / u = q := ⟨_, rfl⟩
    obtain ⟨m, hm⟩ : ∃ m, (x - 1) % u = m := ⟨_, rfl⟩
    have hq0 : 0 ≤ q ∧ q ≤ 4096 := by
      have a1 := Int.ediv_nonneg (a := x - 1) (b := u) (by omega) (by omega)
      have a2 := Int.ediv_le_self (a := x - 1) u (by omega)
      omega
    have hm0 : 0 ≤ m ∧ m < 128 := by
      have a4 := Int.emod_nonneg (x - 1) u0
      have a5 := Int.emod_lt_of_pos (x - 1) (show 0 < u by omega)
      omega
    rw [hq] at HR
    rw [hm] at HK
    have e0 : IntKind.i64.wrap (x - 1) = x - 1 := IntWalk.i64_in _ (by omega)
    have e1 : IntKind.i64.wrap q = q := IntWalk.i64_in _ (by omega)
    have e2 : IntKind.i64.wrap (m + 1) = m + 1 := IntWalk.i64_in _ (by omega)
    have e3 : IntKind.i64.wrap m = m := IntWalk.i64_in _ (by omega)
    have t1 : (x - 1).tdiv u = q := by rw [Int.tdiv_eq_ediv_of_nonneg (by omega)]; exact hq
    have t2 : (x - 1).tmod u = m := by rw [Int.tmod_eq_emod_of_nonneg (by omega)]; exact hm
    go_enter Try.func21, Try.ntmps21
    go_wp2_with fail
    refine (can_lit p u true _ HF.out).mono ?_
    rintro e w1 ⟨rfl, hb1⟩
    go_wp2_with fail
    go_quiet (fail)
    go_wp2_with fail
    exact bodyPost_ret (v := .tuple #[.int .i64 q, .int .i64 (m + 1), .int .i64 0]) (by simp [results, Try.results21, go_sem]) rfl ⟨by rw [HR.out, HK.out], hb1.trans ((Q.drewN _ _).below _)⟩

set_option maxHeartbeats 1000000 in
theorem specSig_any (p u x r k c : Int) (w : World) (hr : Sg.soR p u x = r) (hk : Sg.soK p u x = k) (hc : Sg.soC p u x = c) :
    Calls Try.prog 22 #[.int .i64 p, .int .i64 u, .int .i64 x] w fun e w' => e = .returned (.tuple #[.int .i64 r, .int .i64 k, .int .i64 c]) ∧ Below w.heap.size w w' := by
  cases hs : Sg.soOk p u x
  · obtain ⟨rfl, rfl, rfl⟩ := Sg.so_no hs hr hk hc
    cases hf : Sg.fits p u
    · have HF := Lib.hid hf
      clear hf hs hr hk hc
      go_enter Try.func22, Try.ntmps22
      go_wp2_with fail
      refine (l06Fits_any p u false _ HF.out).mono ?_
      rintro e w1 ⟨rfl, hb1⟩
      go_wp2_with fail
      exact bodyPost_ret (v := .tuple #[.int .i64 0, .int .i64 0, .int .i64 2]) (by simp [results, Try.results22, go_sem]) rfl ⟨rfl, hb1⟩
    · have HX : Hid (x < 1 ∨ p < x) := Lib.hid (by
        rcases Sg.so_cases hs with h | ⟨_, h⟩ | ⟨_, _, h⟩
        · rw [hf] at h; cases h
        · exact .inl h
        · exact .inr h)
      have HF := Lib.hid hf
      clear hf hs hr hk hc
      go_enter Try.func22, Try.ntmps22
      go_wp2_with fail
      refine (l06Fits_any p u true _ HF.out).mono ?_
      rintro e w1 ⟨rfl, hb1⟩
      go_wp2_with fail
      refine (l01In_no _ _ _ _ HX.out).mono ?_
      rintro e _ ⟨rfl, rfl⟩
      go_wp2_with fail
      exact bodyPost_ret (v := .tuple #[.int .i64 0, .int .i64 0, .int .i64 2]) (by simp [results, Try.results22, go_sem]) rfl ⟨rfl, hb1⟩
  · obtain ⟨hf, h1, h2⟩ := Sg.so_out hs
    have hub := Sg.un_bd (Sg.fits_out hf).2
    have hpb := (Sg.fits_out hf).1
    have HR : Hid ((x - 1) / u = r) := Lib.hid (by rw [← hr]; unfold Sg.soR; rw [if_pos hs])
    have HK : Hid ((x - 1) % u + 1 = k) := Lib.hid (by rw [← hk]; unfold Sg.soK; rw [if_pos hs])
    have HC : Hid (c = 0) := Lib.hid (by rw [← hc]; unfold Sg.soC; rw [if_pos hs])
    have HF := Lib.hid hf
    rw [HC.out]
    clear hs hr hk hc hf
    have u0 : ¬ u = 0 := by omega
    obtain ⟨q, hq⟩ : ∃ q, (x - 1) / u = q := ⟨_, rfl⟩
    obtain ⟨m, hm⟩ : ∃ m, (x - 1) % u = m := ⟨_, rfl⟩
    have hq0 : 0 ≤ q ∧ q ≤ 4096 := by
      have a1 := Int.ediv_nonneg (a := x - 1) (b := u) (by omega) (by omega)
      have a2 := Int.ediv_le_self (a := x - 1) u (by omega)
      omega
    have hm0 : 0 ≤ m ∧ m < 128 := by
      have a4 := Int.emod_nonneg (x - 1) u0
      have a5 := Int.emod_lt_of_pos (x - 1) (show 0 < u by omega)
      omega
    rw [hq] at HR
    rw [hm] at HK
    have e0 : IntKind.i64.wrap (x - 1) = x - 1 := IntWalk.i64_in _ (by omega)
    have e1 : IntKind.i64.wrap q = q := IntWalk.i64_in _ (by omega)
    have e2 : IntKind.i64.wrap (m + 1) = m + 1 := IntWalk.i64_in _ (by omega)
    have e3 : IntKind.i64.wrap m = m := IntWalk.i64_in _ (by omega)
    have t1 : (x - 1).tdiv u = q := by rw [Int.tdiv_eq_ediv_of_nonneg (by omega)]; exact hq
    have t2 : (x - 1).tmod u = m := by rw [Int.tmod_eq_emod_of_nonneg (by omega)]; exact hm
    go_enter Try.func22, Try.ntmps22
    go_wp2_with fail
    refine (l06Fits_any p u true _ HF.out).mono ?_
    rintro e w1 ⟨rfl, hb1⟩
    go_wp2_with fail
    refine (l01In_yes _ _ _ _ h1 h2).mono ?_
    rintro e _ ⟨rfl, rfl⟩
    go_wp2_with fail
    go_quiet (fail)
    go_wp2_with fail
    exact bodyPost_ret (v := .tuple #[.int .i64 q, .int .i64 (m + 1), .int .i64 0]) (by simp [results, Try.results22, go_sem]) rfl ⟨by rw [HR.out, HK.out], hb1.trans ((Q.drewN _ _).below _)⟩
end Go.Proofs.Ytamnhbambklmkaa
