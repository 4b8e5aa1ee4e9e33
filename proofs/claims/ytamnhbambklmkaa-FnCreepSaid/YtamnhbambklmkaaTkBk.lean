/- Contracts of MostNested, BlockThickness and SpineWidth, the program's and the model's: the same numbers and codes. -/
import Derived.Test.YtamnhbambklmkaaTkIm
namespace Go.Proofs.Ytamnhbambklmkaa
open Go.RowKit

theorem Tk.fits1 (t : Int) : Tk.fits 1 t = Tk.okT t := by simp [Tk.fits, Tk.okN]
theorem Tk.okT_yes {t : Int} (h : 1 ≤ t ∧ t ≤ 2000) : Tk.okT t = true := decide_eq_true h
theorem Tk.okT_no {t : Int} (h : t < 1 ∨ 2000 < t) : Tk.okT t = false := decide_eq_false (by omega)
theorem Tk.okP_yes {p : Int} (h : 1 ≤ p ∧ p ≤ 4096) : Sg.inP p = true := decide_eq_true h
theorem Tk.okP_no {p : Int} (h : p < 1 ∨ 4096 < p) : Sg.inP p = false := decide_eq_false (by omega)

set_option maxHeartbeats 1000000 in
theorem implMn_any (t l r c : Int) (w : World) (hr : Tk.mnR t l = r) (hc : Tk.mnC t l = c) :
    Calls Try.prog 45 #[.int .i64 t, .int .i64 l] w fun e w' => e = .returned (.tuple #[.int .i64 r, .int .i64 c]) ∧ w = w' := by
  cases hs : Tk.mnOk t l
  · obtain ⟨rfl, rfl⟩ := Tk.mn_no hs hr hc
    rcases Tk.mn_cases hs with h | ⟨h1, h2⟩
    · have HT : Hid (Tk.okT t = false) := Lib.hid (Tk.okT_no h)
      clear h hs hr hc
      go_enter Try.func45, Try.ntmps45
      go_wp2_with fail
      refine (isThick_any t false _ HT.out).mono ?_
      rintro e _ ⟨rfl, rfl⟩
      go_wp2_with fail
      go_ret2
      exact ⟨rfl, rfl⟩
    · have HT : Hid (Tk.okT t = true) := Lib.hid (Tk.okT_yes h1)
      by_cases l0 : l < 0
      · clear h1 h2 hs hr hc
        go_enter Try.func45, Try.ntmps45
        go_wp2_with fail
        refine (isThick_any t true _ HT.out).mono ?_
        rintro e _ ⟨rfl, rfl⟩
        go_wp2_with fail
        go_ret2
        exact ⟨rfl, rfl⟩
      · have l1 : 0 ≤ l := by omega
        have l2 : 1000000000 < l := by omega
        clear h1 h2 hs hr hc l0
        go_enter Try.func45, Try.ntmps45
        go_wp2_with fail
        refine (isThick_any t true _ HT.out).mono ?_
        rintro e _ ⟨rfl, rfl⟩
        go_wp2_with fail
        go_ret2
        exact ⟨rfl, rfl⟩
  · obtain ⟨hv, rfl⟩ := Tk.mn_yes hs hr hc
    obtain ⟨⟨t1, t2⟩, l1, l2⟩ := Tk.mn_out hs
    have HT : Hid (Tk.okT t = true) := Lib.hid (Tk.okT_yes ⟨t1, t2⟩)
    have a0 := Int.ediv_nonneg l1 (show 0 ≤ t by omega)
    have a1 := Int.ediv_le_self (a := l) t l1
    have t0 : ¬ t = 0 := by omega
    obtain ⟨q, hq⟩ : ∃ q, l / t = q := ⟨_, rfl⟩
    rw [hq] at hv a0 a1
    have e1 : l.tdiv t = q := by rw [Int.tdiv_eq_ediv_of_nonneg l1]; exact hq
    have e2 : IntKind.i64.wrap q = q := IntWalk.i64_in _ (by omega)
    have e3 : IntKind.i64.wrap (1 + q) = 1 + q := IntWalk.i64_in _ (by omega)
    clear hs hr hc hq
    by_cases h64 : 1 + q < 64
    · obtain rfl : r = 1 + q := by omega
      clear hv
      go_enter Try.func45, Try.ntmps45
      go_wp2_with fail
      refine (isThick_any t true _ HT.out).mono ?_
      rintro e _ ⟨rfl, rfl⟩
      go_wp2_with fail
      go_ret2
      exact ⟨rfl, rfl⟩
    · obtain rfl : r = 64 := by omega
      have h64' : 64 ≤ 1 + q := by omega
      clear hv
      go_enter Try.func45, Try.ntmps45
      go_wp2_with fail
      refine (isThick_any t true _ HT.out).mono ?_
      rintro e _ ⟨rfl, rfl⟩
      go_wp2_with fail
      go_ret2
      exact ⟨rfl, rfl⟩

set_option maxHeartbeats 1000000 in
theorem specMn_any (t l r c : Int) (w : World) (hr : Tk.mnR t l = r) (hc : Tk.mnC t l = c) :
    Calls Try.prog 46 #[.int .i64 t, .int .i64 l] w fun e w' => e = .returned (.tuple #[.int .i64 r, .int .i64 c]) ∧ w = w' := by
  cases hs : Tk.mnOk t l
  · obtain ⟨rfl, rfl⟩ := Tk.mn_no hs hr hc
    rcases Tk.mn_cases hs with h | ⟨h1, h2⟩
    · have HT : Hid (Tk.fits 1 t = false) := Lib.hid (by rw [Tk.fits1]; exact Tk.okT_no h)
      clear h hs hr hc
      go_enter Try.func46, Try.ntmps46
      go_wp2_with fail
      refine (l07Fits_any 1 t false _ HT.out).mono ?_
      rintro e _ ⟨rfl, rfl⟩
      go_wp2_with fail
      go_ret2
      exact ⟨rfl, rfl⟩
    · have HT : Hid (Tk.fits 1 t = true) := Lib.hid (by rw [Tk.fits1]; exact Tk.okT_yes h1)
      have HL := Lib.hid h2
      clear h1 h2 hs hr hc
      go_enter Try.func46, Try.ntmps46
      go_wp2_with fail
      refine (l07Fits_any 1 t true _ HT.out).mono ?_
      rintro e _ ⟨rfl, rfl⟩
      go_wp2_with fail
      refine (l01In_no _ _ _ _ HL.out).mono ?_
      rintro e _ ⟨rfl, rfl⟩
      go_wp2_with fail
      go_ret2
      exact ⟨rfl, rfl⟩
  · obtain ⟨hv, rfl⟩ := Tk.mn_yes hs hr hc
    obtain ⟨⟨t1, t2⟩, l1, l2⟩ := Tk.mn_out hs
    have HT : Hid (Tk.fits 1 t = true) := Lib.hid (by rw [Tk.fits1]; exact Tk.okT_yes ⟨t1, t2⟩)
    have a0 := Int.ediv_nonneg l1 (show 0 ≤ t by omega)
    have a1 := Int.ediv_le_self (a := l) t l1
    have t0 : ¬ t = 0 := by omega
    obtain ⟨q, hq⟩ : ∃ q, l / t = q := ⟨_, rfl⟩
    rw [hq] at hv a0 a1
    have e1 : l.tdiv t = q := by rw [Int.tdiv_eq_ediv_of_nonneg l1]; exact hq
    have e2 : IntKind.i64.wrap q = q := IntWalk.i64_in _ (by omega)
    have e3 : IntKind.i64.wrap (q + 1) = q + 1 := IntWalk.i64_in _ (by omega)
    clear hs hr hc hq
    by_cases h64 : q + 1 < 64
    · obtain rfl : r = q + 1 := by omega
      clear hv
      go_enter Try.func46, Try.ntmps46
      go_wp2_with fail
      refine (l07Fits_any 1 t true _ HT.out).mono ?_
      rintro e _ ⟨rfl, rfl⟩
      go_wp2_with fail
      refine (l01In_yes _ _ _ _ l1 l2).mono ?_
      rintro e _ ⟨rfl, rfl⟩
      go_wp2_with fail
      go_ret2
      exact ⟨rfl, rfl⟩
    · obtain rfl : r = 64 := by omega
      have h64' : 64 ≤ q + 1 := by omega
      clear hv
      go_enter Try.func46, Try.ntmps46
      go_wp2_with fail
      refine (l07Fits_any 1 t true _ HT.out).mono ?_
      rintro e _ ⟨rfl, rfl⟩
      go_wp2_with fail
      refine (l01In_yes _ _ _ _ l1 l2).mono ?_
      rintro e _ ⟨rfl, rfl⟩
      go_wp2_with fail
      go_ret2
      exact ⟨rfl, rfl⟩

theorem leafCount_any (p : Int) (w : World) (h0 : 1 ≤ p) (h1 : p ≤ 4096) :
    Calls Try.prog 90 #[.int .i64 p] w fun e w' => e = .returned (.int .i64 (Tk.leaves p)) ∧ w = w' := by
  have HE : Hid ((p + 1) / 2 = Tk.leaves p) := Lib.hid rfl
  have e1 : IntKind.i64.wrap (p + 1) = p + 1 := IntWalk.i64_in _ (by omega)
  have e2 : (p + 1).tdiv 2 = (p + 1) / 2 := Int.tdiv_eq_ediv_of_nonneg (by omega)
  have e3 : IntKind.i64.wrap ((p + 1) / 2) = (p + 1) / 2 := IntWalk.i64_in _ (by omega)
  go_enter Try.func90, Try.ntmps90
  go_wp2_with fail
  go_ret
  exact ⟨ret_i HE.out, rfl⟩
theorem l07Block_any (p t x : Int) (w : World) (h0 : 1 ≤ p) (h1 : p ≤ 4096) (hx : Tk.leaves p * t = x) (x0 : 0 ≤ x) (x1 : x ≤ 1000000000) :
    Calls Try.prog 88 #[.int .i64 p, .int .i64 t] w fun e w' => e = .returned (.int .i64 x) ∧ w = w' := by
  obtain ⟨q, hq⟩ : ∃ q, (p + 1) / 2 = q := ⟨_, rfl⟩
  have hq0 : 0 ≤ q ∧ q ≤ 4096 := by omega
  have HX : Hid (q * t = x) := Lib.hid (by rw [← hx, ← hq]; rfl)
  have e1 : IntKind.i64.wrap (p + 1) = p + 1 := IntWalk.i64_in _ (by omega)
  have e2 : (p + 1).tdiv 2 = q := by rw [Int.tdiv_eq_ediv_of_nonneg (by omega)]; exact hq
  have e3 : IntKind.i64.wrap q = q := IntWalk.i64_in _ (by omega)
  have e4 : IntKind.i64.wrap (q * t) = x := by rw [HX.out]; exact IntWalk.i64_in _ (by omega)
  clear hx hq
  go_enter Try.func88, Try.ntmps88
  go_wp2_with fail
  go_ret
  exact ⟨rfl, rfl⟩

set_option maxHeartbeats 1000000 in
theorem implBk_any (p t r c : Int) (w : World) (hr : Tk.bkR p t = r) (hc : Tk.bkC p t = c) :
    Calls Try.prog 54 #[.int .i64 p, .int .i64 t] w fun e w' => e = .returned (.tuple #[.int .i64 r, .int .i64 c]) ∧ w = w' := by
  cases hs : Tk.bkOk p t
  · obtain ⟨rfl, rfl⟩ := Tk.bk_no hs hr hc
    rcases Tk.bk_cases hs with h | ⟨h1, h2⟩
    · have HP : Hid (Sg.inP p = false) := Lib.hid (Tk.okP_no h)
      clear h hs hr hc
      go_enter Try.func54, Try.ntmps54
      go_wp2_with fail
      refine (pageTotal_any p false _ HP.out).mono ?_
      rintro e _ ⟨rfl, rfl⟩
      go_wp2_with fail
      go_ret2
      exact ⟨rfl, rfl⟩
    · have HP : Hid (Sg.inP p = true) := Lib.hid (Tk.okP_yes h1)
      have HT : Hid (Tk.okT t = false) := Lib.hid (Tk.okT_no h2)
      clear h1 h2 hs hr hc
      go_enter Try.func54, Try.ntmps54
      go_wp2_with fail
      refine (pageTotal_any p true _ HP.out).mono ?_
      rintro e _ ⟨rfl, rfl⟩
      go_wp2_with fail
      refine (isThick_any t false _ HT.out).mono ?_
      rintro e _ ⟨rfl, rfl⟩
      go_wp2_with fail
      go_ret2
      exact ⟨rfl, rfl⟩
  · obtain ⟨hv, rfl⟩ := Tk.bk_yes hs hr hc
    obtain ⟨⟨p1, p2⟩, t1, t2⟩ := Tk.bk_out hs
    have HP : Hid (Sg.inP p = true) := Lib.hid (Tk.okP_yes ⟨p1, p2⟩)
    have HT : Hid (Tk.okT t = true) := Lib.hid (Tk.okT_yes ⟨t1, t2⟩)
    have hl := Tk.leaves_bd ⟨p1, p2⟩
    obtain ⟨x, hx, x0, x1⟩ := Tk.bk_bd hl.1 hl.2 t1 t2
    obtain rfl : x = r := hx.symm.trans hv
    have HL := Lib.hid (fun w => leafCount_any p w p1 p2)
    obtain ⟨q, hq⟩ : ∃ q, Tk.leaves p = q := ⟨_, rfl⟩
    rw [hq] at hx HL
    have e1 : IntKind.i64.wrap (q * t) = x := by rw [hx]; exact IntWalk.i64_in _ (by omega)
    clear hs hr hc hv hx hq hl
    go_enter Try.func54, Try.ntmps54
    go_wp2_with fail
    refine (pageTotal_any p true _ HP.out).mono ?_
    rintro e _ ⟨rfl, rfl⟩
    go_wp2_with fail
    refine (isThick_any t true _ HT.out).mono ?_
    rintro e _ ⟨rfl, rfl⟩
    go_wp2_with fail
    refine (HL.out _).mono ?_
    rintro e _ ⟨rfl, rfl⟩
    go_wp2_with fail
    go_ret2
    exact ⟨rfl, rfl⟩

set_option maxHeartbeats 1000000 in
theorem specBk_any (p t r c : Int) (w : World) (hr : Tk.bkR p t = r) (hc : Tk.bkC p t = c) :
    Calls Try.prog 55 #[.int .i64 p, .int .i64 t] w fun e w' => e = .returned (.tuple #[.int .i64 r, .int .i64 c]) ∧ w = w' := by
  cases hs : Tk.bkOk p t
  · obtain ⟨rfl, rfl⟩ := Tk.bk_no hs hr hc
    rcases Tk.bk_cases hs with h | ⟨⟨p1, p2⟩, h2⟩
    · have HP := Lib.hid h
      clear h hs hr hc
      go_enter Try.func55, Try.ntmps55
      go_wp2_with fail
      refine (l01In_no _ _ _ _ HP.out).mono ?_
      rintro e _ ⟨rfl, rfl⟩
      go_wp2_with fail
      go_ret2
      exact ⟨rfl, rfl⟩
    · have HT : Hid (Tk.fits 1 t = false) := Lib.hid (by rw [Tk.fits1]; exact Tk.okT_no h2)
      clear h2 hs hr hc
      go_enter Try.func55, Try.ntmps55
      go_wp2_with fail
      refine (l01In_yes _ _ _ _ p1 p2).mono ?_
      rintro e _ ⟨rfl, rfl⟩
      go_wp2_with fail
      refine (l07Fits_any 1 t false _ HT.out).mono ?_
      rintro e _ ⟨rfl, rfl⟩
      go_wp2_with fail
      go_ret2
      exact ⟨rfl, rfl⟩
  · obtain ⟨hv, rfl⟩ := Tk.bk_yes hs hr hc
    obtain ⟨⟨p1, p2⟩, t1, t2⟩ := Tk.bk_out hs
    have HT : Hid (Tk.fits 1 t = true) := Lib.hid (by rw [Tk.fits1]; exact Tk.okT_yes ⟨t1, t2⟩)
    have hl := Tk.leaves_bd ⟨p1, p2⟩
    obtain ⟨x, hx, x0, x1⟩ := Tk.bk_bd hl.1 hl.2 t1 t2
    obtain rfl : x = r := hx.symm.trans hv
    have HX := Lib.hid hx
    clear hs hr hc hv hx hl
    go_enter Try.func55, Try.ntmps55
    go_wp2_with fail
    refine (l01In_yes _ _ _ _ p1 p2).mono ?_
    rintro e _ ⟨rfl, rfl⟩
    go_wp2_with fail
    refine (l07Fits_any 1 t true _ HT.out).mono ?_
    rintro e _ ⟨rfl, rfl⟩
    go_wp2_with fail
    refine (l07Block_any p t x _ p1 p2 HX.out (by omega) (by omega)).mono ?_
    rintro e _ ⟨rfl, rfl⟩
    go_wp2_with fail
    go_ret2
    exact ⟨rfl, rfl⟩

set_option maxHeartbeats 1000000 in
theorem implSp_any (p t g r c : Int) (w : World) (hr : Tk.spR p t g = r) (hc : Tk.spC p t g = c) :
    Calls Try.prog 51 #[.int .i64 p, .int .i64 t, .int .i64 g] w fun e w' => e = .returned (.tuple #[.int .i64 r, .int .i64 c]) ∧ w = w' := by
  obtain ⟨x, hx⟩ : ∃ x, Tk.bkR p t = x := ⟨_, rfl⟩
  obtain ⟨d, hd⟩ : ∃ d, Tk.bkC p t = d := ⟨_, rfl⟩
  have HX := Lib.hid hx
  have HD := Lib.hid hd
  cases hs : Tk.spOk p t g
  · obtain ⟨rfl, rfl⟩ := Tk.sp_no hs hr hc
    rcases Tk.sp_cases hs with h | ⟨h1, h2⟩
    · obtain ⟨rfl, rfl⟩ := Tk.bk_no h hx hd
      clear h hs hr hc hx hd
      go_enter Try.func51, Try.ntmps51
      go_wp2_with fail
      refine (implBk_any p t 0 2 _ HX.out HD.out).mono ?_
      rintro e _ ⟨rfl, rfl⟩
      go_wp2_with fail
      go_ret2
      exact ⟨rfl, rfl⟩
    · obtain ⟨_, rfl⟩ := Tk.bk_yes h1 hx hd
      by_cases g0 : g < 0
      · clear h1 h2 hs hr hc hx hd
        go_enter Try.func51, Try.ntmps51
        go_wp2_with fail
        refine (implBk_any p t x 0 _ HX.out HD.out).mono ?_
        rintro e _ ⟨rfl, rfl⟩
        go_wp2_with fail
        go_ret2
        exact ⟨rfl, rfl⟩
      · have g1 : 0 ≤ g := by omega
        have g2 : 2000 < g := by omega
        clear h1 h2 hs hr hc hx hd g0
        go_enter Try.func51, Try.ntmps51
        go_wp2_with fail
        refine (implBk_any p t x 0 _ HX.out HD.out).mono ?_
        rintro e _ ⟨rfl, rfl⟩
        go_wp2_with fail
        go_ret2
        exact ⟨rfl, rfl⟩
  · obtain ⟨hv, rfl⟩ := Tk.sp_yes hs hr hc
    obtain ⟨hb, g1, g2⟩ := Tk.sp_out hs
    obtain ⟨hy, rfl⟩ := Tk.bk_yes hb hx hd
    obtain ⟨⟨p1, p2⟩, t1, t2⟩ := Tk.bk_out hb
    have hl := Tk.leaves_bd ⟨p1, p2⟩
    obtain ⟨x', hx', x0, x1⟩ := Tk.bk_bd hl.1 hl.2 t1 t2
    obtain rfl : x' = x := hx'.symm.trans hy
    rw [hy] at hv
    have HV := Lib.hid hv
    have e1 : IntKind.i64.wrap (x' + g) = x' + g := IntWalk.i64_in _ (by omega)
    clear hs hr hc hx hd hv hb hy hl hx'
    go_enter Try.func51, Try.ntmps51
    go_wp2_with fail
    refine (implBk_any p t x' 0 _ HX.out HD.out).mono ?_
    rintro e _ ⟨rfl, rfl⟩
    go_wp2_with fail
    refine (upward_any (x' + g) r _ (by omega) (by omega) HV.out).mono ?_
    rintro e _ ⟨rfl, rfl⟩
    go_wp2_with fail
    go_ret2
    exact ⟨rfl, rfl⟩

set_option maxHeartbeats 1000000 in
theorem specSp_any (p t g r c : Int) (w : World) (hr : Tk.spR p t g = r) (hc : Tk.spC p t g = c) :
    Calls Try.prog 52 #[.int .i64 p, .int .i64 t, .int .i64 g] w fun e w' => e = .returned (.tuple #[.int .i64 r, .int .i64 c]) ∧ w = w' := by
  cases hs : Tk.spOk p t g
  · obtain ⟨rfl, rfl⟩ := Tk.sp_no hs hr hc
    rcases Tk.sp_cases hs with h | ⟨h1, h2⟩
    · rcases Tk.bk_cases h with h3 | ⟨⟨p1, p2⟩, h4⟩
      · have HP := Lib.hid h3
        clear h h3 hs hr hc
        go_enter Try.func52, Try.ntmps52
        go_wp2_with fail
        refine (l01In_no _ _ _ _ HP.out).mono ?_
        rintro e _ ⟨rfl, rfl⟩
        go_wp2_with fail
        go_ret2
        exact ⟨rfl, rfl⟩
      · have HT : Hid (Tk.fits 1 t = false) := Lib.hid (by rw [Tk.fits1]; exact Tk.okT_no h4)
        clear h h4 hs hr hc
        go_enter Try.func52, Try.ntmps52
        go_wp2_with fail
        refine (l01In_yes _ _ _ _ p1 p2).mono ?_
        rintro e _ ⟨rfl, rfl⟩
        go_wp2_with fail
        refine (l07Fits_any 1 t false _ HT.out).mono ?_
        rintro e _ ⟨rfl, rfl⟩
        go_wp2_with fail
        go_ret2
        exact ⟨rfl, rfl⟩
    · obtain ⟨⟨p1, p2⟩, t1⟩ := Tk.bk_out h1
      have HT : Hid (Tk.fits 1 t = true) := Lib.hid (by rw [Tk.fits1]; exact Tk.okT_yes t1)
      have HG := Lib.hid h2
      clear h1 h2 hs hr hc t1
      go_enter Try.func52, Try.ntmps52
      go_wp2_with fail
      refine (l01In_yes _ _ _ _ p1 p2).mono ?_
      rintro e _ ⟨rfl, rfl⟩
      go_wp2_with fail
      refine (l07Fits_any 1 t true _ HT.out).mono ?_
      rintro e _ ⟨rfl, rfl⟩
      go_wp2_with fail
      refine (l01In_no _ _ _ _ HG.out).mono ?_
      rintro e _ ⟨rfl, rfl⟩
      go_wp2_with fail
      go_ret2
      exact ⟨rfl, rfl⟩
  · obtain ⟨hv, rfl⟩ := Tk.sp_yes hs hr hc
    obtain ⟨hb, g1, g2⟩ := Tk.sp_out hs
    obtain ⟨⟨p1, p2⟩, t1, t2⟩ := Tk.bk_out hb
    have HT : Hid (Tk.fits 1 t = true) := Lib.hid (by rw [Tk.fits1]; exact Tk.okT_yes ⟨t1, t2⟩)
    have hl := Tk.leaves_bd ⟨p1, p2⟩
    obtain ⟨x, hx, x0, x1⟩ := Tk.bk_bd hl.1 hl.2 t1 t2
    rw [hx] at hv
    have HX := Lib.hid hx
    have HV : Hid ((x + g + 100 - 1) / 100 = r) := Lib.hid hv
    have e1 : IntKind.i64.wrap (x + g) = x + g := IntWalk.i64_in _ (by omega)
    clear hs hr hc hv hb hl hx
    go_enter Try.func52, Try.ntmps52
    go_wp2_with fail
    refine (l01In_yes _ _ _ _ p1 p2).mono ?_
    rintro e _ ⟨rfl, rfl⟩
    go_wp2_with fail
    refine (l07Fits_any 1 t true _ HT.out).mono ?_
    rintro e _ ⟨rfl, rfl⟩
    go_wp2_with fail
    refine (l01In_yes _ _ _ _ g1 g2).mono ?_
    rintro e _ ⟨rfl, rfl⟩
    go_wp2_with fail
    refine (l07Block_any p t x _ p1 p2 HX.out (by omega) (by omega)).mono ?_
    rintro e _ ⟨rfl, rfl⟩
    go_wp2_with fail
    refine (l01Ceil_any (x + g) 100 r _ (by omega) (by omega) (by omega) (by omega) HV.out).mono ?_
    rintro e _ ⟨rfl, rfl⟩
    go_wp2_with fail
    go_ret2
    exact ⟨rfl, rfl⟩
end Go.Proofs.Ytamnhbambklmkaa
