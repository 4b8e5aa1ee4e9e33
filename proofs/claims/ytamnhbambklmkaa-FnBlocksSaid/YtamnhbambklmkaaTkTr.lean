/- Contracts of ThicknessRange, the program's and the model's: the same numbers and codes. -/
import Derived.Test.YtamnhbambklmkaaTkBk
namespace Go.Proofs.Ytamnhbambklmkaa
open Go.RowKit

theorem greatest_any (p x r : Int) (w : World) (h0 : 1 ≤ p) (h1 : p ≤ 4096) (x0 : -1 ≤ x) (x1 : x ≤ 1000000000) (hr : (x * 100).tdiv (Tk.leaves p) = r) :
    Calls Try.prog 87 #[.int .i64 p, .int .i64 x] w fun e w' => e = .returned (.int .i64 r) ∧ w = w' := by
  have hl := Tk.leaves_bd ⟨h0, h1⟩
  have HL := Lib.hid (fun w => leafCount_any p w h0 h1)
  obtain ⟨q, hq⟩ : ∃ q, Tk.leaves p = q := ⟨_, rfl⟩
  rw [hq] at hr hl HL
  have q0 : ¬ q = 0 := by omega
  have hrb : -1000000000000 ≤ r ∧ r ≤ 1000000000000 := by
    rw [← hr]
    by_cases hx : 0 ≤ x
    · rw [Int.tdiv_eq_ediv_of_nonneg (by omega)]
      have a1 := Int.ediv_nonneg (a := x * 100) (b := q) (by omega) (by omega)
      have a2 := Int.ediv_le_self (a := x * 100) q (by omega)
      omega
    · obtain rfl : x = -1 := by omega
      have e : (-1 * 100 : Int).tdiv q = -((100 : Int) / q) := by
        rw [show (-1 * 100 : Int) = -(100 : Int) from rfl, Int.neg_tdiv, Int.tdiv_eq_ediv_of_nonneg (by omega)]
      rw [e]
      have a1 := Int.ediv_nonneg (a := 100) (b := q) (by omega) (by omega)
      have a2 := Int.ediv_le_self (a := 100) q (by omega)
      omega
  have e1 : (x * 100).tdiv q = r := hr
  have e2 : IntKind.i64.wrap r = r := IntWalk.i64_in _ (by omega)
  clear hr hq hl
  go_enter Try.func87, Try.ntmps87
  go_wp2_with fail
  refine (exact_any x _ (by omega) x1).mono ?_
  rintro e _ ⟨rfl, rfl⟩
  go_wp2_with fail
  refine (HL.out _).mono ?_
  rintro e _ ⟨rfl, rfl⟩
  go_wp2_with fail
  go_ret
  exact ⟨rfl, rfl⟩

/-- What the program reckons first: the two ends. -/
theorem Tk.tr_ends {q b r s : Int} (hq : 1 ≤ q) (hb : 0 ≤ b) (hb1 : b ≤ 1000000000) (hr : ((b - 1) * 100).tdiv q = r) (hs : (b * 100).tdiv q = s) : (-1000 ≤ r ∧ r ≤ 100000000000) ∧ (0 ≤ s ∧ s ≤ 100000000000) ∧ max 1 (r + 1) = Tk.trA q b ∧ min 2000 s = Tk.trZ q b := by
  have hs' : s = 100 * b / q := by rw [← hs, Int.tdiv_eq_ediv_of_nonneg (by omega), Int.mul_comm]
  have s0 := Int.ediv_nonneg (a := 100 * b) (b := q) (by omega) (by omega)
  have s1 := Int.ediv_le_self (a := 100 * b) q (by omega)
  rw [← hs'] at s0 s1
  have hz : min 2000 s = Tk.trZ q b := by
    unfold Tk.trZ
    rw [hs']
  by_cases h0 : b = 0
  · subst h0
    have e : r = -((100 : Int) / q) := by
      rw [← hr, show ((0 - 1) * 100 : Int) = -(100 : Int) from rfl, Int.neg_tdiv, Int.tdiv_eq_ediv_of_nonneg (by omega)]
    have a1 := Int.ediv_nonneg (a := 100) (b := q) (by omega) (by omega)
    have a2 := Int.ediv_le_self (a := 100) q (by omega)
    generalize (100 : Int) / q = y at e a1 a2
    refine ⟨by omega, by omega, ?_, hz⟩
    unfold Tk.trA
    rw [if_pos rfl]
    omega
  · have e : r = 100 * (b - 1) / q := by rw [← hr, Int.tdiv_eq_ediv_of_nonneg (by omega), Int.mul_comm]
    have a1 := Int.ediv_nonneg (a := 100 * (b - 1)) (b := q) (by omega) (by omega)
    have a2 := Int.ediv_le_self (a := 100 * (b - 1)) q (by omega)
    rw [← e] at a1 a2
    refine ⟨by omega, by omega, ?_, hz⟩
    unfold Tk.trA
    rw [if_neg h0, ← e]
    omega

set_option maxHeartbeats 1000000 in
theorem implTr_any (p b l z c : Int) (w : World) (hl : Tk.trL p b = l) (hz : Tk.trH p b = z) (hc : Tk.trC p b = c) :
    Calls Try.prog 48 #[.int .i64 p, .int .i64 b] w fun e w' => e = .returned (.tuple #[.int .i64 l, .int .i64 z, .int .i64 c]) ∧ w = w' := by
  cases hs : Tk.trIn p b
  · obtain ⟨rfl, rfl, rfl⟩ := Tk.tr_no hs hl hz hc
    rcases Tk.tr_cases hs with h | ⟨h1, h2⟩
    · have HP : Hid (Sg.inP p = false) := Lib.hid (Tk.okP_no h)
      clear h hs hl hz hc
      go_enter Try.func48, Try.ntmps48
      go_wp2_with fail
      refine (pageTotal_any p false _ HP.out).mono ?_
      rintro e _ ⟨rfl, rfl⟩
      go_wp2_with fail
      exact bodyPost_ret (v := .tuple #[.int .i64 0, .int .i64 0, .int .i64 2]) (by simp [results, Try.results48, go_sem]) rfl ⟨rfl, rfl⟩
    · have HP : Hid (Sg.inP p = true) := Lib.hid (Tk.okP_yes h1)
      have HB := Lib.hid h2
      clear h1 h2 hs hl hz hc
      go_enter Try.func48, Try.ntmps48
      go_wp2_with fail
      refine (pageTotal_any p true _ HP.out).mono ?_
      rintro e _ ⟨rfl, rfl⟩
      go_wp2_with fail
      refine (isLen_no b _ HB.out).mono ?_
      rintro e _ ⟨rfl, rfl⟩
      go_wp2_with fail
      exact bodyPost_ret (v := .tuple #[.int .i64 0, .int .i64 0, .int .i64 2]) (by simp [results, Try.results48, go_sem]) rfl ⟨rfl, rfl⟩
  · obtain ⟨⟨p1, p2⟩, b1, b2⟩ := Tk.tr_out hs
    have hlv := Tk.leaves_bd ⟨p1, p2⟩
    obtain ⟨r, hr⟩ : ∃ r, ((b - 1) * 100).tdiv (Tk.leaves p) = r := ⟨_, rfl⟩
    obtain ⟨s, hs2⟩ : ∃ s, (b * 100).tdiv (Tk.leaves p) = s := ⟨_, rfl⟩
    obtain ⟨⟨r0, r1⟩, ⟨s0, s1⟩, ha, hzz⟩ := Tk.tr_ends hlv.1 b1 b2 hr hs2
    have HR := Lib.hid hr
    have HS := Lib.hid hs2
    have HP : Hid (Sg.inP p = true) := Lib.hid (Tk.okP_yes ⟨p1, p2⟩)
    have e1 : IntKind.i64.wrap (b - 1) = b - 1 := IntWalk.i64_in _ (by omega)
    have e2 : IntKind.i64.wrap (r + 1) = r + 1 := IntWalk.i64_in _ (by omega)
    by_cases c1 : 1 < r + 1
    · have c1q : ¬ r + 1 ≤ 1 := by omega
      by_cases c2 : s < 2000
      · have c2q : ¬ 2000 ≤ s := by omega
        have hA : Tk.trA (Tk.leaves p) b = r + 1 := by rw [← ha]; omega
        have hZ : Tk.trZ (Tk.leaves p) b = s := by rw [← hzz]; omega
        by_cases hn : (r + 1 : Int) ≤ s
        · have HO : Hid (l = r + 1 ∧ z = s ∧ c = 0) := Lib.hid (by
            have hh := Tk.tr_yes hs (by rw [hA, hZ]; exact hn) hl hz hc
            rw [hA, hZ] at hh
            exact ⟨hh.1.symm, hh.2.1.symm, hh.2.2⟩)
          clear hA hZ
          clear hs hl hz hc hlv hr hs2 ha hzz
          go_enter Try.func48, Try.ntmps48
          go_wp2_with fail
          refine (pageTotal_any p true _ HP.out).mono ?_
          rintro e _ ⟨rfl, rfl⟩
          go_wp2_with fail
          refine (isLen_yes b _ b1 b2).mono ?_
          rintro e _ ⟨rfl, rfl⟩
          go_wp2_with fail
          refine (greatest_any p (b - 1) r _ p1 p2 (by omega) (by omega) HR.out).mono ?_
          rintro e _ ⟨rfl, rfl⟩
          go_wp2_with fail
          refine (greatest_any p b s _ p1 p2 (by omega) (by omega) HS.out).mono ?_
          rintro e _ ⟨rfl, rfl⟩
          go_wp2_with fail
          exact bodyPost_ret (v := .tuple #[.int .i64 (r + 1), .int .i64 (s), .int .i64 0]) (by simp [results, Try.results48, go_sem]) rfl ⟨by rw [HO.out.1, HO.out.2.1, HO.out.2.2], rfl⟩
        · have hn' : s < r + 1 := by omega
          have HO : Hid (l = 0 ∧ z = 0 ∧ c = 4) := Lib.hid (Tk.tr_none hs (by rw [hA, hZ]; omega) hl hz hc)
          clear hA hZ
          clear hs hl hz hc hlv hr hs2 ha hzz
          go_enter Try.func48, Try.ntmps48
          go_wp2_with fail
          refine (pageTotal_any p true _ HP.out).mono ?_
          rintro e _ ⟨rfl, rfl⟩
          go_wp2_with fail
          refine (isLen_yes b _ b1 b2).mono ?_
          rintro e _ ⟨rfl, rfl⟩
          go_wp2_with fail
          refine (greatest_any p (b - 1) r _ p1 p2 (by omega) (by omega) HR.out).mono ?_
          rintro e _ ⟨rfl, rfl⟩
          go_wp2_with fail
          refine (greatest_any p b s _ p1 p2 (by omega) (by omega) HS.out).mono ?_
          rintro e _ ⟨rfl, rfl⟩
          go_wp2_with fail
          exact bodyPost_ret (v := .tuple #[.int .i64 0, .int .i64 0, .int .i64 4]) (by simp [results, Try.results48, go_sem]) rfl ⟨by rw [HO.out.1, HO.out.2.1, HO.out.2.2], rfl⟩
      · have c2' : 2000 ≤ s := by omega
        have hA : Tk.trA (Tk.leaves p) b = r + 1 := by rw [← ha]; omega
        have hZ : Tk.trZ (Tk.leaves p) b = 2000 := by rw [← hzz]; omega
        by_cases hn : (r + 1 : Int) ≤ 2000
        · have HO : Hid (l = r + 1 ∧ z = 2000 ∧ c = 0) := Lib.hid (by
            have hh := Tk.tr_yes hs (by rw [hA, hZ]; exact hn) hl hz hc
            rw [hA, hZ] at hh
            exact ⟨hh.1.symm, hh.2.1.symm, hh.2.2⟩)
          clear hA hZ
          clear hs hl hz hc hlv hr hs2 ha hzz
          go_enter Try.func48, Try.ntmps48
          go_wp2_with fail
          refine (pageTotal_any p true _ HP.out).mono ?_
          rintro e _ ⟨rfl, rfl⟩
          go_wp2_with fail
          refine (isLen_yes b _ b1 b2).mono ?_
          rintro e _ ⟨rfl, rfl⟩
          go_wp2_with fail
          refine (greatest_any p (b - 1) r _ p1 p2 (by omega) (by omega) HR.out).mono ?_
          rintro e _ ⟨rfl, rfl⟩
          go_wp2_with fail
          refine (greatest_any p b s _ p1 p2 (by omega) (by omega) HS.out).mono ?_
          rintro e _ ⟨rfl, rfl⟩
          go_wp2_with fail
          exact bodyPost_ret (v := .tuple #[.int .i64 (r + 1), .int .i64 (2000), .int .i64 0]) (by simp [results, Try.results48, go_sem]) rfl ⟨by rw [HO.out.1, HO.out.2.1, HO.out.2.2], rfl⟩
        · have hn' : 2000 < r + 1 := by omega
          have HO : Hid (l = 0 ∧ z = 0 ∧ c = 4) := Lib.hid (Tk.tr_none hs (by rw [hA, hZ]; omega) hl hz hc)
          clear hA hZ
          clear hs hl hz hc hlv hr hs2 ha hzz
          go_enter Try.func48, Try.ntmps48
          go_wp2_with fail
          refine (pageTotal_any p true _ HP.out).mono ?_
          rintro e _ ⟨rfl, rfl⟩
          go_wp2_with fail
          refine (isLen_yes b _ b1 b2).mono ?_
          rintro e _ ⟨rfl, rfl⟩
          go_wp2_with fail
          refine (greatest_any p (b - 1) r _ p1 p2 (by omega) (by omega) HR.out).mono ?_
          rintro e _ ⟨rfl, rfl⟩
          go_wp2_with fail
          refine (greatest_any p b s _ p1 p2 (by omega) (by omega) HS.out).mono ?_
          rintro e _ ⟨rfl, rfl⟩
          go_wp2_with fail
          exact bodyPost_ret (v := .tuple #[.int .i64 0, .int .i64 0, .int .i64 4]) (by simp [results, Try.results48, go_sem]) rfl ⟨by rw [HO.out.1, HO.out.2.1, HO.out.2.2], rfl⟩
    · have c1' : r + 1 ≤ 1 := by omega
      by_cases c2 : s < 2000
      · have c2q : ¬ 2000 ≤ s := by omega
        have hA : Tk.trA (Tk.leaves p) b = 1 := by rw [← ha]; omega
        have hZ : Tk.trZ (Tk.leaves p) b = s := by rw [← hzz]; omega
        by_cases hn : (1 : Int) ≤ s
        · have HO : Hid (l = 1 ∧ z = s ∧ c = 0) := Lib.hid (by
            have hh := Tk.tr_yes hs (by rw [hA, hZ]; exact hn) hl hz hc
            rw [hA, hZ] at hh
            exact ⟨hh.1.symm, hh.2.1.symm, hh.2.2⟩)
          clear hA hZ
          clear hs hl hz hc hlv hr hs2 ha hzz
          go_enter Try.func48, Try.ntmps48
          go_wp2_with fail
          refine (pageTotal_any p true _ HP.out).mono ?_
          rintro e _ ⟨rfl, rfl⟩
          go_wp2_with fail
          refine (isLen_yes b _ b1 b2).mono ?_
          rintro e _ ⟨rfl, rfl⟩
          go_wp2_with fail
          refine (greatest_any p (b - 1) r _ p1 p2 (by omega) (by omega) HR.out).mono ?_
          rintro e _ ⟨rfl, rfl⟩
          go_wp2_with fail
          refine (greatest_any p b s _ p1 p2 (by omega) (by omega) HS.out).mono ?_
          rintro e _ ⟨rfl, rfl⟩
          go_wp2_with fail
          exact bodyPost_ret (v := .tuple #[.int .i64 (1), .int .i64 (s), .int .i64 0]) (by simp [results, Try.results48, go_sem]) rfl ⟨by rw [HO.out.1, HO.out.2.1, HO.out.2.2], rfl⟩
        · have hn' : s < 1 := by omega
          have HO : Hid (l = 0 ∧ z = 0 ∧ c = 4) := Lib.hid (Tk.tr_none hs (by rw [hA, hZ]; omega) hl hz hc)
          clear hA hZ
          clear hs hl hz hc hlv hr hs2 ha hzz
          go_enter Try.func48, Try.ntmps48
          go_wp2_with fail
          refine (pageTotal_any p true _ HP.out).mono ?_
          rintro e _ ⟨rfl, rfl⟩
          go_wp2_with fail
          refine (isLen_yes b _ b1 b2).mono ?_
          rintro e _ ⟨rfl, rfl⟩
          go_wp2_with fail
          refine (greatest_any p (b - 1) r _ p1 p2 (by omega) (by omega) HR.out).mono ?_
          rintro e _ ⟨rfl, rfl⟩
          go_wp2_with fail
          refine (greatest_any p b s _ p1 p2 (by omega) (by omega) HS.out).mono ?_
          rintro e _ ⟨rfl, rfl⟩
          go_wp2_with fail
          exact bodyPost_ret (v := .tuple #[.int .i64 0, .int .i64 0, .int .i64 4]) (by simp [results, Try.results48, go_sem]) rfl ⟨by rw [HO.out.1, HO.out.2.1, HO.out.2.2], rfl⟩
      · have c2' : 2000 ≤ s := by omega
        have hA : Tk.trA (Tk.leaves p) b = 1 := by rw [← ha]; omega
        have hZ : Tk.trZ (Tk.leaves p) b = 2000 := by rw [← hzz]; omega
        by_cases hn : (1 : Int) ≤ 2000
        · have HO : Hid (l = 1 ∧ z = 2000 ∧ c = 0) := Lib.hid (by
            have hh := Tk.tr_yes hs (by rw [hA, hZ]; exact hn) hl hz hc
            rw [hA, hZ] at hh
            exact ⟨hh.1.symm, hh.2.1.symm, hh.2.2⟩)
          clear hA hZ
          clear hs hl hz hc hlv hr hs2 ha hzz
          go_enter Try.func48, Try.ntmps48
          go_wp2_with fail
          refine (pageTotal_any p true _ HP.out).mono ?_
          rintro e _ ⟨rfl, rfl⟩
          go_wp2_with fail
          refine (isLen_yes b _ b1 b2).mono ?_
          rintro e _ ⟨rfl, rfl⟩
          go_wp2_with fail
          refine (greatest_any p (b - 1) r _ p1 p2 (by omega) (by omega) HR.out).mono ?_
          rintro e _ ⟨rfl, rfl⟩
          go_wp2_with fail
          refine (greatest_any p b s _ p1 p2 (by omega) (by omega) HS.out).mono ?_
          rintro e _ ⟨rfl, rfl⟩
          go_wp2_with fail
          exact bodyPost_ret (v := .tuple #[.int .i64 (1), .int .i64 (2000), .int .i64 0]) (by simp [results, Try.results48, go_sem]) rfl ⟨by rw [HO.out.1, HO.out.2.1, HO.out.2.2], rfl⟩
        · omega

/-- What the search of the model has met before the thickness u. -/
def Tk.trS (A Z u lo hi : Int) : Prop := (A < u ∧ A ≤ Z ∧ lo = A ∧ hi = min (u - 1) Z) ∨ (¬ (A < u ∧ A ≤ Z) ∧ lo = 0 ∧ hi = 0)
theorem Tk.trS_start {A Z : Int} (h : 1 ≤ A) : Tk.trS A Z 1 0 0 := .inr ⟨by omega, rfl, rfl⟩
theorem Tk.trS_first {A Z u hi : Int} (h : Tk.trS A Z u 0 hi) (h1 : 1 ≤ A) (h2 : A ≤ u) (h3 : u ≤ Z) : Tk.trS A Z (u + 1) u u := by
  unfold Tk.trS at h ⊢
  omega
theorem Tk.trS_more {A Z u lo hi : Int} (h : Tk.trS A Z u lo hi) (h0 : ¬ lo = 0) (h3 : u ≤ Z) : Tk.trS A Z (u + 1) lo u := by
  unfold Tk.trS at h ⊢
  omega
theorem Tk.trS_not {A Z u lo hi : Int} (h : Tk.trS A Z u lo hi) (hn : ¬ (A ≤ u ∧ u ≤ Z)) : Tk.trS A Z (u + 1) lo hi := by
  unfold Tk.trS at h ⊢
  omega
theorem Tk.trS_end {A Z lo hi : Int} (h : Tk.trS A Z 2001 lo hi) (hZ : Z ≤ 2000) (h1 : 1 ≤ A) : (lo = 0 ∧ Z < A) ∨ (¬ lo = 0 ∧ A ≤ Z ∧ lo = A ∧ hi = Z) := by
  unfold Tk.trS at h
  omega

set_option maxHeartbeats 1000000 in
theorem specTr_any (p b l z c : Int) (w : World) (hl : Tk.trL p b = l) (hz : Tk.trH p b = z) (hc : Tk.trC p b = c) :
    Calls Try.prog 49 #[.int .i64 p, .int .i64 b] w fun e w' => e = .returned (.tuple #[.int .i64 l, .int .i64 z, .int .i64 c]) ∧ w = w' := by
  cases hs : Tk.trIn p b
  · obtain ⟨rfl, rfl, rfl⟩ := Tk.tr_no hs hl hz hc
    rcases Tk.tr_cases hs with h | ⟨⟨p1, p2⟩, h2⟩
    · have HP := Lib.hid h
      clear h hs hl hz hc
      go_enter Try.func49, Try.ntmps49
      go_wp2_with fail
      refine (l01In_no _ _ _ _ HP.out).mono ?_
      rintro e _ ⟨rfl, rfl⟩
      go_wp2_with fail
      exact bodyPost_ret (v := .tuple #[.int .i64 0, .int .i64 0, .int .i64 2]) (by simp [results, Try.results49, go_sem]) rfl ⟨rfl, rfl⟩
    · have HB := Lib.hid h2
      clear h2 hs hl hz hc
      go_enter Try.func49, Try.ntmps49
      go_wp2_with fail
      refine (l01In_yes _ _ _ _ p1 p2).mono ?_
      rintro e _ ⟨rfl, rfl⟩
      go_wp2_with fail
      refine (l01In_no _ _ _ _ HB.out).mono ?_
      rintro e _ ⟨rfl, rfl⟩
      go_wp2_with fail
      exact bodyPost_ret (v := .tuple #[.int .i64 0, .int .i64 0, .int .i64 2]) (by simp [results, Try.results49, go_sem]) rfl ⟨rfl, rfl⟩
  · obtain ⟨⟨p1, p2⟩, b1, b2⟩ := Tk.tr_out hs
    have hlv := Tk.leaves_bd ⟨p1, p2⟩
    have HIF : Hid (∀ u x, 1 ≤ u → u ≤ 2000 → Tk.leaves p * u = x → ((x + 100 - 1) / 100 = b ↔ (Tk.trA (Tk.leaves p) b ≤ u ∧ u ≤ Tk.trZ (Tk.leaves p) b))) := Lib.hid (fun u x h1 h2 h => by subst h; exact Tk.tr_iff hlv.1 b1 h1 h2)
    have hA1 := Tk.trA_pos hlv.1 b1
    have hZ1 := Tk.trZ_nonneg hlv.1 b1
    have HOUT : Hid ((Tk.trZ (Tk.leaves p) b < Tk.trA (Tk.leaves p) b → l = 0 ∧ z = 0 ∧ c = 4) ∧ (Tk.trA (Tk.leaves p) b ≤ Tk.trZ (Tk.leaves p) b → Tk.trA (Tk.leaves p) b = l ∧ Tk.trZ (Tk.leaves p) b = z ∧ c = 0)) := Lib.hid ⟨fun h => Tk.tr_none hs h hl hz hc, fun h => Tk.tr_yes hs h hl hz hc⟩
    have HLV := Lib.hid hlv
    generalize Tk.trA (Tk.leaves p) b = A at *
    generalize Tk.trZ (Tk.leaves p) b = Z at *
    clear hs hl hz hc hlv
    go_enter Try.func49, Try.ntmps49
    go_wp2_with fail
    refine (l01In_yes _ _ _ _ p1 p2).mono ?_
    rintro e _ ⟨rfl, rfl⟩
    go_wp2_with fail
    refine (l01In_yes _ _ _ _ b1 b2).mono ?_
    rintro e _ ⟨rfl, rfl⟩
    go_wp2_with fail
    go_loopw [7, 8, 9] (fun lo hi t wr => ∃ u x y : Int, (1 ≤ u ∧ u ≤ 2001) ∧ t = .int .i64 u ∧ lo = .int .i64 x ∧ hi = .int .i64 y ∧ Hid (Tk.trS A Z u x y) ∧ w = wr) (fun _ _ t _ => (2001 - intOf t).toNat)
    case atStart => exact ⟨1, 0, 0, by decide, rfl, rfl, rfl, Lib.hid (Tk.trS_start hA1), rfl⟩
    case round =>
      obtain ⟨u, x, y, ⟨u1, u2⟩, rfl, rfl, rfl, HS, rfl⟩ := hrel
      by_cases hle : u ≤ 2000
      · obtain ⟨v, hv, v0, v1⟩ := Tk.bk_bd HLV.out.1 HLV.out.2 u1 hle
        obtain ⟨f, hf⟩ : ∃ f, (v + 100 - 1) / 100 = f := ⟨_, rfl⟩
        have HI := Lib.hid (HIF.out u v u1 hle hv)
        have HV := Lib.hid hv
        have HF := Lib.hid hf
        rw [hf] at HI
        clear hv hf
        by_cases hfb : f = b
        · have hin := HI.out.1 hfb
          subst hfb
          by_cases hx : x = 0
          · subst hx
            have HS' : Hid (Tk.trS A Z (u + 1) u u) := Lib.hid (Tk.trS_first HS.out hA1 hin.1 hin.2)
            go_wp2_with (first
              | (go_at_call 88; refine (l07Block_any p u v _ p1 p2 HV.out (by omega) (by omega)).mono ?_; rintro e _ ⟨rfl, rfl⟩)
              | (go_at_call 69; refine (l01Ceil_any v 100 f _ (by omega) (by omega) (by omega) (by omega) HF.out).mono ?_; rintro e _ ⟨rfl, rfl⟩))
            go_roundw
            case rel => exact ⟨u + 1, u, u, by omega, by go_num, rfl, rfl, HS', by trivial⟩
            case measure => simp [intOf]; omega
          · have hx' : (x == 0) = false := by simpa using hx
            have HS' : Hid (Tk.trS A Z (u + 1) x u) := Lib.hid (Tk.trS_more HS.out hx hin.2)
            go_wp2_with (first
              | (go_at_call 88; refine (l07Block_any p u v _ p1 p2 HV.out (by omega) (by omega)).mono ?_; rintro e _ ⟨rfl, rfl⟩)
              | (go_at_call 69; refine (l01Ceil_any v 100 f _ (by omega) (by omega) (by omega) (by omega) HF.out).mono ?_; rintro e _ ⟨rfl, rfl⟩))
            go_roundw
            case rel => exact ⟨u + 1, x, u, by omega, by go_num, rfl, rfl, HS', by trivial⟩
            case measure => simp [intOf]; omega
        · have HS' : Hid (Tk.trS A Z (u + 1) x y) := Lib.hid (Tk.trS_not HS.out (fun h => hfb (HI.out.2 h)))
          have hfb' : (f == b) = false := by simpa using hfb
          go_wp2_with (first
            | (go_at_call 88; refine (l07Block_any p u v _ p1 p2 HV.out (by omega) (by omega)).mono ?_; rintro e _ ⟨rfl, rfl⟩)
            | (go_at_call 69; refine (l01Ceil_any v 100 f _ (by omega) (by omega) (by omega) (by omega) HF.out).mono ?_; rintro e _ ⟨rfl, rfl⟩))
          go_roundw
          case rel => exact ⟨u + 1, x, y, by omega, by go_num, rfl, rfl, HS', by trivial⟩
          case measure => simp [intOf]; omega
      · obtain rfl : u = 2001 := by omega
        rcases Tk.trS_end HS.out hZ1.2 hA1 with ⟨h0, h1⟩ | ⟨h0, h1, h2, h3⟩
        · obtain ⟨rfl, rfl, rfl⟩ := HOUT.out.1 h1
          subst h0
          go_wp2_with fail
          exact bodyPost_ret (v := .tuple #[.int .i64 0, .int .i64 0, .int .i64 4]) (by simp [results, Try.results49, go_sem]) rfl ⟨rfl, rfl⟩
        · obtain ⟨rfl, rfl, rfl⟩ := HOUT.out.2 h1
          subst h2 h3
          have h0' : (x == 0) = false := by simpa using h0
          go_wp2_with fail
          exact bodyPost_ret (v := .tuple #[.int .i64 x, .int .i64 y, .int .i64 0]) (by simp [results, Try.results49, go_sem]) rfl ⟨rfl, rfl⟩
end Go.Proofs.Ytamnhbambklmkaa
