/- Contracts of LeafOf, the program's and the model's. -/
import Derived.Test.YtcagljdebplmcaaFoMap
import Derived.BigQuiet
import Derived.Deep.QuietTactic
namespace Go.Proofs.Ytcagljdebplmcaa
open Go.RowKit Go.Maps

set_option maxRecDepth 100000 in
set_option maxHeartbeats 1000000 in
theorem implLo_any (a b x y : Int) (s : ByteArray) (w : World) (hs : s.size ≤ 1048577) (hx : -9223372036854775808 ≤ x ∧ x ≤ 9223372036854775807) (hy : -9223372036854775808 ≤ y ∧ y ≤ 9223372036854775807) :
    Calls Try.prog 19 #[.int .i64 a, .int .i64 b, .string s, .int .i64 x, .int .i64 y] w fun e w' => e = .returned (.tuple #[.int .i64 (loR a b s.data.toList x y : Int), .int .i64 (loC a b s.data.toList x y)]) ∧ Below w.heap.size w w' := by
  obtain ⟨C, hC⟩ : ∃ C, C = Fo.code a b s.data.toList := ⟨_, rfl⟩
  have hch : ∀ W, Calls Try.prog 49 #[.int .i64 a, .int .i64 b, .string s] W fun e w' => e = .returned (.int .i64 C) ∧ W = w' := fun W => by rw [hC]; exact checkScheme_any a b s W hs
  by_cases h0 : C = 0
  · have hsc := Fo.code_zero (show Fo.code a b s.data.toList = 0 by rw [← hC, h0])
    have h6 : s.size ≤ 6 := (Fo.scheme_len hsc).1
    obtain ⟨kl, hkl⟩ := keyLf x y (WalkArith.wf_i64 (by omega)) (WalkArith.wf_i64 (by omega))
    have HSC := Lib.hid hsc
    have HC0 : Hid (loC a b s.data.toList x y = if 0 ≤ x ∧ x < a ∧ 0 ≤ y ∧ y < b then 0 else 2) := by unfold loC; rw [if_pos (by rw [← hC, h0])]; exact Lib.hid rfl
    have HKL := Lib.hid hkl
    obtain ⟨r, hr⟩ : ∃ r, r = loR a b s.data.toList x y := ⟨_, rfl⟩
    obtain ⟨c0, hc0⟩ : ∃ c0, c0 = loC a b s.data.toList x y := ⟨_, rfl⟩
    rw [← hr, ← hc0]
    have HRC := Lib.hid (And.intro hr hc0)
    subst h0
    clear hC hsc hkl hr hc0
    go_enter Try.func19, Try.ntmps19
    go_wp2_with fail
    refine (hch _).mono ?_
    rintro e _ ⟨rfl, rfl⟩
    go_wp2_with fail
    refine (cellPlaces_any s _ h6).mono ?_
    rintro e w1 ⟨m, D, rfl, hm, hI, hb⟩
    rcases hI.2 x y kl HKL.out with ⟨j, h1, h2, h3, h4, h5⟩ | ⟨h1, h2⟩
    · have hin := cell_in HSC.out (j := j) (by rw [toList_len]; exact h1)
      rw [h2, h3] at hin
      have hc0 : c0 = 0 := by rw [HRC.out.2, HC0.out, if_pos hin]
      have hr : r = j := by rw [HRC.out.1]; exact loR_at (by rw [toList_len]; exact h1) ⟨h2, h3⟩ (by rw [← HRC.out.2, hc0])
      have HD := Lib.hid (h5 (.lit (.int .i64 0)))
      have hh := h4
      subst hc0 hr
      clear h1 h2 h3 h4 h5 hin hI
      go_wp2_with (at_lookup; refine wpList_lookup_own_ok_int _ rfl _ _ 66 rfl 37 2 .i64 lawLf Try.underlying66 Try.underlying2 (zeroI _) m (2 ^ s.size) D rfl hm _ kl rfl HKL.out ?_; intro c hat hwc; rw [hh]; have hcj : c = (r : Int) := (by have h7 := HD.out; rw [hat] at h7; injection h7 with h7; injection h7); subst hcj; clear hat)
      go_ret2
      exact ⟨rfl, hb⟩
    · have hnin : ¬ (0 ≤ x ∧ x < a ∧ 0 ≤ y ∧ y < b) := fun h => by
        obtain ⟨j, q1, q2, q3⟩ := cell_on HSC.out h.1 h.2.1 h.2.2.1 h.2.2.2
        exact h1 j (by rw [← toList_len]; exact q1) ⟨q2, q3⟩
      have hc0 : c0 = 2 := by rw [HRC.out.2, HC0.out, if_neg hnin]
      have hr : r = 0 := by rw [HRC.out.1]; unfold loR; rw [if_neg (by rw [← HRC.out.2, hc0]; decide)]
      have hh := h2
      subst hc0 hr
      clear h1 h2 hnin hI
      go_wp2_with (at_lookup; refine wpList_lookup_own_ok_int _ rfl _ _ 66 rfl 37 2 .i64 lawLf Try.underlying66 Try.underlying2 (zeroI _) m (2 ^ s.size) D rfl hm _ kl rfl HKL.out ?_; intro c hat hwc; rw [hh]; clear hat)
      go_ret2
      exact ⟨rfl, hb⟩
  · have HC0 : Hid (loC a b s.data.toList x y = C) := by unfold loC; rw [if_neg (by rw [← hC]; exact h0)]; exact Lib.hid hC.symm
    have HR : Hid (loR a b s.data.toList x y = 0) := by unfold loR; rw [if_neg (by rw [HC0.out]; exact h0)]; exact Lib.hid rfl
    rw [HC0.out, HR.out]
    clear hC
    go_enter Try.func19, Try.ntmps19
    go_wp2_with fail
    refine (hch _).mono ?_
    rintro e _ ⟨rfl, rfl⟩
    go_wp2_with fail
    go_ret2
    exact ⟨rfl, Below.refl _ _⟩

set_option maxRecDepth 100000 in
set_option maxHeartbeats 1000000 in
/-- The model's LeafOf, once the leaves are there. -/
theorem specLo_any (a b x y : Int) (s : ByteArray) (w : World) (hs : s.size ≤ 1048577) (hx : -9223372036854775808 ≤ x ∧ x ≤ 9223372036854775807) (hy : -9223372036854775808 ≤ y ∧ y ≤ 9223372036854775807) :
    Calls Try.prog 20 #[.int .i64 a, .int .i64 b, .string s, .int .i64 x, .int .i64 y] w fun e w' => e = .returned (.tuple #[.int .i64 (loR a b s.data.toList x y : Int), .int .i64 (loC a b s.data.toList x y)]) ∧ Below w.heap.size w w' := by
  obtain ⟨C, hC⟩ : ∃ C, C = Fo.code a b s.data.toList := ⟨_, rfl⟩
  have hch : ∀ W, Calls Try.prog 51 #[.int .i64 a, .int .i64 b, .string s] W fun e w' => e = .returned (.int .i64 C) ∧ W = w' := fun W => by rw [hC]; exact specCode_any a b s W hs
  by_cases h0 : C = 0
  · have hsc := Fo.code_zero (show Fo.code a b s.data.toList = 0 by rw [← hC, h0])
    obtain ⟨h6', _, _, hsa, hsb, _⟩ := Fo.scheme_len hsc
    have h6 : s.size ≤ 6 := h6'
    have ha : 1 ≤ a ∧ a ≤ 8 := by rcases Fo.side_cases hsa with ⟨h, _⟩ | ⟨h, _⟩ | ⟨h, _⟩ | ⟨h, _⟩ <;> omega
    have hb8 : 1 ≤ b ∧ b ≤ 8 := by rcases Fo.side_cases hsb with ⟨h, _⟩ | ⟨h, _⟩ | ⟨h, _⟩ | ⟨h, _⟩ <;> omega
    have HSC := Lib.hid hsc
    have HC0 : Hid (loC a b s.data.toList x y = if 0 ≤ x ∧ x < a ∧ 0 ≤ y ∧ y < b then 0 else 2) := by unfold loC; rw [if_pos (by rw [← hC, h0])]; exact Lib.hid rfl
    have ea : IntKind.i64.wrap (a - 1) = a - 1 := IntWalk.i64_in _ (by omega)
    have eb : IntKind.i64.wrap (b - 1) = b - 1 := IntWalk.i64_in _ (by omega)
    subst h0
    clear hC hsc hsa hsb h6'
    by_cases hix : 0 ≤ x ∧ x < a
    · have cx : ∀ W, Calls Try.prog 56 #[.int .i64 x, .int .i64 0, .int .i64 (a - 1)] W fun e w' => e = .returned (.bool true) ∧ W = w' := fun W => l01In_yes x 0 (a - 1) W hix.1 (by omega)
      by_cases hiy : 0 ≤ y ∧ y < b
      · have cy : ∀ W, Calls Try.prog 56 #[.int .i64 y, .int .i64 0, .int .i64 (b - 1)] W fun e w' => e = .returned (.bool true) ∧ W = w' := fun W => l01In_yes y 0 (b - 1) W hiy.1 (by omega)
        have hc0 : loC a b s.data.toList x y = 0 := by rw [HC0.out, if_pos ⟨hix.1, hix.2, hiy.1, hiy.2⟩]
        obtain ⟨j, j1, j2, j3⟩ := cell_on HSC.out hix.1 hix.2 hiy.1 hiy.2
        have hr : loR a b s.data.toList x y = j := loR_at j1 ⟨j2, j3⟩ hc0
        rw [hc0, hr]
        have HJ := Lib.hid (And.intro j1 (And.intro j2 j3))
        have hj64 : j < 64 := by rw [toList_len] at j1; exact Nat.lt_of_lt_of_le j1 (pow_le6' h6)
        clear hc0 hr j1 j2 j3 HC0
        go_enter Try.func20, Try.ntmps20
        go_wp2_with fail
        refine (hch _).mono ?_
        rintro e _ ⟨rfl, rfl⟩
        go_wp2_with fail
        refine (cx _).mono ?_
        rintro e _ ⟨rfl, rfl⟩
        go_wp2_with fail
        refine (cy _).mono ?_
        rintro e _ ⟨rfl, rfl⟩
        go_wp2_with fail
        refine (specLv_any a b s _ HSC.out).mono ?_
        rintro e w1 ⟨A, n, c, rfl, ho, hn, hb⟩
        have hr1 := ho.rd
        have HLN : Hid ((LVs s.data.toList).length = n) := Lib.hid hr1.1
        have hjn : j < n := by have h1 := HLN.out; rw [LVs_len] at h1; have := HJ.out.1; omega
        go_wp2_with fail
        go_loopw [14] (fun i wr => ∃ k : Nat, k ≤ j ∧ i = .int .i64 (k : Int) ∧ w1 = wr) (fun i _ => n - (intOf i).toNat)
        case atStart => exact ⟨0, Nat.zero_le _, rfl, rfl⟩
        case round =>
          obtain ⟨k, hk, rfl, rfl⟩ := hrel
          obtain ⟨g, o, v, rfl, _, hv, c0, c1, _, _⟩ := hr1.at_ (k := k) (by omega)
          obtain ⟨hkn, hvx, hvy⟩ := LVs_cell hv
          by_cases he : k = j
          · subst he
            have ex : v.x = x := by rw [hvx]; exact HJ.out.2.1
            have ey : v.y = y := by rw [hvy]; exact HJ.out.2.2
            rw [ex] at c0
            rw [ey] at c1
            clear hv hvx hvy ex ey hkn
            go_wp2_with fail
            go_ret2
            exact ⟨rfl, hb⟩
          · have hne : ¬ (v.x = x ∧ v.y = y) := fun h => he (cell_inj _ hkn HJ.out.1 (hvx.symm.trans (h.1.trans HJ.out.2.1.symm)) (hvy.symm.trans (h.2.trans HJ.out.2.2.symm)))
            obtain ⟨vx, vy, vfx, vfy⟩ := v
            simp only at hne c0 c1
            clear hv hvx hvy hkn
            by_cases hxx : vx = x
            · subst hxx
              have hyy : ¬ (vy = y) := fun h => hne ⟨rfl, h⟩
              have hyb : (vy != y) = true := by simpa using hyy
              clear hne
              go_wp2_with fail
              go_roundw
              case rel => exact ⟨k + 1, by omega, by go_num, by first | trivial | rfl⟩
              case measure => simp [intOf]; omega
            · have hxb : (vx != x) = true := by simpa using hxx
              clear hne
              go_wp2_with fail
              go_roundw
              case rel => exact ⟨k + 1, by omega, by go_num, by first | trivial | rfl⟩
              case measure => simp [intOf]; omega
      · have cy : ∀ W, Calls Try.prog 56 #[.int .i64 y, .int .i64 0, .int .i64 (b - 1)] W fun e w' => e = .returned (.bool false) ∧ W = w' := fun W => l01In_no y 0 (b - 1) W (by omega)
        have hc0 : loC a b s.data.toList x y = 2 := by rw [HC0.out, if_neg (by omega)]
        have hr : loR a b s.data.toList x y = 0 := by unfold loR; rw [if_neg (by rw [hc0]; decide)]
        rw [hc0, hr]
        clear hc0 hr HC0
        go_enter Try.func20, Try.ntmps20
        go_wp2_with fail
        refine (hch _).mono ?_
        rintro e _ ⟨rfl, rfl⟩
        go_wp2_with fail
        refine (cx _).mono ?_
        rintro e _ ⟨rfl, rfl⟩
        go_wp2_with fail
        refine (cy _).mono ?_
        rintro e _ ⟨rfl, rfl⟩
        go_wp2_with fail
        go_ret2
        exact ⟨rfl, Below.refl _ _⟩
    · have cx : ∀ W, Calls Try.prog 56 #[.int .i64 x, .int .i64 0, .int .i64 (a - 1)] W fun e w' => e = .returned (.bool false) ∧ W = w' := fun W => l01In_no x 0 (a - 1) W (by omega)
      have hc0 : loC a b s.data.toList x y = 2 := by rw [HC0.out, if_neg (by omega)]
      have hr : loR a b s.data.toList x y = 0 := by unfold loR; rw [if_neg (by rw [hc0]; decide)]
      rw [hc0, hr]
      clear hc0 hr HC0
      go_enter Try.func20, Try.ntmps20
      go_wp2_with fail
      refine (hch _).mono ?_
      rintro e _ ⟨rfl, rfl⟩
      go_wp2_with fail
      refine (cx _).mono ?_
      rintro e _ ⟨rfl, rfl⟩
      go_wp2_with fail
      go_ret2
      exact ⟨rfl, Below.refl _ _⟩
  · have HC0 : Hid (loC a b s.data.toList x y = C) := by unfold loC; rw [if_neg (by rw [← hC]; exact h0)]; exact Lib.hid hC.symm
    have HR : Hid (loR a b s.data.toList x y = 0) := by unfold loR; rw [if_neg (by rw [HC0.out]; exact h0)]; exact Lib.hid rfl
    rw [HC0.out, HR.out]
    clear hC
    go_enter Try.func20, Try.ntmps20
    go_wp2_with fail
    refine (hch _).mono ?_
    rintro e _ ⟨rfl, rfl⟩
    go_wp2_with fail
    go_ret2
    exact ⟨rfl, Below.refl _ _⟩
end Go.Proofs.Ytcagljdebplmcaa
