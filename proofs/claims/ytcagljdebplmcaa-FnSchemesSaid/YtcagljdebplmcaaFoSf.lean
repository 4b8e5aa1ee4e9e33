/- Contracts of the model's FoldSheet and FacesDown. -/
import Derived.Test.YtcagljdebplmcaaFoLs
namespace Go.Proofs.Ytcagljdebplmcaa
open Go.RowKit

set_option maxRecDepth 100000 in
set_option maxHeartbeats 1000000 in
theorem specFo_any (a b : Int) (s : ByteArray) (w : World) (hs : s.size ≤ 1048577) :
    Calls Try.prog 17 #[.int .i64 a, .int .i64 b, .string s] w fun e w' => VC w (foR a b s.data.toList) (Fo.code a b s.data.toList) e w' := by
  obtain ⟨C, hC⟩ : ∃ C, C = Fo.code a b s.data.toList := ⟨_, rfl⟩
  rw [← hC]
  have hch : ∀ W, Calls Try.prog 51 #[.int .i64 a, .int .i64 b, .string s] W fun e w' => e = .returned (.int .i64 C) ∧ W = w' := fun W => by rw [hC]; exact specCode_any a b s W hs
  by_cases h0 : C = 0
  · have HSC := Lib.hid (Fo.code_zero (show Fo.code a b s.data.toList = 0 by rw [← hC, h0]))
    have HR : Hid (foR a b s.data.toList = LVs s.data.toList) := by unfold foR; rw [if_pos (by rw [← hC, h0])]; exact Lib.hid rfl
    subst h0
    clear hC
    go_enter Try.func17, Try.ntmps17
    go_wp2_with fail
    refine (hch _).mono ?_
    rintro e _ ⟨rfl, rfl⟩
    go_wp2_with fail
    refine (specLv_any a b s _ HSC.out).mono ?_
    rintro e w1 ⟨A, n, c, rfl, ho, hn, hb⟩
    go_wp2_with fail
    go_ret2
    exact VC.mk_ HR.out rfl ho (Nat.le_refl _) (Nat.le_refl _) hn hb
  · have HR : Hid (foR a b s.data.toList = []) := by unfold foR; rw [if_neg (by rw [← hC]; exact h0)]; exact Lib.hid rfl
    clear hC
    go_enter Try.func17, Try.ntmps17
    go_wp2_with fail
    refine (hch _).mono ?_
    rintro e _ ⟨rfl, rfl⟩
    go_wp2_with fail
    go_ret2
    exact VC.nil_ HR.out rfl (Below.refl _ _)

set_option maxRecDepth 100000 in
set_option maxHeartbeats 1000000 in
theorem specFd_any (a b : Int) (s : ByteArray) (w : World) (hs : s.size ≤ 1048577) :
    Calls Try.prog 22 #[.int .i64 a, .int .i64 b, .string s] w fun e w' => e = .returned (.tuple #[.int .i64 (fdR a b s.data.toList : Int), .int .i64 (Fo.code a b s.data.toList)]) ∧ Below w.heap.size w w' := by
  obtain ⟨C, hC⟩ : ∃ C, C = Fo.code a b s.data.toList := ⟨_, rfl⟩
  have HZ : Hid (¬ C = 0 → fdR a b s.data.toList = 0) := Lib.hid fun h => by
    unfold fdR foR
    rw [if_neg (by rw [← hC]; exact h)]
    rfl
  have hch : ∀ W, Calls Try.prog 51 #[.int .i64 a, .int .i64 b, .string s] W fun e w' => e = .returned (.int .i64 C) ∧ W = w' := fun W => by rw [hC]; exact specCode_any a b s W hs
  rw [← hC]
  by_cases h0 : C = 0
  · have HSC := Lib.hid (Fo.code_zero (show Fo.code a b s.data.toList = 0 by rw [← hC, h0]))
    have HF : Hid (fdR a b s.data.toList = (LVs s.data.toList).countP Lv.down) := by unfold fdR foR; rw [if_pos (by rw [← hC, h0])]; exact Lib.hid rfl
    subst h0
    clear hC
    go_enter Try.func22, Try.ntmps22
    go_wp2_with fail
    refine (hch _).mono ?_
    rintro e _ ⟨rfl, rfl⟩
    go_wp2_with fail
    refine (specLv_any a b s _ HSC.out).mono ?_
    rintro e w1 ⟨A, n, c, rfl, ho, hn, hb⟩
    have hr := ho.rd
    have hz := hb.size
    have HL := Lib.hid hr.1
    go_wp2_with fail
    go_loopw [10, 11] (fun u i wr => ∃ k m : Nat, k ≤ n ∧ m ≤ k ∧ i = .int .i64 k ∧ u = .int .i64 (m : Int) ∧ Hid (m = ((LVs s.data.toList).take k).countP Lv.down) ∧ Below w1.heap.size w1 wr) (fun _ i _ => n - (intOf i).toNat)
    case atStart => exact ⟨0, 0, Nat.zero_le _, Nat.le_refl _, rfl, rfl, Lib.hid (by simp), Below.refl _ _⟩
    case round =>
      obtain ⟨k, m, hk, hm, rfl, rfl, HM, hb1⟩ := hrel
      have hz1 := hb1.size
      by_cases hlt : k < n
      · obtain ⟨b', o, x, rfl, hbB, hx, c0, c1, c2, c3⟩ := (hr.below hb1 (Nat.le_refl _)).at_ hlt
        have HN := Lib.hid (cp_next _ k x hx)
        clear hx
        obtain ⟨d, hd⟩ : ∃ d, d = x.down := ⟨_, rfl⟩
        have hdw : ∀ W, Calls Try.prog 58 #[x.agg] W fun e w' => e = .returned (.bool d) ∧ Below W.heap.size W w' := fun W => by rw [hd]; exact specDown_any x W
        have HD := Lib.hid hd
        clear hd
        go_wp2_with fail
        refine (hdw _).mono ?_
        rintro e w5 ⟨rfl, hb5⟩
        have HB6 := Lib.hid (hb1.trans (hb5.mono hz1))
        clear hb5
        cases d
        · go_wp2_with fail
          go_roundw
          case rel => exact ⟨k + 1, m, by omega, by omega, by go_num, rfl, Lib.hid (by rw [HN.out, ← HM.out, ← HD.out]; simp), HB6.out⟩
          case measure => simp [intOf]; omega
        · go_wp2_with fail
          go_roundw
          case rel => exact ⟨k + 1, m + 1, by omega, by omega, by go_num, by go_num, Lib.hid (by rw [HN.out, ← HM.out, ← HD.out]; simp), HB6.out⟩
          case measure => simp [intOf]; omega
      · obtain rfl : k = n := by omega
        have HE : Hid (fdR a b s.data.toList = m) := by
          rw [HF.out, HM.out, List.take_of_length_le (Nat.le_of_eq HL.out)]
          exact Lib.hid rfl
        go_wp2
        go_ret2
        rw [HE.out]
        exact ⟨rfl, hb.trans (hb1.mono hz)⟩
  · have HE := Lib.hid (HZ.out h0)
    clear hC
    go_enter Try.func22, Try.ntmps22
    go_wp2_with fail
    refine (hch _).mono ?_
    rintro e _ ⟨rfl, rfl⟩
    go_wp2_with fail
    go_ret2
    rw [HE.out]
    exact ⟨rfl, Below.refl _ _⟩
end Go.Proofs.Ytcagljdebplmcaa
