/- Contracts of the model's IsCatalogue, l12Code, BestKind and DensityBound. -/
import Derived.Test.YtbhofhobnbhhhaaDoorBcMath
import Derived.Deep.RegionHeld3
import Derived.BigQuiet
import Derived.Deep.QuietTactic
import Derived.OwnWalk
namespace Go.Proofs.YtbhofhobnbhhhaaDoor
open Go.RowKit
set_option linter.unusedVariables false

theorem specKs_any (w0 h0 : Int) (b : Bool) (w : World) (hb : Bc.okS w0 h0 = b) :
    Calls Tryd.prog 59 #[.int .i64 w0, .int .i64 h0] w fun e w' => e = .returned (.bool b) ∧ w = w' := by
  have HB := Lib.hid hb
  clear hb
  by_cases h1 : 1 ≤ w0 ∧ w0 ≤ 40
  · have hi := fun W => l01In_yes w0 1 40 W h1.1 h1.2
    by_cases h2 : 1 ≤ h0 ∧ h0 ≤ 40
    · have hj := fun W => l01In_yes h0 1 40 W h2.1 h2.2
      have HE : Hid (b = true) := Lib.hid (by rw [← HB.out]; exact Bc.okS_iff.2 ⟨h1, h2⟩)
      clear h1 h2
      go_enter Tryd.func59, Tryd.ntmps59
      go_wp2_with fail
      refine (hi _).mono ?_
      rintro e _ ⟨rfl, rfl⟩
      go_wp2_with fail
      refine (hj _).mono ?_
      rintro e _ ⟨rfl, rfl⟩
      go_wp2_with fail
      go_ret
      exact ⟨ret_b HE.out.symm, rfl⟩
    · have hj := fun W => l01In_no h0 1 40 W (by omega)
      have HE : Hid (b = false) := Lib.hid (by rw [← HB.out]; unfold Bc.okS; rw [decide_eq_false h2, Bool.and_false])
      clear h1 h2
      go_enter Tryd.func59, Tryd.ntmps59
      go_wp2_with fail
      refine (hi _).mono ?_
      rintro e _ ⟨rfl, rfl⟩
      go_wp2_with fail
      refine (hj _).mono ?_
      rintro e _ ⟨rfl, rfl⟩
      go_wp2_with fail
      go_ret
      exact ⟨ret_b HE.out.symm, rfl⟩
  · have hi := fun W => l01In_no w0 1 40 W (by omega)
    have HE : Hid (b = false) := Lib.hid (by rw [← HB.out]; unfold Bc.okS; rw [decide_eq_false h1, Bool.false_and])
    clear h1
    go_enter Tryd.func59, Tryd.ntmps59
    go_wp2_with fail
    refine (hi _).mono ?_
    rintro e _ ⟨rfl, rfl⟩
    go_wp2_with fail
    go_ret
    exact ⟨ret_b HE.out.symm, rfl⟩

set_option maxRecDepth 100000 in
set_option maxHeartbeats 2000000 in
theorem specKl_any (A : Option Addr) (n c B : Nat) (l : List Kd) (b : Bool) (w : World) (h : RdS Kd.S w B A n l) (hB : B ≤ w.heap.size) (hn : n ≤ 1048577) (hb : Bc.okL l = b) :
    Calls Tryd.prog 22 #[.slice A n c] w fun e w' => e = .returned (.bool b) ∧ Below w.heap.size w w' := by
  have HL := Lib.hid h.1
  have HO := Lib.hid hb
  clear hb
  go_enter Tryd.func22, Tryd.ntmps22
  go_wp2_with fail
  go_loopw [3] (fun i wr => ∃ k : Nat, k ≤ n ∧ i = .int .i64 k ∧ Hid (∀ j y, j < k → l[j]? = some y → Bc.okK y = true) ∧ Below w.heap.size w wr) (fun i _ => n - (intOf i).toNat)
  case atStart => exact ⟨0, Nat.zero_le _, rfl, Lib.hid (by intro j y h; omega), Below.refl _ _⟩
  case round =>
    obtain ⟨k, hk, rfl, HK, hb⟩ := hrel
    have hz := hb.size
    by_cases hlt : k < n
    · obtain ⟨b1, o, x, rfl, hbB, hx, c0, c1, c2⟩ := (h.below hb hB).at_Kd hlt
      have HX := Lib.hid hx
      clear hx
      have hb5 : Below w.heap.size w (wr.alloc (.cells #[.int .i64 x.w, .int .i64 x.h, .int .i64 x.v] 42)) := hb.alloc hz _
      obtain ⟨d, hd⟩ : ∃ d, Bc.okS x.w x.h = d := ⟨_, rfl⟩
      have hs := fun W => specKs_any x.w x.h d W hd
      have HD := Lib.hid hd
      clear hd
      cases d
      · have HE : Hid (b = false) := Lib.hid (by rw [← HO.out]; exact Bc.okL_at HX.out (by unfold Bc.okK; rw [HD.out, Bool.false_and]))
        go_wp2_with fail
        refine (hs _).mono ?_
        rintro e _ ⟨rfl, rfl⟩
        go_wp2_with fail
        go_ret
        exact ⟨ret_b HE.out.symm, hb5⟩
      · by_cases hv : 0 ≤ x.v ∧ x.v ≤ 1000
        · have hi := fun W => l01In_yes x.v 0 1000 W hv.1 hv.2
          have HKX : Hid (Bc.okK x = true) := Lib.hid (by unfold Bc.okK; rw [HD.out, decide_eq_true hv]; rfl)
          clear hv
          go_wp2_with fail
          refine (hs _).mono ?_
          rintro e _ ⟨rfl, rfl⟩
          go_wp2_with fail
          refine (hi _).mono ?_
          rintro e _ ⟨rfl, rfl⟩
          go_wp2_with fail
          go_roundw
          case rel =>
            refine ⟨k + 1, by omega, by go_num, Lib.hid fun j y hj hy => ?_, hb5⟩
            by_cases he : j = k
            · subst he
              have := HX.out.symm.trans hy
              injection this with this
              rw [← this]
              exact HKX.out
            · exact HK.out j y (by omega) hy
          case measure => simp [intOf]; omega
        · have hi := fun W => l01In_no x.v 0 1000 W (by omega)
          have HE : Hid (b = false) := Lib.hid (by rw [← HO.out]; exact Bc.okL_at HX.out (by unfold Bc.okK; rw [decide_eq_false hv, Bool.and_false]))
          clear hv
          go_wp2_with fail
          refine (hs _).mono ?_
          rintro e _ ⟨rfl, rfl⟩
          go_wp2_with fail
          refine (hi _).mono ?_
          rintro e _ ⟨rfl, rfl⟩
          go_wp2_with fail
          go_ret
          exact ⟨ret_b HE.out.symm, hb5⟩
    · obtain rfl : k = n := by omega
      have HE := Lib.hid (Bc.okL_end HL.out HK.out)
      by_cases h1 : 1 ≤ k
      · have h1I : (1 : Int) ≤ k := by omega
        by_cases h6 : k ≤ 6
        · have h6I : (k : Int) ≤ 6 := by omega
          go_wp2_with fail
          go_ret
          exact ⟨ret_b (by rw [← HO.out, HE.out]; simp; omega), hb⟩
        · have h6I : ((k : Int) ≤ 6) = False := eq_false (by omega)
          have h6J : ¬ (k : Int) ≤ 6 := by omega
          go_wp2_with fail
          go_ret
          exact ⟨ret_b (by rw [← HO.out, HE.out]; simp; omega), hb⟩
      · obtain rfl : k = 0 := by omega
        go_wp2_with fail
        go_ret
        exact ⟨ret_b (by rw [← HO.out, HE.out]; rfl), hb⟩

theorem specKc_any (w0 h0 : Int) (A : Option Addr) (n c B : Nat) (l : List Kd) (C : Int) (w : World) (h : RdS Kd.S w B A n l) (hB : B ≤ w.heap.size) (hn : n ≤ 1048577) (hC : Bc.code w0 h0 l = C) :
    Calls Tryd.prog 52 #[.int .i64 w0, .int .i64 h0, .slice A n c] w fun e w' => e = .returned (.int .i64 C) ∧ Below w.heap.size w w' := by
  obtain ⟨d, hd⟩ : ∃ d, Bc.okL l = d := ⟨_, rfl⟩
  obtain ⟨s, hs⟩ : ∃ s, Bc.okS w0 h0 = s := ⟨_, rfl⟩
  have hl := specKl_any A n c B l d w h hB hn hd
  have hs2 := fun W => specKs_any w0 h0 s W hs
  have HC : Hid (C = if d then (if s then 0 else 2) else 1) := Lib.hid (by rw [← hC]; unfold Bc.code; rw [hd, hs])
  clear hC hd hs
  cases d
  · go_enter Tryd.func52, Tryd.ntmps52
    go_wp2_with fail
    refine hl.mono ?_
    rintro e w1 ⟨rfl, hb1⟩
    go_wp2_with fail
    go_ret
    exact ⟨by rw [HC.out]; rfl, hb1⟩
  · cases s
    all_goals
      go_enter Tryd.func52, Tryd.ntmps52
      go_wp2_with fail
      refine hl.mono ?_
      rintro e w1 ⟨rfl, hb1⟩
      go_wp2_with fail
      refine (hs2 _).mono ?_
      rintro e _ ⟨rfl, rfl⟩
      go_wp2_with fail
      go_ret
      exact ⟨by rw [HC.out]; rfl, hb1⟩
end Go.Proofs.YtbhofhobnbhhhaaDoor
