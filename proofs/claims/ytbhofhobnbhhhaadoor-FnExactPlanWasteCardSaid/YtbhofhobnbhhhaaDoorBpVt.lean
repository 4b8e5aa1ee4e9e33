/- The program's contracts of IsCatalogue, its codes, its kinds. -/
import Derived.Test.YtbhofhobnbhhhaaDoorBcKi
import Derived.Test.YtbhofhobnbhhhaaDoorPc
namespace Go.Proofs.YtbhofhobnbhhhaaDoor
open Go.RowKit
set_option linter.unusedVariables false

abbrev Bc.i64 (r : Int) : Prop := -9223372036854775808 ≤ r ∧ r ≤ 9223372036854775807
theorem tabSide_any (x : Int) (b : Bool) (w : World) (hb : decide (1 ≤ x ∧ x ≤ 40) = b) :
    Calls Tryd.prog 76 #[.int .i64 x] w fun e w' => e = .returned (.bool b) ∧ w = w' := by
  by_cases h1 : 1 ≤ x
  · by_cases h2 : x ≤ 40
    · obtain rfl : b = true := by rw [← hb]; exact decide_eq_true ⟨h1, h2⟩
      clear hb
      go_enter Tryd.func76, Tryd.ntmps76
      go_wp2_with fail
      go_ret
      exact ⟨rfl, rfl⟩
    · obtain rfl : b = false := by rw [← hb]; exact decide_eq_false (by omega)
      have h3 : (x ≤ 40) = False := eq_false h2
      clear hb h2
      go_enter Tryd.func76, Tryd.ntmps76
      go_wp2_with fail
      go_ret
      exact ⟨ret_b (by simp), rfl⟩
  · obtain rfl : b = false := by rw [← hb]; exact decide_eq_false (by omega)
    have h3 : (1 ≤ x) = False := eq_false h1
    clear hb h1
    go_enter Tryd.func76, Tryd.ntmps76
    go_wp2_with fail
    go_ret
    exact ⟨rfl, rfl⟩
theorem fits_any (x : Kd) (p : Pc) (b : Bool) (w : World) (hb : decide (x.w ≤ p.w ∧ x.h ≤ p.h) = b) :
    Calls Tryd.prog 92 #[x.agg, p.agg] w fun e w' => e = .returned (.bool b) ∧ Below w.heap.size w w' := by
  have hb2 : Below w.heap.size w ((w.alloc (.cells #[.int .i64 x.w, .int .i64 x.h, .int .i64 x.v] 42)).alloc (.cells #[.int .i64 p.w, .int .i64 p.h] 67)) := ((Below.refl _ _).alloc (Nat.le_refl _) _).alloc (by simp) _
  by_cases h1 : x.w ≤ p.w
  · by_cases h2 : x.h ≤ p.h
    · obtain rfl : b = true := by rw [← hb]; exact decide_eq_true ⟨h1, h2⟩
      clear hb
      go_enter Tryd.func92, Tryd.ntmps92
      go_wp2_with fail
      go_ret
      exact ⟨rfl, hb2⟩
    · obtain rfl : b = false := by rw [← hb]; exact decide_eq_false (by omega)
      have h3 : (x.h ≤ p.h) = False := eq_false h2
      clear hb h2
      go_enter Tryd.func92, Tryd.ntmps92
      go_wp2_with fail
      go_ret
      exact ⟨ret_b (by simp), hb2⟩
  · obtain rfl : b = false := by rw [← hb]; exact decide_eq_false (by omega)
    have h3 : (x.w ≤ p.w) = False := eq_false h1
    clear hb h1
    go_enter Tryd.func92, Tryd.ntmps92
    go_wp2_with fail
    go_ret
    exact ⟨ret_b (by simp), hb2⟩
theorem kArea_any (x : Kd) (a : Int) (w : World) (hx : Bc.okK x = true) (ha : x.w * x.h = a) :
    Calls Tryd.prog 57 #[x.agg] w fun e w' => e = .returned (.int .i64 a) ∧ Below w.heap.size w w' := by
  have hb2 : Below w.heap.size w (w.alloc (.cells #[.int .i64 x.w, .int .i64 x.h, .int .i64 x.v] 42)) := (Below.refl _ _).alloc (Nat.le_refl _) _
  have hk := Bc.okK_iff.1 hx
  have hm := Bc.mul_bd (a := x.w) (b := x.h) (m := 40) (n := 40) (by omega) (by omega)
  have wa : IntKind.i64.wrap (x.w * x.h) = a := by rw [← ha]; exact IntWalk.i64_in _ (by omega)
  clear ha hk hm
  go_enter Tryd.func57, Tryd.ntmps57
  go_wp2_with fail
  go_ret
  exact ⟨rfl, hb2⟩
theorem gridValue_any (x : Kd) (p : Pc) (v : Int) (w : World) (hs : Bc.okS p.w p.h = true) (hx : Bc.okK x = true) (hv : Bc.kv p.w p.h x = v) :
    Calls Tryd.prog 56 #[x.agg, p.agg] w fun e w' => e = .returned (.int .i64 v) ∧ Below w.heap.size w w' := by
  have hb2 : Below w.heap.size w ((w.alloc (.cells #[.int .i64 x.w, .int .i64 x.h, .int .i64 x.v] 42)).alloc (.cells #[.int .i64 p.w, .int .i64 p.h] 67)) := ((Below.refl _ _).alloc (Nat.le_refl _) _).alloc (by simp) _
  have hxb := Bc.okK_iff.1 hx
  have hws := Bc.okS_iff.1 hs
  obtain ⟨k1, k2, k3, k4⟩ := Bc.kv_bd hs hx
  obtain ⟨a, ha⟩ : ∃ a, p.w / x.w = a := ⟨_, rfl⟩
  obtain ⟨d, hd⟩ : ∃ d, p.h / x.h = d := ⟨_, rfl⟩
  obtain ⟨m, hm⟩ : ∃ m, a * d = m := ⟨_, rfl⟩
  have hmv : m * x.v = v := by rw [← hv]; unfold Bc.kv; rw [ha, hd, hm]
  rw [ha] at k1
  rw [hd] at k2
  rw [ha, hd, hm] at k3
  rw [hv] at k4
  have ta : p.w.tdiv x.w = a := by rw [← ha]; exact Int.tdiv_eq_ediv_of_nonneg (by omega)
  have td : p.h.tdiv x.h = d := by rw [← hd]; exact Int.tdiv_eq_ediv_of_nonneg (by omega)
  have wa : IntKind.i64.wrap a = a := IntWalk.i64_in _ (by omega)
  have wd : IntKind.i64.wrap d = d := IntWalk.i64_in _ (by omega)
  have wm : IntKind.i64.wrap (a * d) = m := by rw [hm]; exact IntWalk.i64_in _ (by omega)
  have wv : IntKind.i64.wrap (m * x.v) = v := by rw [hmv]; exact IntWalk.i64_in _ (by omega)
  have z1 : ¬ x.w = 0 := by omega
  have z2 : ¬ x.h = 0 := by omega
  clear hx hxb hws k1 k2 k3 k4 hv ha hd hm hmv hs
  go_enter Tryd.func56, Tryd.ntmps56
  go_wp2_with fail
  go_quiet (fail)
  have HB6 := Lib.hid (below_drewN' hb2 nq)
  go_wp2_with fail
  go_ret
  exact ⟨rfl, HB6.out⟩
set_option maxRecDepth 100000 in
set_option maxHeartbeats 2000000 in
theorem valid12_any (A : Option Addr) (n c B : Nat) (l : List Kd) (b : Bool) (w : World) (h : RdS Kd.S w B A n l) (hB : B ≤ w.heap.size) (hn : n ≤ 1048577) (hb : Bc.okL l = b) :
    Calls Tryd.prog 58 #[.slice A n c] w fun e w' => e = .returned (.bool b) ∧ Below w.heap.size w w' := by
  have HL := Lib.hid h.1
  have HO := Lib.hid hb
  clear hb
  by_cases h1 : n < 1
  · obtain rfl : n = 0 := by omega
    have HE : Hid (b = false) := Lib.hid (by rw [← HO.out]; unfold Bc.okL; rw [HL.out]; simp)
    go_enter Tryd.func58, Tryd.ntmps58
    go_wp2_with fail
    go_ret
    exact ⟨ret_b HE.out.symm, Below.refl _ _⟩
  · have g1 : ((n : Int) < 1) = False := eq_false (by omega)
    by_cases h6 : 6 < n
    · have g6 : (6 : Int) < (n : Int) := by omega
      have HE : Hid (b = false) := Lib.hid (by rw [← HO.out]; unfold Bc.okL; rw [HL.out, decide_eq_false (by omega), Bool.and_false])
      go_enter Tryd.func58, Tryd.ntmps58
      go_wp2_with fail
      go_ret
      exact ⟨ret_b HE.out.symm, Below.refl _ _⟩
    · have g6 : ((6 : Int) < (n : Int)) = False := eq_false (by omega)
      have hn6 : n ≤ 6 := by omega
      have hn1 : 1 ≤ n := by omega
      clear h1 h6
      go_enter Tryd.func58, Tryd.ntmps58
      go_wp2_with fail
      go_loopw [15] (fun i wr => ∃ k : Nat, k ≤ n ∧ i = .int .i64 k ∧ Hid (∀ j y, j < k → l[j]? = some y → Bc.okK y = true) ∧ Below w.heap.size w wr) (fun i _ => n - (intOf i).toNat)
      case atStart => exact ⟨0, Nat.zero_le _, rfl, Lib.hid (by intro j y h; omega), Below.refl _ _⟩
      case round =>
        obtain ⟨k, hk, rfl, HK, hb⟩ := hrel
        have hz := hb.size
        by_cases hlt : k < n
        · obtain ⟨b1, o, x, rfl, hbB, hx, c0, c1, c2⟩ := (h.below hb hB).at_Kd hlt
          have HX := Lib.hid hx
          clear hx
          have hltI : (k : Int) < (n : Int) := by omega
          have hb5 : Below w.heap.size w (wr.alloc (.cells #[.int .i64 x.w, .int .i64 x.h, .int .i64 x.v] 42)) := hb.alloc hz _
          obtain ⟨d, hd⟩ : ∃ d, decide (1 ≤ x.w ∧ x.w ≤ 40) = d := ⟨_, rfl⟩
          obtain ⟨d2, hd2⟩ : ∃ d, decide (1 ≤ x.h ∧ x.h ≤ 40) = d := ⟨_, rfl⟩
          have hs := fun W => tabSide_any x.w d W hd
          have hs2 := fun W => tabSide_any x.h d2 W hd2
          have HD := Lib.hid hd
          have HD2 := Lib.hid hd2
          clear hd hd2
          cases d
          · have HE : Hid (b = false) := Lib.hid (by rw [← HO.out]; exact Bc.okL_at HX.out (by unfold Bc.okK Bc.okS; rw [HD.out]; rfl))
            go_wp2_with fail
            refine (hs _).mono ?_
            rintro e _ ⟨rfl, rfl⟩
            go_wp2_with fail
            go_ret
            exact ⟨ret_b HE.out.symm, hb5⟩
          · cases d2
            · have HE : Hid (b = false) := Lib.hid (by rw [← HO.out]; exact Bc.okL_at HX.out (by unfold Bc.okK Bc.okS; rw [HD.out, HD2.out]; rfl))
              go_wp2_with fail
              refine (hs _).mono ?_
              rintro e _ ⟨rfl, rfl⟩
              go_wp2_with fail
              refine (hs2 _).mono ?_
              rintro e _ ⟨rfl, rfl⟩
              go_wp2_with fail
              go_ret
              exact ⟨ret_b HE.out.symm, hb5⟩
            · by_cases hv : x.v < 0
              · have HE : Hid (b = false) := Lib.hid (by rw [← HO.out]; exact Bc.okL_at HX.out (by unfold Bc.okK; rw [decide_eq_false (by omega), Bool.and_false]))
                go_wp2_with fail
                refine (hs _).mono ?_
                rintro e _ ⟨rfl, rfl⟩
                go_wp2_with fail
                refine (hs2 _).mono ?_
                rintro e _ ⟨rfl, rfl⟩
                go_wp2_with fail
                go_ret
                exact ⟨ret_b HE.out.symm, hb5⟩
              · have g0 : (x.v < 0) = False := eq_false hv
                by_cases hv2 : 1000 < x.v
                · have HE : Hid (b = false) := Lib.hid (by rw [← HO.out]; exact Bc.okL_at HX.out (by unfold Bc.okK; rw [decide_eq_false (by omega), Bool.and_false]))
                  clear hv
                  go_wp2_with fail
                  refine (hs _).mono ?_
                  rintro e _ ⟨rfl, rfl⟩
                  go_wp2_with fail
                  refine (hs2 _).mono ?_
                  rintro e _ ⟨rfl, rfl⟩
                  go_wp2_with fail
                  go_ret
                  exact ⟨ret_b HE.out.symm, hb5⟩
                · have HKX : Hid (Bc.okK x = true) := Lib.hid (by unfold Bc.okK Bc.okS; rw [HD.out, HD2.out, decide_eq_true (by omega)]; rfl)
                  have g2 : (1000 < x.v) = False := eq_false hv2
                  clear hv hv2
                  go_wp2_with fail
                  refine (hs _).mono ?_
                  rintro e _ ⟨rfl, rfl⟩
                  go_wp2_with fail
                  refine (hs2 _).mono ?_
                  rintro e _ ⟨rfl, rfl⟩
                  go_wp2_with fail
                  go_roundw
                  case rel =>
                    refine ⟨k + 1, by omega, by go_num, Lib.hid fun j y hj hy => ?_, hb5⟩
                    by_cases he : j = k
                    · subst he
                      have := HX.out.symm.trans hy
                      injection this with this
                      rw [← this]
                      exact HKX.out
                    · exact HK.out j y (by omega) hy
                  case measure => simp [intOf]; omega
        · obtain rfl : k = n := by omega
          have HE := Lib.hid (Bc.okL_end HL.out HK.out)
          go_wp2_with fail
          go_ret
          exact ⟨ret_b (by rw [← HO.out, HE.out]; simp; omega), hb⟩
theorem implKl_any (A : Option Addr) (n c B : Nat) (l : List Kd) (b : Bool) (w : World) (h : RdS Kd.S w B A n l) (hB : B ≤ w.heap.size) (hn : n ≤ 1048577) (hc : n ≤ c) (hb : Bc.okL l = b) :
    Calls Tryd.prog 21 #[.slice A n c] w fun e w' => e = .returned (.bool b) ∧ Below w.heap.size w w' := by
  have hv := valid12_any A n c B l b w h hB hn hb
  go_enter Tryd.func21, Tryd.ntmps21
  go_wp2_with fail
  refine hv.mono ?_
  rintro e w1 ⟨rfl, hb1⟩
  go_wp2_with fail
  go_ret
  exact ⟨rfl, hb1⟩
theorem checkCut_any (w0 h0 : Int) (A : Option Addr) (n c B : Nat) (l : List Kd) (C : Int) (w : World) (h : RdS Kd.S w B A n l) (hB : B ≤ w.heap.size) (hn : n ≤ 1048577) (hc : n ≤ c) (hC : Bc.code w0 h0 l = C) :
    Calls Tryd.prog 49 #[.int .i64 w0, .int .i64 h0, .slice A n c] w fun e w' => e = .returned (.int .i64 C) ∧ Below w.heap.size w w' := by
  obtain ⟨d, hd⟩ : ∃ d, Bc.okL l = d := ⟨_, rfl⟩
  obtain ⟨s, hs⟩ : ∃ s, decide (1 ≤ w0 ∧ w0 ≤ 40) = s := ⟨_, rfl⟩
  obtain ⟨t, ht⟩ : ∃ s, decide (1 ≤ h0 ∧ h0 ≤ 40) = s := ⟨_, rfl⟩
  have hl := implKl_any A n c B l d w h hB hn hc hd
  have hs2 := fun W => tabSide_any w0 s W hs
  have ht2 := fun W => tabSide_any h0 t W ht
  have HC : Hid (C = if d then (if (s && t) then 0 else 2) else 1) := Lib.hid (by rw [← hC]; unfold Bc.code Bc.okS; rw [hd, hs, ht])
  clear hC hd hs ht
  cases d
  · go_enter Tryd.func49, Tryd.ntmps49
    go_wp2_with fail
    refine hl.mono ?_
    rintro e w1 ⟨rfl, hb1⟩
    go_wp2_with fail
    go_ret
    exact ⟨by rw [HC.out]; rfl, hb1⟩
  · cases s
    · go_enter Tryd.func49, Tryd.ntmps49
      go_wp2_with fail
      refine hl.mono ?_
      rintro e w1 ⟨rfl, hb1⟩
      go_wp2_with fail
      refine (hs2 _).mono ?_
      rintro e _ ⟨rfl, rfl⟩
      go_wp2_with fail
      go_ret
      exact ⟨by rw [HC.out]; rfl, hb1⟩
    · cases t
      all_goals
        go_enter Tryd.func49, Tryd.ntmps49
        go_wp2_with fail
        refine hl.mono ?_
        rintro e w1 ⟨rfl, hb1⟩
        go_wp2_with fail
        refine (hs2 _).mono ?_
        rintro e _ ⟨rfl, rfl⟩
        go_wp2_with fail
        refine (ht2 _).mono ?_
        rintro e _ ⟨rfl, rfl⟩
        go_wp2_with fail
        go_ret
        exact ⟨by rw [HC.out]; rfl, hb1⟩
end Go.Proofs.YtbhofhobnbhhhaaDoor
