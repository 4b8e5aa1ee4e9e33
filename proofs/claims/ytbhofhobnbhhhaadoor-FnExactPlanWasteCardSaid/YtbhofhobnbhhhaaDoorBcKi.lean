/- Contracts of the model's BestKind and DensityBound. -/
import Derived.Test.YtbhofhobnbhhhaaDoorBcIm
namespace Go.Proofs.YtbhofhobnbhhhaaDoor
open Go.RowKit
set_option linter.unusedVariables false

set_option maxRecDepth 100000 in
set_option maxHeartbeats 4000000 in
theorem specKb_any (w0 h0 : Int) (A : Option Addr) (n c B : Nat) (l : List Kd) (R V C : Int) (w : World) (h : RdS Kd.S w B A n l) (hB : B ≤ w.heap.size) (hn : n ≤ 1048577) (hR : Bc.bkI w0 h0 l = R) (hV : Bc.bkV w0 h0 l = V) (hC : Bc.code w0 h0 l = C) :
    Calls Tryd.prog 18 #[.int .i64 w0, .int .i64 h0, .slice A n c] w fun e w' => e = .returned (.tuple #[.int .i64 R, .int .i64 V, .int .i64 C]) ∧ Below w.heap.size w w' := by
  have HL := Lib.hid h.1
  have hco := specKc_any w0 h0 A n c B l C w h hB hn hC
  by_cases hc0 : C = 0
  · subst hc0
    obtain ⟨hok, hos⟩ := Bc.code0 hC
    have HOK := Lib.hid (Bc.okL_iff.1 hok)
    have HOS := Lib.hid hos
    have HR : Hid ((Bc.bkT w0 h0 l n).1 = R) := Lib.hid (by rw [← hR]; unfold Bc.bkI; rw [if_pos hC, h.1])
    have HV : Hid ((Bc.bkT w0 h0 l n).2 = V) := Lib.hid (by rw [← hV]; unfold Bc.bkV; rw [if_pos hC, h.1])
    clear hR hV hC hok hos
    go_enter Tryd.func18, Tryd.ntmps18
    go_wp2_with fail
    refine hco.mono ?_
    rintro e w1 ⟨rfl, hb1⟩
    clear hco
    go_wp2_with fail
    go_loopw [10, 11, 12] (fun p q i wr => ∃ (k : Nat) (bi bv : Int), k ≤ n ∧ i = .int .i64 k ∧ p = .int .i64 bi ∧ q = .int .i64 bv ∧ Hid (Bc.bkT w0 h0 l k = (bi, bv)) ∧ Below w.heap.size w wr) (fun _ _ i _ => n - (intOf i).toNat)
    case atStart => exact ⟨0, 0, -1, Nat.zero_le _, rfl, rfl, rfl, Lib.hid rfl, hb1⟩
    case round =>
      clear hb1
      obtain ⟨k, bi, bv, hk, rfl, rfl, rfl, HT, hb⟩ := hrel
      have hz := hb.size
      by_cases hlt : k < n
      · have hltI : (k : Int) < (n : Int) := by omega
        obtain ⟨b1, o, x, rfl, hbB, hx, c0, c1, c2⟩ := (h.below hb hB).at_Kd hlt
        have HX := Lib.hid hx
        have hxk := HOK.out.1 x (List.mem_of_getElem? hx)
        have hxb := Bc.okK_iff.1 hxk
        have hws := Bc.okS_iff.1 HOS.out
        obtain ⟨k1, k2, k3, k4⟩ := Bc.kv_bd HOS.out hxk
        obtain ⟨v, hv⟩ : ∃ v, Bc.kv w0 h0 x = v := ⟨_, rfl⟩
        have HVX := Lib.hid hv
        obtain ⟨a, ha⟩ : ∃ a, w0 / x.w = a := ⟨_, rfl⟩
        obtain ⟨d, hd⟩ : ∃ d, h0 / x.h = d := ⟨_, rfl⟩
        obtain ⟨m, hm⟩ : ∃ m, a * d = m := ⟨_, rfl⟩
        have hmv : m * x.v = v := by rw [← hv]; unfold Bc.kv; rw [ha, hd, hm]
        rw [ha] at k1
        rw [hd] at k2
        rw [ha, hd, hm] at k3
        rw [hv] at k4
        have ta : w0.tdiv x.w = a := by rw [← ha]; exact Int.tdiv_eq_ediv_of_nonneg (by omega)
        have td : h0.tdiv x.h = d := by rw [← hd]; exact Int.tdiv_eq_ediv_of_nonneg (by omega)
        have wa : IntKind.i64.wrap a = a := IntWalk.i64_in _ (by omega)
        have wd : IntKind.i64.wrap d = d := IntWalk.i64_in _ (by omega)
        have wm : IntKind.i64.wrap (a * d) = m := by rw [hm]; exact IntWalk.i64_in _ (by omega)
        have wv : IntKind.i64.wrap (m * x.v) = v := by rw [hmv]; exact IntWalk.i64_in _ (by omega)
        have z1 : ¬ x.w = 0 := by omega
        have z2 : ¬ x.h = 0 := by omega
        have l1 : b1 < wr.heap.size := by omega
        clear hx hxk hxb hws k1 k2 k3 k4 hv ha hd hm hmv
        go_wp2_with fail
        go_quiet (fail)
        have HB6 := Lib.hid (below_drewN' hb nq)
        by_cases hgt : bv < v
        · have HN := Lib.hid (Bc.bkT_lt HX.out HVX.out (by rw [HT.out]; exact hgt))
          go_wp2_with fail
          go_roundw
          case rel => exact ⟨k + 1, k, v, by omega, by go_num, rfl, rfl, HN, HB6.out⟩
          case measure => simp [intOf]; omega
        · have hgt' : (bv < v) = False := eq_false hgt
          have HN : Hid (Bc.bkT w0 h0 l (k + 1) = (bi, bv)) := Lib.hid ((Bc.bkT_ge HX.out HVX.out (by rw [HT.out]; exact hgt)).trans HT.out)
          go_wp2_with fail
          go_roundw
          case rel => exact ⟨k + 1, bi, bv, by omega, by go_num, rfl, rfl, HN, HB6.out⟩
          case measure => simp [intOf]; omega
      · obtain rfl : k = n := by omega
        have e1 : bi = R := by rw [← HR.out, HT.out]
        have e2 : bv = V := by rw [← HV.out, HT.out]
        subst e1 e2
        go_wp2_with fail
        go_ret3
        exact ⟨rfl, hb⟩
  · have hc0' : (C == 0) = false := by simpa using hc0
    obtain rfl : R = 0 := by rw [← hR]; unfold Bc.bkI; rw [hC, if_neg hc0]
    obtain rfl : V = 0 := by rw [← hV]; unfold Bc.bkV; rw [hC, if_neg hc0]
    clear hR hV hC
    go_enter Tryd.func18, Tryd.ntmps18
    go_wp2_with fail
    refine hco.mono ?_
    rintro e w1 ⟨rfl, hb1⟩
    go_wp2_with fail
    go_ret3
    exact ⟨rfl, hb1⟩

set_option maxRecDepth 100000 in
set_option maxHeartbeats 4000000 in
theorem specKn_any (w0 h0 : Int) (A : Option Addr) (n c B : Nat) (l : List Kd) (R C : Int) (w : World) (h : RdS Kd.S w B A n l) (hB : B ≤ w.heap.size) (hn : n ≤ 1048577) (hR : Bc.dnR w0 h0 l = R) (hC : Bc.code w0 h0 l = C) :
    Calls Tryd.prog 20 #[.int .i64 w0, .int .i64 h0, .slice A n c] w fun e w' => e = .returned (.tuple #[.int .i64 R, .int .i64 C]) ∧ Below w.heap.size w w' := by
  have HL := Lib.hid h.1
  have hco := specKc_any w0 h0 A n c B l C w h hB hn hC
  by_cases hc0 : C = 0
  · subst hc0
    obtain ⟨hok, hos⟩ := Bc.code0 hC
    have HOK := Lib.hid (Bc.okL_iff.1 hok)
    have HOS := Lib.hid hos
    have HR : Hid (Bc.dnT w0 h0 l n = R) := Lib.hid (by rw [← hR]; unfold Bc.dnR; rw [if_pos hC, h.1])
    clear hR hC hok hos
    go_enter Tryd.func20, Tryd.ntmps20
    go_wp2_with fail
    refine hco.mono ?_
    rintro e w1 ⟨rfl, hb1⟩
    clear hco
    go_wp2_with fail
    go_loopw [9, 10] (fun p i wr => ∃ (k : Nat) (t : Int), k ≤ n ∧ i = .int .i64 k ∧ p = .int .i64 t ∧ Hid (Bc.dnT w0 h0 l k = t) ∧ Below w.heap.size w wr) (fun _ i _ => n - (intOf i).toNat)
    case atStart => exact ⟨0, 0, Nat.zero_le _, rfl, rfl, Lib.hid rfl, hb1⟩
    case round =>
      clear hb1
      obtain ⟨k, t, hk, rfl, rfl, HT, hb⟩ := hrel
      have hz := hb.size
      by_cases hlt : k < n
      · have hltI : (k : Int) < (n : Int) := by omega
        obtain ⟨b1, o, x, rfl, hbB, hx, c0, c1, c2⟩ := (h.below hb hB).at_Kd hlt
        have hxk := HOK.out.1 x (List.mem_of_getElem? hx)
        obtain ⟨k1, k2, k3, k4⟩ := Bc.dv_bd HOS.out hxk
        obtain ⟨z, hz_⟩ : ∃ v, Bc.dv w0 h0 x = v := ⟨_, rfl⟩
        have HN : Hid (Bc.dnT w0 h0 l (k + 1) = max t z) := Lib.hid (by rw [Bc.dnT_next hx hz_, HT.out])
        obtain ⟨s, hs⟩ : ∃ a, w0 * h0 = a := ⟨_, rfl⟩
        obtain ⟨p, hp⟩ : ∃ a, s * x.v = a := ⟨_, rfl⟩
        obtain ⟨r, hr⟩ : ∃ a, x.w * x.h = a := ⟨_, rfl⟩
        have hq : p / r = z := by rw [← hz_]; unfold Bc.dv; rw [hs, hp, hr]
        rw [hs] at k1
        rw [hs, hp] at k2
        rw [hr] at k3
        rw [hz_] at k4
        have ws : IntKind.i64.wrap (w0 * h0) = s := by rw [hs]; exact IntWalk.i64_in _ (by omega)
        have wp : IntKind.i64.wrap (s * x.v) = p := by rw [hp]; exact IntWalk.i64_in _ (by omega)
        have wr_ : IntKind.i64.wrap (x.w * x.h) = r := by rw [hr]; exact IntWalk.i64_in _ (by omega)
        have tq : p.tdiv r = z := by rw [← hq]; exact Int.tdiv_eq_ediv_of_nonneg (by omega)
        have wz : IntKind.i64.wrap z = z := IntWalk.i64_in _ (by omega)
        have z1 : ¬ r = 0 := by omega
        have l1 : b1 < wr.heap.size := by omega
        clear hx hxk k1 k2 k3 k4 hz_ hs hp hr hq
        rcases Int.lt_trichotomy t z with hlu | hlu | hlu
        · have HE : Hid (max t z = z) := Lib.hid (by omega)
          have g1 : ¬ z < t := by omega
          have g2 : ¬ z ≤ t := by omega
          have g3 : t ≤ z := by omega
          go_wp2_with fail
          go_quiet (fail)
          go_wp2_with fail
          have HB6 := Lib.hid (below_drewN' hb nq)
          go_roundw
          case rel => exact ⟨k + 1, z, by omega, by go_num, rfl, Lib.hid (by rw [HN.out, HE.out]), HB6.out⟩
          case measure => simp [intOf]; omega
        · subst hlu
          have HE : Hid (max t t = t) := Lib.hid (by omega)
          go_wp2_with fail
          go_quiet (fail)
          go_wp2_with fail
          have HB6 := Lib.hid (below_drewN' hb nq)
          go_roundw
          case rel => exact ⟨k + 1, t, by omega, by go_num, rfl, Lib.hid (by rw [HN.out, HE.out]), HB6.out⟩
          case measure => simp [intOf]; omega
        · have HE : Hid (max t z = t) := Lib.hid (by omega)
          have g1 : ¬ t < z := by omega
          have g2 : ¬ t ≤ z := by omega
          have g3 : z ≤ t := by omega
          go_wp2_with fail
          go_quiet (fail)
          go_wp2_with fail
          have HB6 := Lib.hid (below_drewN' hb nq)
          go_roundw
          case rel => exact ⟨k + 1, t, by omega, by go_num, rfl, Lib.hid (by rw [HN.out, HE.out]), HB6.out⟩
          case measure => simp [intOf]; omega
      · obtain rfl : k = n := by omega
        obtain rfl : t = R := by rw [← HR.out, HT.out]
        go_wp2_with fail
        go_ret2
        exact ⟨rfl, hb⟩
  · have hc0' : (C == 0) = false := by simpa using hc0
    obtain rfl : R = 0 := by rw [← hR]; unfold Bc.dnR; rw [hC, if_neg hc0]
    clear hR hC
    go_enter Tryd.func20, Tryd.ntmps20
    go_wp2_with fail
    refine hco.mono ?_
    rintro e w1 ⟨rfl, hb1⟩
    go_wp2_with fail
    go_ret2
    exact ⟨rfl, hb1⟩
end Go.Proofs.YtbhofhobnbhhhaaDoor
