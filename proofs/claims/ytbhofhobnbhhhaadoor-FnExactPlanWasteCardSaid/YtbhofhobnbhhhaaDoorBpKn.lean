/- The program's contracts of BestKind and DensityBound. -/
import Derived.Test.YtbhofhobnbhhhaaDoorBpVt
namespace Go.Proofs.YtbhofhobnbhhhaaDoor
open Go.RowKit
set_option linter.unusedVariables false

namespace Bc
/-- The best kind of the first n ones as the program has it: 0, 0 ahead of all. -/
def bkU (w h : Int) (l : List Kd) (n : Nat) : Int × Int := if n = 0 then (0, 0) else bkT w h l n
theorem bkU_lt {w h v : Int} {l : List Kd} {n : Nat} {x : Kd} (hx : l[n]? = some x) (hv : kv w h x = v) (h0 : 0 ≤ v) (h1 : (bkU w h l n).2 < v) : bkU w h l (n + 1) = ((n : Int), v) := by
  unfold bkU at h1 ⊢
  rw [if_neg (by omega)]
  by_cases hn : n = 0
  · subst hn
    exact bkT_lt hx hv (by show (-1 : Int) < v; omega)
  · rw [if_neg hn] at h1
    exact bkT_lt hx hv h1
theorem bkU_ge {w h v : Int} {l : List Kd} {n : Nat} {x : Kd} (hx : l[n]? = some x) (hv : kv w h x = v) (h0 : 0 ≤ v) (h1 : ¬ (bkU w h l n).2 < v) : bkU w h l (n + 1) = bkU w h l n := by
  unfold bkU at h1 ⊢
  rw [if_neg (by omega)]
  by_cases hn : n = 0
  · subst hn
    rw [if_pos rfl] at h1 ⊢
    have e : v = 0 := by
      have : ¬ (0 : Int) < v := h1
      omega
    subst e
    exact bkT_lt hx hv (by show (-1 : Int) < 0; omega)
  · rw [if_neg hn] at h1 ⊢
    exact bkT_ge hx hv h1
end Bc
set_option maxRecDepth 100000 in
set_option maxHeartbeats 4000000 in
theorem implKb_any (w0 h0 : Int) (A : Option Addr) (n c B : Nat) (l : List Kd) (R V C : Int) (w : World) (h : RdS Kd.S w B A n l) (hB : B ≤ w.heap.size) (hn : n ≤ 1048577) (hc : n ≤ c) (b1 : Bc.i64 w0) (b2 : Bc.i64 h0) (hR : Bc.bkI w0 h0 l = R) (hV : Bc.bkV w0 h0 l = V) (hC : Bc.code w0 h0 l = C) :
    Calls Tryd.prog 17 #[.int .i64 w0, .int .i64 h0, .slice A n c] w fun e w' => e = .returned (.tuple #[.int .i64 R, .int .i64 V, .int .i64 C]) ∧ Below w.heap.size w w' := by
  have HL := Lib.hid h.1
  have hco := checkCut_any w0 h0 A n c B l C w h hB hn hc hC
  clear b1 b2
  by_cases hc0 : C = 0
  · subst hc0
    obtain ⟨hok, hos⟩ := Bc.code0 hC
    have HOK := Lib.hid (Bc.okL_iff.1 hok)
    have HOS := Lib.hid hos
    have hn0 : ¬ n = 0 := by have h1 := (Bc.okL_iff.1 hok).2; have h2 := h.1; omega
    have HR : Hid ((Bc.bkU w0 h0 l n).1 = R) := Lib.hid (by rw [← hR]; unfold Bc.bkI Bc.bkU; rw [if_pos hC, h.1, if_neg hn0])
    have HV : Hid ((Bc.bkU w0 h0 l n).2 = V) := Lib.hid (by rw [← hV]; unfold Bc.bkV Bc.bkU; rw [if_pos hC, h.1, if_neg hn0])
    clear hR hV hC hok hos hn0
    go_enter Tryd.func17, Tryd.ntmps17
    go_wp2_with fail
    refine hco.mono ?_
    rintro e w1 ⟨rfl, hb1⟩
    clear hco
    go_wp2_with fail
    go_loopw [10, 11, 24] (fun p q i wr => ∃ (k : Nat) (bi bv : Int), k ≤ n ∧ i = .int .i64 k ∧ p = .int .i64 bi ∧ q = .int .i64 bv ∧ Hid (Bc.bkU w0 h0 l k = (bi, bv)) ∧ Below w.heap.size w wr) (fun _ _ i _ => n - (intOf i).toNat)
    case atStart => exact ⟨0, 0, 0, Nat.zero_le _, rfl, rfl, rfl, Lib.hid rfl, hb1⟩
    case round =>
      clear hb1
      obtain ⟨k, bi, bv, hk, rfl, rfl, rfl, HT, hb⟩ := hrel
      have hz := hb.size
      by_cases hlt : k < n
      · have hltI : (k : Int) < (n : Int) := by omega
        obtain ⟨b1, o, x, rfl, hbB, hx, c0, c1, c2⟩ := (h.below hb hB).at_Kd hlt
        have HX := Lib.hid hx
        have hxk := HOK.out.1 x (List.mem_of_getElem? hx)
        obtain ⟨v, hv⟩ : ∃ v, Bc.kv w0 h0 x = v := ⟨_, rfl⟩
        have HV0 : Hid (0 ≤ v) := Lib.hid (by rw [← hv]; exact (Bc.kv_bd HOS.out hxk).2.2.2.1)
        have HVX := Lib.hid hv
        have hgv := fun W => gridValue_any x ⟨w0, h0⟩ v W HOS.out hxk hv
        have l1 : b1 < wr.heap.size := by omega
        have hbA : Below w.heap.size w (wr.alloc (.cells #[.int .i64 x.w, .int .i64 x.h, .int .i64 x.v] 42)) := hb.alloc hz _
        have zA : (wr.alloc (.cells #[.int .i64 x.w, .int .i64 x.h, .int .i64 x.v] 42)).heap.size = wr.heap.size + 1 := by simp
        clear hx hxk hv
        go_wp2_with fail
        refine (hgv _).mono ?_
        rintro e w5 ⟨rfl, hb5⟩
        have HB6 := Lib.hid (hbA.trans (hb5.mono (by omega)))
        clear hb5 hgv
        by_cases hgt : bv < v
        · have HN := Lib.hid (Bc.bkU_lt HX.out HVX.out HV0.out (by rw [HT.out]; exact hgt))
          go_wp2_with fail
          go_roundw
          case rel => exact ⟨k + 1, k, v, by omega, by go_num, rfl, rfl, HN, HB6.out⟩
          case measure => simp [intOf]; omega
        · have hgt' : (bv < v) = False := eq_false hgt
          have HN : Hid (Bc.bkU w0 h0 l (k + 1) = (bi, bv)) := Lib.hid ((Bc.bkU_ge HX.out HVX.out HV0.out (by rw [HT.out]; exact hgt)).trans HT.out)
          go_wp2_with fail
          go_roundw
          case rel => exact ⟨k + 1, bi, bv, by omega, by go_num, rfl, rfl, HN, HB6.out⟩
          case measure => simp [intOf]; omega
      · obtain rfl : k = n := by omega
        have e1 : bi = R := by rw [← HR.out, HT.out]
        have e2 : bv = V := by rw [← HV.out, HT.out]
        subst e1 e2
        go_wp2_with fail
        go_ret3
        exact ⟨rfl, hb⟩
  · have hc0' : (C != 0) = true := by simpa using hc0
    obtain rfl : R = 0 := by rw [← hR]; unfold Bc.bkI; rw [hC, if_neg hc0]
    obtain rfl : V = 0 := by rw [← hV]; unfold Bc.bkV; rw [hC, if_neg hc0]
    clear hR hV hC
    go_enter Tryd.func17, Tryd.ntmps17
    go_wp2_with fail
    refine hco.mono ?_
    rintro e w1 ⟨rfl, hb1⟩
    go_wp2_with fail
    go_ret3
    exact ⟨rfl, hb1⟩

set_option maxRecDepth 100000 in
set_option maxHeartbeats 4000000 in
theorem implKn_any (w0 h0 : Int) (A : Option Addr) (n c B : Nat) (l : List Kd) (R C : Int) (w : World) (h : RdS Kd.S w B A n l) (hB : B ≤ w.heap.size) (hn : n ≤ 1048577) (hc : n ≤ c) (b1 : Bc.i64 w0) (b2 : Bc.i64 h0) (hR : Bc.dnR w0 h0 l = R) (hC : Bc.code w0 h0 l = C) :
    Calls Tryd.prog 19 #[.int .i64 w0, .int .i64 h0, .slice A n c] w fun e w' => e = .returned (.tuple #[.int .i64 R, .int .i64 C]) ∧ Below w.heap.size w w' := by
  have HL := Lib.hid h.1
  have hco := checkCut_any w0 h0 A n c B l C w h hB hn hc hC
  clear b1 b2
  by_cases hc0 : C = 0
  · subst hc0
    obtain ⟨hok, hos⟩ := Bc.code0 hC
    have HOK := Lib.hid (Bc.okL_iff.1 hok)
    have HOS := Lib.hid hos
    have HR : Hid (Bc.dnT w0 h0 l n = R) := Lib.hid (by rw [← hR]; unfold Bc.dnR; rw [if_pos hC, h.1])
    clear hR hC hok hos
    go_enter Tryd.func19, Tryd.ntmps19
    go_wp2_with fail
    refine hco.mono ?_
    rintro e w1 ⟨rfl, hb1⟩
    clear hco
    go_wp2_with fail
    go_loopw [9, 21] (fun p i wr => ∃ (k : Nat) (t : Int), k ≤ n ∧ i = .int .i64 k ∧ p = .int .i64 t ∧ Hid (Bc.dnT w0 h0 l k = t) ∧ Below w.heap.size w wr) (fun _ i _ => n - (intOf i).toNat)
    case atStart => exact ⟨0, 0, Nat.zero_le _, rfl, rfl, Lib.hid rfl, hb1⟩
    case round =>
      clear hb1
      obtain ⟨k, t, hk, rfl, rfl, HT, hb⟩ := hrel
      have hz := hb.size
      by_cases hlt : k < n
      · have hltI : (k : Int) < (n : Int) := by omega
        obtain ⟨b1, o, x, rfl, hbB, hx, c0, c1, c2⟩ := (h.below hb hB).at_Kd hlt
        have hxk := HOK.out.1 x (List.mem_of_getElem? hx)
        obtain ⟨k1, k2, k3, k4⟩ := Bc.dv_bd HOS.out hxk
        obtain ⟨z, hz_⟩ : ∃ v, Bc.dv w0 h0 x = v := ⟨_, rfl⟩
        have HN : Hid (Bc.dnT w0 h0 l (k + 1) = max t z) := Lib.hid (by rw [Bc.dnT_next hx hz_, HT.out])
        obtain ⟨s, hs⟩ : ∃ a, w0 * h0 = a := ⟨_, rfl⟩
        obtain ⟨p, hp⟩ : ∃ a, s * x.v = a := ⟨_, rfl⟩
        obtain ⟨r, hr⟩ : ∃ a, x.w * x.h = a := ⟨_, rfl⟩
        have har := fun W => kArea_any x r W hxk hr
        have hq : p / r = z := by rw [← hz_]; unfold Bc.dv; rw [hs, hp, hr]
        rw [hs] at k1
        rw [hs, hp] at k2
        rw [hr] at k3
        rw [hz_] at k4
        have ws : IntKind.i64.wrap (w0 * h0) = s := by rw [hs]; exact IntWalk.i64_in _ (by omega)
        have wp : IntKind.i64.wrap (s * x.v) = p := by rw [hp]; exact IntWalk.i64_in _ (by omega)
        have tq : p.tdiv r = z := by rw [← hq]; exact Int.tdiv_eq_ediv_of_nonneg (by omega)
        have wz : IntKind.i64.wrap z = z := IntWalk.i64_in _ (by omega)
        have z1 : ¬ r = 0 := by omega
        have l1 : b1 < wr.heap.size := by omega
        have hbA : Below w.heap.size w (wr.alloc (.cells #[.int .i64 x.w, .int .i64 x.h, .int .i64 x.v] 42)) := hb.alloc hz _
        have zA : (wr.alloc (.cells #[.int .i64 x.w, .int .i64 x.h, .int .i64 x.v] 42)).heap.size = wr.heap.size + 1 := by simp
        have HBA := Lib.hid hbA
        clear hx hxk k1 k2 k3 k4 hz_ hs hp hr hq hbA
        rcases Int.lt_trichotomy t z with hlu | hlu | hlu
        · have HE : Hid (max t z = z) := Lib.hid (by omega)
          have g1 : ¬ z < t := by omega
          have g2 : ¬ z ≤ t := by omega
          have g3 : t ≤ z := by omega
          go_wp2_with fail
          go_region_held3 (fun V => V.cell? ⟨wr.heap.size, 0, none⟩ = some (.int .i64 x.w) ∧ V.cell? ⟨wr.heap.size, 1, none⟩ = some (.int .i64 x.h) ∧ V.cell? ⟨wr.heap.size, 2, none⟩ = some (.int .i64 x.v))
            (first | go_keep | (refine ⟨?_, ?_, ?_⟩ <;> (first | go_keep | (rw [hbk.cell (by first | omega | (simp; done) | (simp; omega))]; first | assumption | go_keep))))
            (first | (go_at_call 57; with_reducible refine (har _).mono ?_; rintro e' w5 ⟨rfl, hbk⟩))
          have HB6 := Lib.hid (HBA.out.trans ((below_drewN' (Below.refl _ _) 1).trans (hbk.mono (by first | omega | (simp; omega)))))
          clear hbk
          go_wp2_with fail
          go_roundw
          case rel => exact ⟨k + 1, z, by omega, by go_num, rfl, Lib.hid (by rw [HN.out, HE.out]), HB6.out⟩
          case measure => simp [intOf]; omega
        · subst hlu
          have HE : Hid (max t t = t) := Lib.hid (by omega)
          go_wp2_with fail
          go_region_held3 (fun V => V.cell? ⟨wr.heap.size, 0, none⟩ = some (.int .i64 x.w) ∧ V.cell? ⟨wr.heap.size, 1, none⟩ = some (.int .i64 x.h) ∧ V.cell? ⟨wr.heap.size, 2, none⟩ = some (.int .i64 x.v))
            (first | go_keep | (refine ⟨?_, ?_, ?_⟩ <;> (first | go_keep | (rw [hbk.cell (by first | omega | (simp; done) | (simp; omega))]; first | assumption | go_keep))))
            (first | (go_at_call 57; with_reducible refine (har _).mono ?_; rintro e' w5 ⟨rfl, hbk⟩))
          have HB6 := Lib.hid (HBA.out.trans ((below_drewN' (Below.refl _ _) 1).trans (hbk.mono (by first | omega | (simp; omega)))))
          clear hbk
          go_wp2_with fail
          go_roundw
          case rel => exact ⟨k + 1, t, by omega, by go_num, rfl, Lib.hid (by rw [HN.out, HE.out]), HB6.out⟩
          case measure => simp [intOf]; omega
        · have HE : Hid (max t z = t) := Lib.hid (by omega)
          have g1 : ¬ t < z := by omega
          have g2 : ¬ t ≤ z := by omega
          have g3 : z ≤ t := by omega
          go_wp2_with fail
          go_region_held3 (fun V => V.cell? ⟨wr.heap.size, 0, none⟩ = some (.int .i64 x.w) ∧ V.cell? ⟨wr.heap.size, 1, none⟩ = some (.int .i64 x.h) ∧ V.cell? ⟨wr.heap.size, 2, none⟩ = some (.int .i64 x.v))
            (first | go_keep | (refine ⟨?_, ?_, ?_⟩ <;> (first | go_keep | (rw [hbk.cell (by first | omega | (simp; done) | (simp; omega))]; first | assumption | go_keep))))
            (first | (go_at_call 57; with_reducible refine (har _).mono ?_; rintro e' w5 ⟨rfl, hbk⟩))
          have HB6 := Lib.hid (HBA.out.trans ((below_drewN' (Below.refl _ _) 1).trans (hbk.mono (by first | omega | (simp; omega)))))
          clear hbk
          go_wp2_with fail
          go_roundw
          case rel => exact ⟨k + 1, t, by omega, by go_num, by first | rfl | rw [if_neg (by omega)], Lib.hid (by rw [HN.out, HE.out]), HB6.out⟩
          case measure => simp [intOf]; omega
      · obtain rfl : k = n := by omega
        obtain rfl : t = R := by rw [← HR.out, HT.out]
        go_wp2_with fail
        go_ret2
        exact ⟨rfl, hb⟩
  · have hc0' : (C != 0) = true := by simpa using hc0
    obtain rfl : R = 0 := by rw [← hR]; unfold Bc.dnR; rw [hC, if_neg hc0]
    clear hR hC
    go_enter Tryd.func19, Tryd.ntmps19
    go_wp2_with fail
    refine hco.mono ?_
    rintro e w1 ⟨rfl, hb1⟩
    go_wp2_with fail
    go_ret2
    exact ⟨rfl, hb1⟩
end Go.Proofs.YtbhofhobnbhhhaaDoor
