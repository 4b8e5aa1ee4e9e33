/- Contracts of the model's ReadForm and IsRightForm. -/
import Derived.Test.YtfiefjbipjalpaaFmSr
namespace Go.Proofs.Ytfiefjbipjalpaa
open Go.RowKit

set_option maxRecDepth 100000 in
set_option maxHeartbeats 1000000 in
theorem l05Code_any (f : Fv) (B : Nat) (F G H : List Int) (s : ByteArray) (C : Int) (w : World) (h : RF w B f F G H) (hB : B ≤ w.heap.size) (hn : f.le 1048576) (hi64 : i64s F) (hi65 : i64s G) (hs : s.size ≤ 1048577) (hC : Fm.code f.a f.b F G H s.data.toList = C) :
    Calls Try.prog 60 #[f.v, .string s] w fun e w' => e = .returned (.int .i64 C) ∧ Below w.heap.size w w' := by
  obtain ⟨a, b, A1, n1, c1, A2, n2, c2, A3, n3, c3⟩ := f
  simp only at hC
  have hB0 := below_alloc w (.cells (Fv.cs ⟨a, b, A1, n1, c1, A2, n2, c2, A3, n3, c3⟩) 26)
  have hbx := FBx.new w ⟨a, b, A1, n1, c1, A2, n2, c2, A3, n3, c3⟩
  have hr0 := h.below hB0 hB
  have HC := Lib.hid hC
  have HNN := Lib.hid hn
  have HI1 := Lib.hid hi64
  have HI2 := Lib.hid hi65
  clear hC hn hi64 hi65
  go_enter Try.func60, Try.ntmps60
  go_wp2_with fail
  generalize hW : w.alloc (.cells (Fv.cs ⟨a, b, A1, n1, c1, A2, n2, c2, A3, n3, c3⟩) 26) = W0 at hB0 hbx hr0 ⊢
  have hwz : w.heap.size < W0.heap.size := by rw [← hW]; simp
  clear hW
  have hsp := specIsForm_any ⟨a, b, A1, n1, c1, A2, n2, c2, A3, n3, c3⟩ B F G H W0 hr0 (by omega) HNN.out HI1.out HI2.out
  simp only at hsp
  cases hok : Fm.okB a b F G H
  · rw [hok] at hsp
    have HE : Hid ((1 : Int) = C) := Lib.hid (by rw [← HC.out, Fm.code_no hok])
    clear hok
    refine hsp.mono ?_
    rintro e w1 ⟨rfl, hb1⟩
    have HB1 := Lib.hid (hB0.trans (hb1.mono (by omega)))
    go_wp2_with fail
    go_ret
    exact ⟨ret_i HE.out, HB1.out⟩
  · rw [hok] at hsp
    have HE : Hid (Fo.code a b s.data.toList = C) := Lib.hid (by rw [← HC.out, Fm.code_yes hok])
    have hsh := (Fm.okB_ok hok).1
    have HZ : Hid (∀ bb, Fo.scheme a b s.data.toList = bb → C = if bb = true then 0 else 2) := Lib.hid fun bb hbb => by
      rw [← HE.out]
      unfold Fo.code
      rw [if_pos hsh, hbb]
    obtain ⟨bb, hbb⟩ : ∃ bb, Fo.scheme a b s.data.toList = bb := ⟨_, rfl⟩
    have HCC := Lib.hid (HZ.out bb hbb)
    have hss := specIsScheme_any a b s
    have HBB := Lib.hid hbb
    clear hok hsh hbb
    refine hsp.mono ?_
    rintro e w1 ⟨rfl, hb1⟩
    have HB1 := Lib.hid (hB0.trans (hb1.mono (by omega)))
    obtain ⟨k0, k1, k2, k3, k4⟩ := (hbx.below hb1 hwz).fcell
    simp only at k0 k1 k2 k3 k4
    clear hb1 hB0 hbx hr0 hsp
    go_wp2_with fail
    refine (hss _ hs).mono ?_
    rintro e _ ⟨rfl, rfl⟩
    rw [HBB.out]
    cases bb
    all_goals
      go_wp2_with fail
      go_ret
      exact ⟨ret_i (by rw [HCC.out]; rfl), HB1.out⟩
set_option maxRecDepth 100000 in
set_option maxHeartbeats 2000000 in
theorem l05Right_any (f : Fv) (B : Nat) (F G H : List Int) (s : ByteArray) (r : Bool) (w : World)
    (h : RF w B f F G H) (hB : B ≤ w.heap.size) (hok : Fm.ok f.a f.b F G H) (hsc : Fo.scheme f.a f.b s.data.toList = true) (hr : Fm.right f.a F G H s.data.toList = r) :
    Calls Try.prog 63 #[f.v, .string s] w fun e w' => e = .returned (.bool r) ∧ Below w.heap.size w w' := by
  obtain ⟨h6, _⟩ := Fo.scheme_len hsc
  rw [toList_len] at h6
  obtain ⟨a, b, A1, n1, c1, A2, n2, c2, A3, n3, c3⟩ := f
  simp only at hok hsc hr
  obtain ⟨e1, e2, e3⟩ := h.len
  simp only at e1 e2 e3
  obtain ⟨l1, l2, l3⟩ := hok.2.1
  obtain ⟨N, hN, N1, N64⟩ := Fm.cells_pos (Fm.scheme_sheet hsc)
  rw [hN] at l1 l2 l3
  obtain rfl : n1 = N := by omega
  obtain rfl : n2 = n1 := by omega
  obtain rfl : n3 = n2 := by omega
  obtain ⟨m, hm⟩ : ∃ m, Fm.lst (F ++ G) = m := ⟨_, rfl⟩
  have hm1 := hok.2.2.2.1
  have hm2 := hok.2.2.2.2.1
  rw [hm] at hm1 hm2
  obtain ⟨RL, hRL⟩ : ∃ RL, Fm.readL a F G H (LVs s.data.toList) = RL := ⟨_, rfl⟩
  obtain ⟨M, hM⟩ : ∃ M : Nat, 2 ^ s.size = M := ⟨_, rfl⟩
  have hM64 : M ≤ 64 := by rw [← hM]; exact pow_le6' h6
  have HLN : Hid (RL.length = 2 * M) := Lib.hid (by rw [← hRL, Fm.readL_len, LVs_len, toList_len, hM])
  have HYES : Hid ((∀ j : Nat, j < 2 * M → RL[j]? = some (m + (j : Int))) → r = true) := Lib.hid fun hh => by
    rw [← hr]
    refine Fm.right_yes fun i hi => ?_
    rw [toList_len, hM] at hi
    rw [hm, hRL]
    exact hh i hi
  have HNO : Hid (∀ (j : Nat) (x : Int), RL[j]? = some x → x ≠ m + (j : Int) → r = false) := Lib.hid fun j x hx hne => by
    rw [← hr]
    exact Fm.right_no (by rw [hRL]; exact hx) (by rw [hm]; exact hne)
  have hB0 := below_alloc w (.cells (Fv.cs ⟨a, b, A1, n3, c1, A2, n3, c2, A3, n3, c3⟩) 26)
  have hbx := FBx.new w ⟨a, b, A1, n3, c1, A2, n3, c2, A3, n3, c3⟩
  have hr0 := h.below hB0 hB
  have HOK := Lib.hid hok
  have HSC := Lib.hid hsc
  have HRL := Lib.hid hRL
  have HM := Lib.hid hm
  clear h hok hsc hr e1 e2 e3 l1 l2 l3 hN hm hM hRL
  go_enter Try.func63, Try.ntmps63
  go_wp2_with fail
  generalize hW : w.alloc (.cells (Fv.cs ⟨a, b, A1, n3, c1, A2, n3, c2, A3, n3, c3⟩) 26) = W0 at hB0 hbx hr0 ⊢
  have hwz : w.heap.size < W0.heap.size := by rw [← hW]; simp
  clear hW
  have hcall := specRead_any ⟨a, b, A1, n3, c1, A2, n3, c2, A3, n3, c3⟩ B F G H s W0 hr0 (by omega) HOK.out HSC.out
  simp only [HRL.out] at hcall
  refine hcall.mono ?_
  rintro e w1 ⟨A, n, c, rfl, ho, hn, hb1⟩
  have z1 := hb1.size
  obtain rfl : n = 2 * M := ho.rd.1.symm.trans HLN.out
  have HB1 := Lib.hid (hB0.trans (hb1.mono (by omega)))
  obtain ⟨k0, k1, k2, k3, k4⟩ := (hbx.below hb1 hwz).fcell
  simp only at k0 k1 k2 k3 k4
  have hls := specLeast_any ⟨a, b, A1, n3, c1, A2, n3, c2, A3, n3, c3⟩ B F G H w1 (hr0.below hb1 (by omega)) (by omega) ⟨show n3 ≤ _ by omega, show n3 ≤ _ by omega, show n3 ≤ _ by omega⟩ N1 rfl
  rw [HM.out] at hls
  have HO := Lib.hid ho.rd
  clear hb1 hB0 hbx hr0 hcall ho
  go_wp2_with fail
  refine hls.mono ?_
  rintro e w2 ⟨rfl, hb2⟩
  have HB2 := Lib.hid (HB1.out.trans (hb2.mono (by omega)))
  have HO2 := Lib.hid (HO.out.below hb2 (Nat.le_refl _))
  obtain ⟨M2, hM2⟩ : ∃ M2, 2 * M = M2 := ⟨_, rfl⟩
  rw [hM2] at HO2 HYES ⊢
  have hM128 : M2 ≤ 128 := by omega
  clear hb2 hls k0 k1 k2 k3 k4 hM2
  go_wp2_with fail
  go_loopw [7] (fun i wr => ∃ k : Nat, k ≤ M2 ∧ i = .int .i64 k ∧ Hid (∀ j, j < k → RL[j]? = some (m + (j : Int))) ∧ Q w2 wr) (fun i _ => M2 - (intOf i).toNat)
  case atStart => exact ⟨0, Nat.zero_le _, rfl, Lib.hid (fun j hj => absurd hj (by omega)), Q.refl _⟩
  case round =>
    obtain ⟨k, hk, rfl, HK, hq⟩ := hrel
    by_cases hlt : k < M2
    · obtain ⟨bb, oo, x, rfl, hbB, hx, hc⟩ := (HO2.out.q hq).at_ hlt
      have HX := Lib.hid hx
      have wk : IntKind.i64.wrap (m + (k : Int)) = m + (k : Int) := IntWalk.i64_in _ (by omega)
      clear hx
      by_cases he : x = m + (k : Int)
      · have t1 : (x != m + (k : Int)) = false := by simp [he]
        have HE := Lib.hid he
        clear he
        go_wp2_with fail
        go_roundw
        case rel =>
          refine ⟨k + 1, by omega, by go_num, Lib.hid fun j hj => ?_, hq⟩
          rcases Nat.lt_or_ge j k with h | h
          · exact HK.out j h
          · obtain rfl : j = k := by omega
            rw [HX.out, HE.out]
        case measure => simp [intOf]; omega
      · have t1 : (x != m + (k : Int)) = true := by simpa using he
        have HE : Hid (r = false) := Lib.hid (HNO.out k x HX.out he)
        go_wp2_with fail
        go_ret
        exact ⟨ret_b HE.out.symm, HB2.out.trans (hq.below _)⟩
    · obtain rfl : k = M2 := by omega
      have HE : Hid (r = true) := Lib.hid (HYES.out HK.out)
      go_wp2_with fail
      go_ret
      exact ⟨ret_b HE.out.symm, HB2.out.trans (hq.below _)⟩

set_option maxRecDepth 100000 in
set_option maxHeartbeats 2000000 in
theorem specRe_any (f : Fv) (a b : Int) (ha : f.a = a) (hb : f.b = b) (B : Nat) (F G H : List Int) (s : ByteArray) (C : Int) (R : List Int) (hC : Fm.code a b F G H s.data.toList = C) (hR : Fm.reR a b F G H s.data.toList = R) (w : World) (h : RF w B f F G H) (hB : B ≤ w.heap.size) (hn : f.le 1048576) (hi64 : i64s F) (hi65 : i64s G) (hs : s.size ≤ 1048577) :
    Calls Try.prog 18 #[f.v, .string s] w fun e w' => LC w R C e w' := by
  obtain ⟨a', b', A1, n1, c1, A2, n2, c2, A3, n3, c3⟩ := f
  simp only at ha hb
  subst ha hb
  have hB0 := below_alloc w (.cells (Fv.cs ⟨a', b', A1, n1, c1, A2, n2, c2, A3, n3, c3⟩) 26)
  have hbx := FBx.new w ⟨a', b', A1, n1, c1, A2, n2, c2, A3, n3, c3⟩
  have hr0 := h.below hB0 hB
  have HC := Lib.hid hC
  have HR := Lib.hid hR
  have HNN := Lib.hid hn
  have HI1 := Lib.hid hi64
  have HI2 := Lib.hid hi65
  clear hC hR hn hi64 hi65
  go_enter Try.func18, Try.ntmps18
  go_wp2_with fail
  generalize hW : w.alloc (.cells (Fv.cs ⟨a', b', A1, n1, c1, A2, n2, c2, A3, n3, c3⟩) 26) = W0 at hB0 hbx hr0 ⊢
  have hwz : w.heap.size < W0.heap.size := by rw [← hW]; simp
  clear hW
  refine (l05Code_any ⟨a', b', A1, n1, c1, A2, n2, c2, A3, n3, c3⟩ B F G H s C W0 hr0 (by omega) HNN.out HI1.out HI2.out hs HC.out).mono ?_
  rintro e w1 ⟨rfl, hb1⟩
  have hB1 := hB0.trans (hb1.mono (by omega))
  have z1 := hb1.size
  by_cases h0 : C = 0
  rotate_left
  · have HE : Hid (R = []) := Lib.hid (by rw [← HR.out]; unfold Fm.reR; rw [if_neg (by rw [HC.out]; exact h0)])
    have HB1 := Lib.hid hB1
    clear hB1 hb1 hB0 hbx hr0
    go_wp2_with fail
    go_ret2
    exact LC.nil_ HE.out rfl HB1.out
  subst h0
  have hcz := Fm.code_zero HC.out
  have HOK := Lib.hid hcz.1
  have HSC := Lib.hid (Fo.code_zero hcz.2)
  have h6 := (Fo.scheme_len HSC.out).1
  rw [toList_len] at h6
  have HE : Hid (Fm.readL a' F G H (LVs s.data.toList) = R) := Lib.hid (by rw [← HR.out]; unfold Fm.reR; rw [if_pos HC.out])
  have hbx1 := hbx.below hb1 hwz
  obtain ⟨k0, k1, k2, k3, k4⟩ := hbx1.fcell
  simp only at k0 k1 k2 k3 k4
  have hcall := specRead_any ⟨a', b', A1, n1, c1, A2, n2, c2, A3, n3, c3⟩ B F G H s w1 (hr0.below hb1 (by omega)) (by omega) HOK.out HSC.out
  simp only [HE.out] at hcall
  have HB1 := Lib.hid hB1
  clear hB1 hb1 hB0 hbx hbx1 hr0 hcz
  go_wp2_with fail
  refine hcall.mono ?_
  rintro e w2 ⟨A, n, c, rfl, ho, hn', hb2⟩
  have HB2 := Lib.hid (HB1.out.trans (hb2.mono (by omega)))
  go_wp2_with fail
  go_ret2
  exact LC.mk_ rfl rfl ho (by omega) (Nat.le_refl _) (by omega) HB2.out

set_option maxRecDepth 100000 in
set_option maxHeartbeats 2000000 in
theorem specRi_any (f : Fv) (a b : Int) (ha : f.a = a) (hb : f.b = b) (B : Nat) (F G H : List Int) (s : ByteArray) (C : Int) (R : Bool) (hC : Fm.code a b F G H s.data.toList = C) (hR : Fm.riR a b F G H s.data.toList = R) (w : World) (h : RF w B f F G H) (hB : B ≤ w.heap.size) (hn : f.le 1048576) (hi64 : i64s F) (hi65 : i64s G) (hs : s.size ≤ 1048577) :
    Calls Try.prog 20 #[f.v, .string s] w fun e w' => e = .returned (.tuple #[.bool R, .int .i64 C]) ∧ Below w.heap.size w w' := by
  obtain ⟨a', b', A1, n1, c1, A2, n2, c2, A3, n3, c3⟩ := f
  simp only at ha hb
  subst ha hb
  have hB0 := below_alloc w (.cells (Fv.cs ⟨a', b', A1, n1, c1, A2, n2, c2, A3, n3, c3⟩) 26)
  have hbx := FBx.new w ⟨a', b', A1, n1, c1, A2, n2, c2, A3, n3, c3⟩
  have hr0 := h.below hB0 hB
  have HC := Lib.hid hC
  have HR := Lib.hid hR
  have HNN := Lib.hid hn
  have HI1 := Lib.hid hi64
  have HI2 := Lib.hid hi65
  clear hC hR hn hi64 hi65
  go_enter Try.func20, Try.ntmps20
  go_wp2_with fail
  generalize hW : w.alloc (.cells (Fv.cs ⟨a', b', A1, n1, c1, A2, n2, c2, A3, n3, c3⟩) 26) = W0 at hB0 hbx hr0 ⊢
  have hwz : w.heap.size < W0.heap.size := by rw [← hW]; simp
  clear hW
  refine (l05Code_any ⟨a', b', A1, n1, c1, A2, n2, c2, A3, n3, c3⟩ B F G H s C W0 hr0 (by omega) HNN.out HI1.out HI2.out hs HC.out).mono ?_
  rintro e w1 ⟨rfl, hb1⟩
  have hB1 := hB0.trans (hb1.mono (by omega))
  have z1 := hb1.size
  by_cases h0 : C = 0
  rotate_left
  · have HE : Hid (R = false) := Lib.hid (by rw [← HR.out]; unfold Fm.riR; rw [if_neg (by rw [HC.out]; exact h0)])
    have HB1 := Lib.hid hB1
    clear hB1 hb1 hB0 hbx hr0
    go_wp2_with fail
    go_ret2
    exact ⟨by rw [HE.out]; rfl, HB1.out⟩
  subst h0
  have hcz := Fm.code_zero HC.out
  have HOK := Lib.hid hcz.1
  have HSC := Lib.hid (Fo.code_zero hcz.2)
  have HE : Hid (Fm.right a' F G H s.data.toList = R) := Lib.hid (by rw [← HR.out]; unfold Fm.riR; rw [if_pos HC.out])
  have hcall := l05Right_any ⟨a', b', A1, n1, c1, A2, n2, c2, A3, n3, c3⟩ B F G H s R w1 (hr0.below hb1 (by omega)) (by omega) HOK.out HSC.out HE.out
  obtain ⟨k0, k1, k2, k3, k4⟩ := (hbx.below hb1 hwz).fcell
  simp only at k0 k1 k2 k3 k4
  have HB1 := Lib.hid hB1
  clear hB1 hb1 hB0 hbx hr0 hcz
  go_wp2_with fail
  refine hcall.mono ?_
  rintro e w2 ⟨rfl, hb2⟩
  have HB2 := Lib.hid (HB1.out.trans (hb2.mono (by omega)))
  go_wp2_with fail
  go_ret2
  exact ⟨rfl, HB2.out⟩
end Go.Proofs.Ytfiefjbipjalpaa
