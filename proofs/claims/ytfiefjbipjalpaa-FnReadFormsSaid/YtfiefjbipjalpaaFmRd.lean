/- Contracts of the program's checkForm, isRight, ReadForm and IsRightForm. -/
import Derived.Test.YtfiefjbipjalpaaFmOn
namespace Go.Proofs.Ytfiefjbipjalpaa
open Go.RowKit

theorem LVs_some {s : List UInt8} {k : Nat} (h : k < 2 ^ s.length) : ∃ v, (LVs s)[k]? = some v := ⟨_, LVs_get s k h⟩
theorem read_some {a : Int} {F G H : List Int} {s : List UInt8} {i : Nat} (h : i < 2 * 2 ^ s.length) : ∃ v x, (LVs s)[i / 2]? = some v ∧ Fm.rd a F G H v (i % 2 == 1) = x ∧ (Fm.readL a F G H (LVs s))[i]? = some x := by
  obtain ⟨v, hv⟩ := LVs_some (s := s) (k := i / 2) (by omega)
  exact ⟨v, _, hv, rfl, Fm.readL_at a F G H _ i v hv⟩
set_option maxRecDepth 100000 in
set_option maxHeartbeats 2000000 in
theorem isRight_any (a b : Int) (A1 A2 A3 : Option Addr) (n1 n2 n3 c1 c2 c3 g B : Nat) (F G H : List Int) (s : ByteArray) (r : Bool) (w : World)
    (hg : FBx w g ⟨a, b, A1, n1, c1, A2, n2, c2, A3, n3, c3⟩) (h : RF w B ⟨a, b, A1, n1, c1, A2, n2, c2, A3, n3, c3⟩ F G H) (hB : B ≤ w.heap.size) (hok : Fm.ok a b F G H) (hsc : Fo.scheme a b s.data.toList = true)
    (hr : Fm.right a F G H s.data.toList = r) :
    Calls Try.prog 62 #[.pointer (some ⟨g, 0, none⟩), .string s] w fun e w' => e = .returned (.bool r) ∧ Below w.heap.size w w' := by
  obtain ⟨h6, _⟩ := Fo.scheme_len hsc
  rw [toList_len] at h6
  obtain ⟨e1, e2, e3⟩ := h.len
  simp only at e1 e2 e3
  obtain ⟨l1, l2, l3⟩ := hok.2.1
  obtain ⟨N, hN, N1, N64⟩ := Fm.cells_pos (Fm.scheme_sheet hsc)
  rw [hN] at l1 l2 l3
  obtain rfl : n1 = N := by omega
  obtain rfl : n2 = n1 := by omega
  obtain rfl : n3 = n2 := by omega
  obtain ⟨m, hm⟩ : ∃ m, Fm.lst (F ++ G) = m := ⟨_, rfl⟩
  have hm1 := hok.2.2.2.1
  have hm2 := hok.2.2.2.2.1
  rw [hm] at hm1 hm2
  obtain ⟨M, hM⟩ : ∃ M : Nat, 2 ^ s.size = M := ⟨_, rfl⟩
  have hM64 : M ≤ 64 := by rw [← hM]; exact pow_le6' h6
  have e9 : IntKind.i64.wrap (2 * (M : Int)) = 2 * (M : Int) := IntWalk.i64_in _ (by omega)
  have hlp := leastPage_any ⟨a, b, A1, n3, c1, A2, n3, c2, A3, n3, c3⟩ g B F G H w hg h ⟨show n3 ≤ _ by omega, show n3 ≤ _ by omega, show n3 ≤ _ by omega⟩ N1 N1
  rw [hm] at hlp
  have HR := Lib.hid hr
  have HOK := Lib.hid hok
  have HSC := Lib.hid hsc
  have HM := Lib.hid hM
  have HL := Lib.hid hm
  have HG := Lib.hid hg
  have HF := Lib.hid h
  clear hg h hok hsc hr e1 e2 e3 l1 l2 l3 hN hm hM
  go_enter Try.func62, Try.ntmps62
  go_wp2_with fail
  refine hlp.mono ?_
  rintro e w1 ⟨rfl, hq⟩
  have hB1 := hq.below w.heap.size
  have z1 := hq.size
  have HB1 := Lib.hid hB1
  clear hlp hq hB1
  go_wp2_with fail
  refine (cellCount_any s M _ h6 HM.out.symm).mono ?_
  rintro e _ ⟨rfl, rfl⟩
  go_wp2_with fail
  go_loopw [6, 12] (fun _ i wr => ∃ k : Nat, k ≤ 2 * M ∧ i = .int .i64 k ∧ Hid (∀ j, j < k → (Fm.readL a F G H (LVs s.data.toList))[j]? = some (m + (j : Int))) ∧ Below w.heap.size w wr) (fun _ i _ => 2 * M - (intOf i).toNat)
  case atStart => exact ⟨0, Nat.zero_le _, rfl, Lib.hid (fun j hj => absurd hj (by omega)), HB1.out⟩
  case round =>
    obtain ⟨k, hk, rfl, HK, hb⟩ := hrel
    have hz := hb.size
    by_cases hlt : k < 2 * M
    · have hlt' : k < 2 * 2 ^ s.data.toList.length := by rw [toList_len, HM.out]; exact hlt
      obtain ⟨v, x, hv, hx, hrx⟩ := read_some (a := a) (F := F) (G := G) (H := H) hlt'
      have HX := Lib.hid hrx
      have hcall := readAt_any a b A1 A2 A3 n3 n3 n3 c1 c2 c3 g B F G H s k v x wr (HG.out.below hb HG.out.lt) (HF.out.below hb hB) (by omega) HOK.out HSC.out (by rw [HM.out]; exact hlt) hv hx
      have wk : IntKind.i64.wrap (m + (k : Int)) = m + (k : Int) := IntWalk.i64_in _ (by omega)
      have HBB := Lib.hid hb
      clear hv hx hrx hb hlt'
      by_cases he : x = m + (k : Int)
      · have t1 : (x != m + (k : Int)) = false := by simp [he]
        have HE := Lib.hid he
        clear he
        go_wp2_with fail
        refine hcall.mono ?_
        rintro e w5 ⟨rfl, hb5⟩
        have HB5 := Lib.hid (HBB.out.trans (hb5.mono hz))
        go_wp2_with fail
        go_roundw
        case rel =>
          refine ⟨k + 1, by omega, by go_num, Lib.hid fun j hj => ?_, HB5.out⟩
          rcases Nat.lt_or_ge j k with h | h
          · exact HK.out j h
          · obtain rfl : j = k := by omega
            rw [HX.out, HE.out]
        case measure => simp [intOf]; omega
      · have t1 : (x != m + (k : Int)) = true := by simpa using he
        have HE : Hid (r = false) := Lib.hid (by rw [← HR.out]; exact Fm.right_no HX.out (by rw [HL.out]; exact he))
        go_wp2_with fail
        refine hcall.mono ?_
        rintro e w5 ⟨rfl, hb5⟩
        have HB5 := Lib.hid (HBB.out.trans (hb5.mono hz))
        go_wp2_with fail
        go_ret
        exact ⟨ret_b HE.out.symm, HB5.out⟩
    · obtain rfl : k = 2 * M := by omega
      have HE : Hid (r = true) := Lib.hid (by
        rw [← HR.out]
        refine Fm.right_yes fun i hi => ?_
        rw [toList_len, HM.out] at hi
        rw [HL.out]
        exact HK.out i hi)
      have HBB := Lib.hid hb
      clear hb
      go_wp2_with fail
      go_ret
      exact ⟨ret_b HE.out.symm, HBB.out⟩

theorem Fm.code_no {a b : Int} {F G H : List Int} {s : List UInt8} (h : Fm.okB a b F G H = false) : Fm.code a b F G H s = 1 := by unfold Fm.code; rw [if_neg (by rw [h]; simp)]
theorem Fm.code_yes {a b : Int} {F G H : List Int} {s : List UInt8} (h : Fm.okB a b F G H = true) : Fm.code a b F G H s = Fo.code a b s := by unfold Fm.code; rw [if_pos h]
set_option maxRecDepth 100000 in
set_option maxHeartbeats 1000000 in
theorem checkForm_any (f : Fv) (B : Nat) (F G H : List Int) (s : ByteArray) (C : Int) (w : World) (h : RF w B f F G H) (hB : B ≤ w.heap.size) (hn : f.le 1048576) (hi64 : i64s F) (hi65 : i64s G) (hs : s.size ≤ 1048577) (hC : Fm.code f.a f.b F G H s.data.toList = C) :
    Calls Try.prog 57 #[f.v, .string s] w fun e w' => e = .returned (.int .i64 C) ∧ Below w.heap.size w w' := by
  obtain ⟨a, b, A1, n1, c1, A2, n2, c2, A3, n3, c3⟩ := f
  simp only at hC
  have hB0 := below_alloc w (.cells (Fv.cs ⟨a, b, A1, n1, c1, A2, n2, c2, A3, n3, c3⟩) 26)
  have hbx := FBx.new w ⟨a, b, A1, n1, c1, A2, n2, c2, A3, n3, c3⟩
  have hr0 := h.below hB0 hB
  have HC := Lib.hid hC
  have HNN := Lib.hid hn
  have HI1 := Lib.hid hi64
  have HI2 := Lib.hid hi65
  clear hC hn hi64 hi65
  go_enter Try.func57, Try.ntmps57
  go_wp2_with fail
  generalize hW : w.alloc (.cells (Fv.cs ⟨a, b, A1, n1, c1, A2, n2, c2, A3, n3, c3⟩) 26) = W0 at hB0 hbx hr0 ⊢
  have hwz : w.heap.size < W0.heap.size := by rw [← hW]; simp
  clear hW
  have hsp := implIsForm_any ⟨a, b, A1, n1, c1, A2, n2, c2, A3, n3, c3⟩ B F G H W0 hr0 (by omega) HNN.out HI1.out HI2.out
  simp only at hsp
  cases hok : Fm.okB a b F G H
  · rw [hok] at hsp
    have HE : Hid ((1 : Int) = C) := Lib.hid (by rw [← HC.out, Fm.code_no hok])
    clear hok
    refine hsp.mono ?_
    rintro e w1 ⟨rfl, hb1⟩
    have HB1 := Lib.hid (hB0.trans (hb1.mono (by omega)))
    go_wp2_with fail
    go_ret
    exact ⟨ret_i HE.out, HB1.out⟩
  · rw [hok] at hsp
    have HE : Hid (Fo.code a b s.data.toList = C) := Lib.hid (by rw [← HC.out, Fm.code_yes hok])
    clear hok
    refine hsp.mono ?_
    rintro e w1 ⟨rfl, hb1⟩
    have HB1 := Lib.hid (hB0.trans (hb1.mono (by omega)))
    obtain ⟨k0, k1, k2, k3, k4⟩ := (hbx.below hb1 hwz).fcell
    simp only at k0 k1 k2 k3 k4
    clear hb1 hB0 hbx hr0 hsp
    go_wp2_with fail
    refine (checkScheme_any a b s _ hs).mono ?_
    rintro e _ ⟨rfl, rfl⟩
    rw [HE.out]
    go_wp2_with fail
    go_ret
    exact ⟨rfl, HB1.out⟩

set_option maxRecDepth 100000 in
set_option maxHeartbeats 2000000 in
theorem implRe_any (f : Fv) (a b : Int) (ha : f.a = a) (hb : f.b = b) (B : Nat) (F G H : List Int) (s : ByteArray) (C : Int) (R : List Int) (hC : Fm.code a b F G H s.data.toList = C) (hR : Fm.reR a b F G H s.data.toList = R) (w : World) (h : RF w B f F G H) (hB : B ≤ w.heap.size) (hn : f.le 1048576) (hi64 : i64s F) (hi65 : i64s G) (hs : s.size ≤ 1048577) :
    Calls Try.prog 17 #[f.v, .string s] w fun e w' => LC w R C e w' := by
  obtain ⟨i0, hi0, hz0, hz1, hz2⟩ := info_parts infoI
  obtain ⟨a', b', A1, n1, c1, A2, n2, c2, A3, n3, c3⟩ := f
  simp only at ha hb
  subst ha hb
  have hB0 := below_alloc w (.cells (Fv.cs ⟨a', b', A1, n1, c1, A2, n2, c2, A3, n3, c3⟩) 26)
  have hbx := FBx.new w ⟨a', b', A1, n1, c1, A2, n2, c2, A3, n3, c3⟩
  have hr0 := h.below hB0 hB
  have HC := Lib.hid hC
  have HR := Lib.hid hR
  have HNN := Lib.hid hn
  have HI1 := Lib.hid hi64
  have HI2 := Lib.hid hi65
  clear hC hR hn hi64 hi65
  go_enter Try.func17, Try.ntmps17
  go_wp2_with fail
  generalize hW : w.alloc (.cells (Fv.cs ⟨a', b', A1, n1, c1, A2, n2, c2, A3, n3, c3⟩) 26) = W0 at hB0 hbx hr0 ⊢
  have hwz : w.heap.size < W0.heap.size := by rw [← hW]; simp
  clear hW
  refine (checkForm_any ⟨a', b', A1, n1, c1, A2, n2, c2, A3, n3, c3⟩ B F G H s C W0 hr0 (by omega) HNN.out HI1.out HI2.out hs HC.out).mono ?_
  rintro e w1 ⟨rfl, hb1⟩
  have hB1 := hB0.trans (hb1.mono (by omega))
  have z1 := hb1.size
  by_cases h0 : C = 0
  rotate_left
  · have HE : Hid (R = []) := Lib.hid (by rw [← HR.out]; unfold Fm.reR; rw [if_neg (by rw [HC.out]; exact h0)])
    have HB1 := Lib.hid hB1
    clear hB1 hb1 hB0 hbx hr0
    go_wp2_with fail
    go_ret2
    exact LC.nil_ HE.out rfl HB1.out
  subst h0
  have hcz := Fm.code_zero HC.out
  have HOK := Lib.hid hcz.1
  have HSC := Lib.hid (Fo.code_zero hcz.2)
  have h6 := (Fo.scheme_len HSC.out).1
  rw [toList_len] at h6
  have HE : Hid (Fm.readL a' F G H (LVs s.data.toList) = R) := Lib.hid (by rw [← HR.out]; unfold Fm.reR; rw [if_pos HC.out])
  obtain ⟨M, hM⟩ : ∃ M : Nat, 2 ^ s.size = M := ⟨_, rfl⟩
  have hM64 : M ≤ 64 := by rw [← hM]; exact pow_le6' h6
  have e9 : IntKind.i64.wrap (2 * (M : Int)) = 2 * (M : Int) := IntWalk.i64_in _ (by omega)
  have HM := Lib.hid hM
  have HLN : Hid (R.length = 2 * M) := Lib.hid (by rw [← HE.out, Fm.readL_len, LVs_len, toList_len, HM.out])
  have HG := Lib.hid (hbx.below hb1 hwz)
  have HF := Lib.hid (hr0.below hb1 (by omega))
  have HB1 := Lib.hid hB1
  clear hB1 hb1 hB0 hbx hr0 hcz hM
  go_wp2_with fail
  refine (cellCount_any s M _ h6 HM.out.symm).mono ?_
  rintro e _ ⟨rfl, rfl⟩
  go_wp2_with (at_make; refine wp_fresh _ rfl _ _ 24 rfl 2 i0 (0 : Int) 8 Try.underlying24 hi0 hz0 hz1 hz2 rfl .i64 .i64 _ _ (2 * M) rfl rfl (by omega) (by omega) (by omega) (by omega) ?_; intro gr w2 ho2 hb2)
  have z2 := hb2.size
  have HB2 := Lib.hid (HB1.out.trans (hb2.mono (by omega)))
  have HG2 := Lib.hid (HG.out.below hb2 (by omega))
  have HF2 := Lib.hid (HF.out.below hb2 (by omega))
  have hgr : w1.heap.size ≤ gr ∧ gr < w2.heap.size := by have := ho2.lt gr rfl; omega
  clear hb2
  go_loopw [8, 21] (fun _ i wr => ∃ k : Nat, k ≤ 2 * M ∧ i = .int .i64 k ∧ Own I wr w1.heap.size w2.heap.size 2 (.slice (some ⟨gr, 0, none⟩) (2 * M) (2 * M)) (R.take k ++ List.replicate (2 * M - k) 0) ∧ Hid (Only w1.heap.size w2.heap.size w2 wr)) (fun _ i _ => 2 * M - (intOf i).toNat)
  case atStart => exact ⟨0, Nat.zero_le _, rfl, by simpa using ho2, Lib.hid (Only.refl _ _ _)⟩
  case round =>
    clear ho2
    obtain ⟨k, hk, rfl, ho, HO⟩ := hrel
    have hz := HO.out.size
    by_cases hlt : k < 2 * M
    · have hlt' : k < 2 * 2 ^ s.data.toList.length := by rw [toList_len, HM.out]; exact hlt
      obtain ⟨v, x, hv, hx, hrx⟩ := read_some (a := a') (F := F) (G := G) (H := H) hlt'
      rw [HE.out] at hrx
      have HX := Lib.hid hrx
      have hcall := readAt_any a' b' A1 A2 A3 n1 n2 n3 c1 c2 c3 w.heap.size B F G H s k v x wr (HG2.out.only HO.out (.inl (by omega))) (HF2.out.only HO.out (by omega) (by omega)) (by omega) HOK.out HSC.out (by rw [HM.out]; exact hlt) hv hx
      clear hv hx hrx hlt'
      go_wp2_with fail
      refine hcall.mono ?_
      rintro e w5 ⟨rfl, hb5⟩
      have ho5 := ho.below hb5 hz
      obtain ⟨g', y, hg, hg1, hg2, hg3, hy, hc, hf⟩ := ho5.at_ hlt
      injection hg with hg
      injection hg with hg _ _
      subst hg
      have HS := Lib.hid (ho5.set_ (k := k) x)
      have HO5 := Lib.hid (HO.out.trans (Only.of_below hb5 w1.heap.size w2.heap.size))
      clear hy ho5 hb5 hcall
      go_wp2_with fail
      go_roundw
      case rel =>
        refine ⟨k + 1, by omega, by go_num, ?_, Lib.hid (HO5.out.trans HS.out.2)⟩
        have := HS.out.1
        rwa [fill_step _ _ _ _ _ HLN.out HX.out hlt] at this
      case measure => simp [intOf]; omega
    · obtain rfl : k = 2 * M := by omega
      go_wp2_with fail
      go_ret2
      refine LC.mk_ rfl rfl (lo := w1.heap.size) (hi := w2.heap.size) (by simpa [List.take_of_length_le (Nat.le_of_eq HLN.out)] using ho) (by omega) hz (by omega) (HB2.out.trans (HO.out.below (by omega) (by omega)))

set_option maxRecDepth 100000 in
set_option maxHeartbeats 2000000 in
theorem implRi_any (f : Fv) (a b : Int) (ha : f.a = a) (hb : f.b = b) (B : Nat) (F G H : List Int) (s : ByteArray) (C : Int) (R : Bool) (hC : Fm.code a b F G H s.data.toList = C) (hR : Fm.riR a b F G H s.data.toList = R) (w : World) (h : RF w B f F G H) (hB : B ≤ w.heap.size) (hn : f.le 1048576) (hi64 : i64s F) (hi65 : i64s G) (hs : s.size ≤ 1048577) :
    Calls Try.prog 19 #[f.v, .string s] w fun e w' => e = .returned (.tuple #[.bool R, .int .i64 C]) ∧ Below w.heap.size w w' := by
  obtain ⟨a', b', A1, n1, c1, A2, n2, c2, A3, n3, c3⟩ := f
  simp only at ha hb
  subst ha hb
  have hB0 := below_alloc w (.cells (Fv.cs ⟨a', b', A1, n1, c1, A2, n2, c2, A3, n3, c3⟩) 26)
  have hbx := FBx.new w ⟨a', b', A1, n1, c1, A2, n2, c2, A3, n3, c3⟩
  have hr0 := h.below hB0 hB
  have HC := Lib.hid hC
  have HR := Lib.hid hR
  have HNN := Lib.hid hn
  have HI1 := Lib.hid hi64
  have HI2 := Lib.hid hi65
  clear hC hR hn hi64 hi65
  go_enter Try.func19, Try.ntmps19
  go_wp2_with fail
  generalize hW : w.alloc (.cells (Fv.cs ⟨a', b', A1, n1, c1, A2, n2, c2, A3, n3, c3⟩) 26) = W0 at hB0 hbx hr0 ⊢
  have hwz : w.heap.size < W0.heap.size := by rw [← hW]; simp
  clear hW
  refine (checkForm_any ⟨a', b', A1, n1, c1, A2, n2, c2, A3, n3, c3⟩ B F G H s C W0 hr0 (by omega) HNN.out HI1.out HI2.out hs HC.out).mono ?_
  rintro e w1 ⟨rfl, hb1⟩
  have hB1 := hB0.trans (hb1.mono (by omega))
  have z1 := hb1.size
  by_cases h0 : C = 0
  rotate_left
  · have HE : Hid (R = false) := Lib.hid (by rw [← HR.out]; unfold Fm.riR; rw [if_neg (by rw [HC.out]; exact h0)])
    have HB1 := Lib.hid hB1
    clear hB1 hb1 hB0 hbx hr0
    go_wp2_with fail
    go_ret2
    exact ⟨by rw [HE.out]; rfl, HB1.out⟩
  subst h0
  have hcz := Fm.code_zero HC.out
  have HOK := Lib.hid hcz.1
  have HSC := Lib.hid (Fo.code_zero hcz.2)
  have HE : Hid (Fm.right a' F G H s.data.toList = R) := Lib.hid (by rw [← HR.out]; unfold Fm.riR; rw [if_pos HC.out])
  have hcall := isRight_any a' b' A1 A2 A3 n1 n2 n3 c1 c2 c3 w.heap.size B F G H s R w1 (hbx.below hb1 hwz) (hr0.below hb1 (by omega)) (by omega) HOK.out HSC.out HE.out
  have HB1 := Lib.hid hB1
  clear hB1 hb1 hB0 hbx hr0 hcz
  go_wp2_with fail
  refine hcall.mono ?_
  rintro e w2 ⟨rfl, hb2⟩
  have HB2 := Lib.hid (HB1.out.trans (hb2.mono (by omega)))
  go_wp2_with fail
  go_ret2
  exact ⟨rfl, HB2.out⟩
end Go.Proofs.Ytfiefjbipjalpaa
