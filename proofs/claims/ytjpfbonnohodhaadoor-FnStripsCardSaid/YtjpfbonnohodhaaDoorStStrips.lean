/- The walk of the law FnStrips. -/
import Derived.Test.YtjpfbonnohodhaaDoorStDl2
import Derived.Test.YtjpfbonnohodhaaDoorStStMath
namespace Go.Proofs.YtjpfbonnohodhaaDoor
open Go.RowKit Go.Shelf

set_option maxHeartbeats 400000 in
/-- likeInts of two slices that read as one list: true. -/
theorem likeInts_true (A A' : Option Addr) (n c c' B B' : Nat) (l : List Int) (w : World) (h : Rd I w B A n l) (h' : Rd I w B' A' n l) (hn : n ≤ 1048576) :
    Calls Tryd.prog 22 #[.slice A n c, .slice A' n c'] w fun e w' => e = .returned (.bool true) ∧ Q w w' := by
  go_enter Tryd.func22, Tryd.ntmps22
  go_wp2
  go_loopw [5] (fun i wr => ∃ k : Nat, k ≤ n ∧ i = .int .i64 k ∧ Q w wr) (fun i _ => n - (intOf i).toNat)
  case atStart => exact ⟨0, Nat.zero_le _, rfl, Q.refl _⟩
  case round =>
    obtain ⟨k, hk, rfl, hq⟩ := hrel
    have h := h.q hq
    have h' := h'.q hq
    by_cases hlt : k < n
    · obtain ⟨b, o, x, rfl, hbB, hx, hc⟩ := h.at_ hlt
      obtain ⟨b', o', x', rfl, hbB', hx', hc'⟩ := h'.at_ hlt
      obtain rfl : x = x' := by rw [hx] at hx'; injection hx'
      clear hx hx'
      go_wp2
      go_quiet (fail)
      go_wp2
      go_roundw
      case rel => exact ⟨k + 1, by omega, by go_num, hq.more _⟩
      case measure => simp [intOf]; omega
    · obtain rfl : k = n := by omega
      go_wp2
      go_ret
      exact ⟨rfl, hq⟩

set_option maxRecDepth 100000 in
set_option maxHeartbeats 4000000 in
theorem w_FnStrips (A : Option Addr) (N C : Nat) (l : List Int) (w : World) (h : Rd U w w.heap.size A N l) (hl : inByte l) :
    Calls Tryd.prog 3 #[.slice A N C] w fun e w' => e = .returned (.bool true) ∧ Below w.heap.size w w' := by
  by_cases hN : N ≤ 4096
  · have HF : Hid (decide (4096 < N) = false) := decide_eq_false (by omega)
    go_enter Tryd.func3, Tryd.ntmps3
    go_wp2_with fail
    refine (big_any A N C _).mono ?_
    rintro e _ ⟨rfl, rfl⟩
    rw [HF.out]
    go_wp2_with fail
    refine (DrawFold_any N C w.heap.size A l w h hl (Nat.le_refl _) (by omega)).mono ?_
    rintro e w1 ⟨s, rfl, hs7, hb1⟩
    have hz1 := hb1.size
    have HB1 := Lib.hid hb1
    obtain ⟨R, hR⟩ : ∃ v, fsR s.data.toList = v := ⟨_, rfl⟩
    obtain ⟨c, hc⟩ : ∃ v, fsC s.data.toList = v := ⟨_, rfl⟩
    have HR := Lib.hid hR
    have HC := Lib.hid hc
    clear hR hc hb1
    go_wp2_with fail
    refine (implFs_any s _ (by omega)).mono ?_
    rintro e w2 ⟨A1, n1, c1, rfl, o1, hn1, hb2⟩
    rw [HR.out] at o1
    rw [HC.out]
    have HB2 := Lib.hid (HB1.out.trans (hb2.mono hz1))
    have hz2 := hb2.size
    clear hb2
    go_wp2_with fail
    refine (specFs_any s _ (by omega)).mono ?_
    rintro e w3 ⟨A2, n2, c2, rfl, o2, _, hb3⟩
    rw [HR.out] at o2
    rw [HC.out]
    have r1 := (o1.below hb3 (Nat.le_refl _)).rd
    have HB3 := Lib.hid (HB2.out.trans (hb3.mono (by omega)))
    have hz3 := hb3.size
    have hn12 : n2 = n1 := o2.rd.1.symm.trans o1.rd.1
    subst hn12
    have r2 := o2.rd
    clear hb3 o1 o2
    go_wp2_with fail
    refine (DrawFind_any N C w.heap.size A l w3 (h.below HB3.out (Nat.le_refl _)) hl (by omega) (by omega)).mono ?_
    rintro e w4 ⟨Ax, nx, cx, X, rfl, rx, hnx, hX, hb4⟩
    have HB4 := Lib.hid (HB3.out.trans (hb4.mono (by omega)))
    have hz4 := hb4.size
    have r1 := r1.below hb4 (by omega)
    have r2 := r2.below hb4 (Nat.le_refl _)
    have HX := Lib.hid hX
    obtain ⟨f, hf⟩ : ∃ v, ffR X = v := ⟨_, rfl⟩
    obtain ⟨d, hd⟩ : ∃ v, ffC X = v := ⟨_, rfl⟩
    have HFR := Lib.hid hf
    have HFC := Lib.hid hd
    clear hf hd hX hb4
    go_wp2_with fail
    refine (implFf_any Ax nx cx _ X _ rx (Nat.le_refl _) hnx (fun x hx => by have := HX.out x hx; omega)).mono ?_
    rintro e w5 ⟨rfl, hb5⟩
    rw [HFR.out, HFC.out]
    have HB5 := Lib.hid (HB4.out.trans (hb5.mono (by omega)))
    have hz5 := hb5.size
    have r1 := r1.below hb5 (by omega)
    have r2 := r2.below hb5 (by omega)
    have rx := rx.below hb5 (Nat.le_refl _)
    clear hb5
    go_wp2_with fail
    refine (specFf_any Ax nx cx _ X _ rx (by omega) hnx).mono ?_
    rintro e w6 ⟨rfl, hb6⟩
    rw [HFR.out, HFC.out]
    have HB6 := Lib.hid (HB5.out.trans (hb6.mono (by omega)))
    have hz6 := hb6.size
    have r1 := r1.below hb6 (by omega)
    have r2 := r2.below hb6 (by omega)
    have rx := rx.below hb6 (by omega)
    clear hb6
    go_wp2_with fail
    refine (DrawPlace_any N C w.heap.size A l w6 (h.below HB6.out (Nat.le_refl _)) hl (by omega) (by omega)).mono ?_
    rintro e w7 ⟨t, y, rfl, ht7, hy, hb7⟩
    have HB7 := Lib.hid (HB6.out.trans (hb7.mono (by omega)))
    have hz7 := hb7.size
    have r1 := r1.below hb7 (by omega)
    have r2 := r2.below hb7 (by omega)
    have rx := rx.below hb7 (by omega)
    obtain ⟨pr, hpr⟩ : ∃ v, plR t.data.toList y = v := ⟨_, rfl⟩
    obtain ⟨pc, hpc⟩ : ∃ v, plC t.data.toList y = v := ⟨_, rfl⟩
    have HPR := Lib.hid hpr
    have HPC := Lib.hid hpc
    clear hpr hpc hb7
    go_wp2_with fail
    refine (implPl_any t y _ (by omega)).mono ?_
    rintro e w8 ⟨rfl, hb8⟩
    rw [HPR.out, HPC.out]
    have HB8 := Lib.hid (HB7.out.trans (hb8.mono (by omega)))
    have hz8 := hb8.size
    have r1 := r1.below hb8 (by omega)
    have r2 := r2.below hb8 (by omega)
    have rx := rx.below hb8 (by omega)
    clear hb8
    go_wp2_with fail
    refine (specPl_any t y _ (by omega)).mono ?_
    rintro e w9 ⟨rfl, hb9⟩
    rw [HPR.out, HPC.out]
    have HB9 := Lib.hid (HB8.out.trans (hb9.mono (by omega)))
    have hz9 := hb9.size
    have r1 := r1.below hb9 (by omega)
    have r2 := r2.below hb9 (by omega)
    have rx := rx.below hb9 (by omega)
    obtain ⟨cu, hcu⟩ : ∃ v, cfU s.data.toList = v := ⟨_, rfl⟩
    obtain ⟨cd, hcd⟩ : ∃ v, cfD s.data.toList = v := ⟨_, rfl⟩
    have HCU := Lib.hid hcu
    have HCD := Lib.hid hcd
    clear hcu hcd hb9
    go_wp2_with fail
    refine (implCf_any s _ (by omega)).mono ?_
    rintro e w10 ⟨rfl, hb10⟩
    rw [HCU.out, HCD.out, HC.out]
    have HB10 := Lib.hid (HB9.out.trans (hb10.mono (by omega)))
    have hz10 := hb10.size
    have r1 := r1.below hb10 (by omega)
    have r2 := r2.below hb10 (by omega)
    have rx := rx.below hb10 (by omega)
    clear hb10
    go_wp2_with fail
    refine (specCf_any s _ (by omega)).mono ?_
    rintro e w11 ⟨rfl, hb11⟩
    rw [HCU.out, HCD.out, HC.out]
    have HB11 := Lib.hid (HB10.out.trans (hb11.mono (by omega)))
    have hz11 := hb11.size
    have r1 := r1.below hb11 (by omega)
    have r2 := r2.below hb11 (by omega)
    have rx := rx.below hb11 (by omega)
    clear hb11
    go_wp2_with fail
    refine (likeInts_true A1 A2 n2 c1 c2 _ _ R _ r1 r2 hn1).mono ?_
    rintro e w12 ⟨rfl, hq12⟩
    have hb12 : Below w11.heap.size w11 w12 := hq12.below _
    have HB12 := Lib.hid (HB11.out.trans (hb12.mono (by omega)))
    have hz12 := hb12.size
    have r1 := r1.below hb12 (by omega)
    have rx := rx.below hb12 (by omega)
    clear hb12 hq12 r2
    obtain ⟨fb, hfb⟩ : ∃ v, St.foldsB s.data.toList = v := ⟨_, rfl⟩
    have HFB := Lib.hid hfb
    clear hfb
    go_wp2_with fail
    refine (implIsFolds_any s _ (by omega)).mono ?_
    rintro e w13 ⟨rfl, hb13⟩
    rw [HFB.out]
    have HB13 := Lib.hid (HB12.out.trans (hb13.mono (by omega)))
    have hz13 := hb13.size
    have r1 := r1.below hb13 (by omega)
    have rx := rx.below hb13 (by omega)
    clear hb13
    go_wp2_with fail
    refine (specIsFolds_any s _ (by omega)).mono ?_
    rintro e _ ⟨rfl, rfl⟩
    rw [HFB.out]
    have REST : ∀ W : World, w13.heap.size ≤ W.heap.size → Below w.heap.size w W → Rd I W w13.heap.size A1 n2 R → True := fun _ _ _ _ => trivial
    clear REST
    by_cases hd : d = 0
    · subst hd
      obtain ⟨rf, hrf, hfc, hfr⟩ := ff_back HFC.out
      have HFS : Hid (f.data.toList = rf) := by rw [← HFR.out, hrf]; exact Lib.hid rfl
      have h6f : f.size ≤ 6 := by
        have hff : St.foldsB f.data.toList = true := by
          rw [HFS.out]
          unfold fsC at hfc
          by_cases hq : St.foldsB rf = true
          · exact hq
          · rw [if_neg hq] at hfc
            cases hfc
        exact St.folds_len hff
      have HFC2 := Lib.hid hfc
      have HFR2 := Lib.hid hfr
      clear hrf hfc hfr
      go_wp2_with fail
      refine (implFs_any f _ (by omega)).mono ?_
      rintro e w14 ⟨A3, n3, c3, rfl, o3, hn3, hb14⟩
      rw [HFS.out, HFR2.out] at o3
      rw [HFS.out, HFC2.out]
      have HB14 := Lib.hid (HB13.out.trans (hb14.mono (by omega)))
      have hz14 := hb14.size
      have r1 := r1.below hb14 (by omega)
      have rx := rx.below hb14 (by omega)
      have r3 := o3.rd
      have hn3x : nx = n3 := rx.1.symm.trans r3.1
      clear hb14 o3
      subst hn3x
      go_wp2_with fail
      refine (likeInts_true A3 Ax nx c3 cx _ _ X _ r3 rx hnx).mono ?_
      rintro e w15 ⟨rfl, hq15⟩
      have hb15 : Below w14.heap.size w14 w15 := hq15.below _
      have HBW := Lib.hid (HB14.out.trans (hb15.mono (by omega)))
      have hz15 := hb15.size
      have r1 := r1.below hb15 (by omega)
      clear hb15 hq15 r3 rx
      by_cases hfs : St.foldsB s.data.toList = true
      · obtain rfl : c = 0 := by rw [← HC.out]; unfold fsC; rw [if_pos hfs]
        have hRs : fsR s.data.toList = St.stack s.data.toList := by unfold fsR; rw [if_pos hfs]
        have HFO : Hid (ffR R = s) := by rw [← HR.out, (ff_own hfs).1]; exact Lib.hid (by cases s; simp)
        have HFC0 : Hid (ffC R = 0) := by rw [← HR.out]; exact Lib.hid (ff_own hfs).2
        have HRB : Hid (∀ x ∈ R, -1000 ≤ x ∧ x ≤ 1000) := by rw [← HR.out, hRs]; exact Lib.hid (stack_small hfs)
        have HPL : Hid (∀ (k : Nat) (x : Int), R[k]? = some x → plR s.data.toList (St.cellOf x) = (k : Int) ∧ plC s.data.toList (St.cellOf x) = 0) := Lib.hid (fun k x hx => pl_own hfs (by rw [← hRs, HR.out]; exact hx))
        have HSUM : Hid (cu + cd = (n2 : Int)) := by rw [← HCU.out, ← HCD.out, cf_sum _ hfs, ← hRs, HR.out, r1.1]; exact Lib.hid rfl
        have HEV : Hid (¬ s.data.toList = [] → cu = cd) := by rw [← HCU.out, ← HCD.out]; exact Lib.hid (cf_even _ hfs)
        clear hfs hRs
        go_wp2_with fail
        refine (implFf_any A1 n2 c1 _ R _ r1 (by omega) hn1 (fun x hx => by have := HRB.out x hx; omega)).mono ?_
        rintro e wa ⟨rfl, hba⟩
        rw [HFO.out, HFC0.out]
        have HBA := Lib.hid (HBW.out.trans (hba.mono (by omega)))
        have hza := hba.size
        have r1 := r1.below hba (by omega)
        clear hba
        go_wp2_with fail
        go_loopw [29] (fun i wr => ∃ k : Nat, k ≤ n2 ∧ i = .int .i64 (k : Int) ∧ Below w.heap.size w wr ∧ Rd I wr w2.heap.size A1 n2 R ∧ w2.heap.size ≤ wr.heap.size) (fun i _ => n2 - (intOf i).toNat)
        case atStart => exact ⟨0, Nat.zero_le _, rfl, HBA.out, r1, by omega⟩
        case round =>
          clear r1
          obtain ⟨k, hk, rfl, hb, r1, hzr⟩ := hrel
          have HBR := Lib.hid hb
          have hzw := hb.size
          clear hb
          by_cases hlt : k < n2
          · obtain ⟨b5, o5, x, rfl, _, hx, cx⟩ := r1.at_ hlt
            have hxb := HRB.out x (List.mem_of_getElem? hx)
            have HPK := Lib.hid (HPL.out k x hx)
            have HRD := Lib.hid r1
            clear hx r1
            obtain ⟨a, ha⟩ : ∃ a : Int, a = (x.natAbs : Int) := ⟨_, rfl⟩
            obtain ⟨q, hq⟩ : ∃ q : Int, q = St.cellOf x := ⟨_, rfl⟩
            rw [← hq] at HPK
            have hqa : q = a - 1 := by rw [hq, ha]; unfold St.cellOf; omega
            have u1 : IntKind.i64.wrap (-x) = -x := IntWalk.i64_in _ (by omega)
            have em1 : (if x < -x then -x else x) = a := by split <;> omega
            have em2 : max x (-x) = a := by omega
            have u3 : IntKind.i64.wrap (a - 1) = q := by rw [IntWalk.i64_in _ (by omega)]; omega
            have hlt' : decide ((k : Int) < (n2 : Int)) = true := by simp; omega
            clear ha hq hqa
            go_wp2_with fail
            go_region_law ((go_simp; go_at_call 18; refine (implPl_any s q _ (by omega)).mono ?_; rintro e wb ⟨rfl, hbb⟩; rw [HPK.out.1, HPK.out.2]; have hbc : Below wr.heap.size wr wb := ⟨hbb.os, hbb.tape, hbb.output, hbb.size, hbb.block⟩; have HBB : Hid (Below w.heap.size w wb ∧ Rd I wb w2.heap.size (some ⟨b5, o5, none⟩) n2 R ∧ w2.heap.size ≤ wb.heap.size) := Lib.hid ⟨HBR.out.trans (hbc.mono (by omega)), HRD.out.below hbc (by omega), Nat.le_trans hzr hbc.size⟩; clear hbb hbc))
            all_goals go_wp2_with fail
            all_goals (go_roundw; (case rel => exact ⟨k + 1, by omega, by go_num, HBB.out.1, HBB.out.2.1, HBB.out.2.2⟩); (case measure => (simp [intOf]; omega)))
          · obtain rfl : k = n2 := by omega
            have hlt' : decide ((k : Int) < (k : Int)) = false := by simp
            have e9 : IntKind.i64.wrap (cu + cd) = (k : Int) := by rw [HSUM.out]; exact IntWalk.i64_in _ (by omega)
            by_cases hn : s.data.toList = []
            · have hn0 : s = ⟨#[]⟩ := by cases s; simp_all
              subst hn0
              clear hn
              go_wp2_with fail
              go_ret
              exact ⟨rfl, HBR.out⟩
            · obtain rfl := HEV.out hn
              have hne : ¬ s.toList = [] := by rw [Lib.toList_data]; exact hn
              have hne2 : s.toList.isEmpty = false := by simpa using hne
              clear hn
              go_wp2_with fail
              go_ret
              exact ⟨rfl, HBR.out⟩
      · obtain rfl : c = 1 := by rw [← HC.out]; unfold fsC; rw [if_neg hfs]
        clear hfs
        go_wp2_with fail
        go_ret
        exact ⟨rfl, HBW.out⟩
    · have HBW := HB13
      by_cases hfs : St.foldsB s.data.toList = true
      · obtain rfl : c = 0 := by rw [← HC.out]; unfold fsC; rw [if_pos hfs]
        have hRs : fsR s.data.toList = St.stack s.data.toList := by unfold fsR; rw [if_pos hfs]
        have HFO : Hid (ffR R = s) := by rw [← HR.out, (ff_own hfs).1]; exact Lib.hid (by cases s; simp)
        have HFC0 : Hid (ffC R = 0) := by rw [← HR.out]; exact Lib.hid (ff_own hfs).2
        have HRB : Hid (∀ x ∈ R, -1000 ≤ x ∧ x ≤ 1000) := by rw [← HR.out, hRs]; exact Lib.hid (stack_small hfs)
        have HPL : Hid (∀ (k : Nat) (x : Int), R[k]? = some x → plR s.data.toList (St.cellOf x) = (k : Int) ∧ plC s.data.toList (St.cellOf x) = 0) := Lib.hid (fun k x hx => pl_own hfs (by rw [← hRs, HR.out]; exact hx))
        have HSUM : Hid (cu + cd = (n2 : Int)) := by rw [← HCU.out, ← HCD.out, cf_sum _ hfs, ← hRs, HR.out, r1.1]; exact Lib.hid rfl
        have HEV : Hid (¬ s.data.toList = [] → cu = cd) := by rw [← HCU.out, ← HCD.out]; exact Lib.hid (cf_even _ hfs)
        clear hfs hRs
        go_wp2_with fail
        refine (implFf_any A1 n2 c1 _ R _ r1 (by omega) hn1 (fun x hx => by have := HRB.out x hx; omega)).mono ?_
        rintro e wa ⟨rfl, hba⟩
        rw [HFO.out, HFC0.out]
        have HBA := Lib.hid (HBW.out.trans (hba.mono (by omega)))
        have hza := hba.size
        have r1 := r1.below hba (by omega)
        clear hba
        go_wp2_with fail
        go_loopw [29] (fun i wr => ∃ k : Nat, k ≤ n2 ∧ i = .int .i64 (k : Int) ∧ Below w.heap.size w wr ∧ Rd I wr w2.heap.size A1 n2 R ∧ w2.heap.size ≤ wr.heap.size) (fun i _ => n2 - (intOf i).toNat)
        case atStart => exact ⟨0, Nat.zero_le _, rfl, HBA.out, r1, by omega⟩
        case round =>
          clear r1
          obtain ⟨k, hk, rfl, hb, r1, hzr⟩ := hrel
          have HBR := Lib.hid hb
          have hzw := hb.size
          clear hb
          by_cases hlt : k < n2
          · obtain ⟨b5, o5, x, rfl, _, hx, cx⟩ := r1.at_ hlt
            have hxb := HRB.out x (List.mem_of_getElem? hx)
            have HPK := Lib.hid (HPL.out k x hx)
            have HRD := Lib.hid r1
            clear hx r1
            obtain ⟨a, ha⟩ : ∃ a : Int, a = (x.natAbs : Int) := ⟨_, rfl⟩
            obtain ⟨q, hq⟩ : ∃ q : Int, q = St.cellOf x := ⟨_, rfl⟩
            rw [← hq] at HPK
            have hqa : q = a - 1 := by rw [hq, ha]; unfold St.cellOf; omega
            have u1 : IntKind.i64.wrap (-x) = -x := IntWalk.i64_in _ (by omega)
            have em1 : (if x < -x then -x else x) = a := by split <;> omega
            have em2 : max x (-x) = a := by omega
            have u3 : IntKind.i64.wrap (a - 1) = q := by rw [IntWalk.i64_in _ (by omega)]; omega
            have hlt' : decide ((k : Int) < (n2 : Int)) = true := by simp; omega
            clear ha hq hqa
            go_wp2_with fail
            go_region_law ((go_simp; go_at_call 18; refine (implPl_any s q _ (by omega)).mono ?_; rintro e wb ⟨rfl, hbb⟩; rw [HPK.out.1, HPK.out.2]; have hbc : Below wr.heap.size wr wb := ⟨hbb.os, hbb.tape, hbb.output, hbb.size, hbb.block⟩; have HBB : Hid (Below w.heap.size w wb ∧ Rd I wb w2.heap.size (some ⟨b5, o5, none⟩) n2 R ∧ w2.heap.size ≤ wb.heap.size) := Lib.hid ⟨HBR.out.trans (hbc.mono (by omega)), HRD.out.below hbc (by omega), Nat.le_trans hzr hbc.size⟩; clear hbb hbc))
            all_goals go_wp2_with fail
            all_goals (go_roundw; (case rel => exact ⟨k + 1, by omega, by go_num, HBB.out.1, HBB.out.2.1, HBB.out.2.2⟩); (case measure => (simp [intOf]; omega)))
          · obtain rfl : k = n2 := by omega
            have hlt' : decide ((k : Int) < (k : Int)) = false := by simp
            have e9 : IntKind.i64.wrap (cu + cd) = (k : Int) := by rw [HSUM.out]; exact IntWalk.i64_in _ (by omega)
            by_cases hn : s.data.toList = []
            · have hn0 : s = ⟨#[]⟩ := by cases s; simp_all
              subst hn0
              clear hn
              go_wp2_with fail
              go_ret
              exact ⟨rfl, HBR.out⟩
            · obtain rfl := HEV.out hn
              have hne : ¬ s.toList = [] := by rw [Lib.toList_data]; exact hn
              have hne2 : s.toList.isEmpty = false := by simpa using hne
              clear hn
              go_wp2_with fail
              go_ret
              exact ⟨rfl, HBR.out⟩
      · obtain rfl : c = 1 := by rw [← HC.out]; unfold fsC; rw [if_neg hfs]
        clear hfs
        go_wp2_with fail
        go_ret
        exact ⟨rfl, HBW.out⟩
  · have HF : Hid (decide (4096 < N) = true) := decide_eq_true (by omega)
    go_enter Tryd.func3, Tryd.ntmps3
    go_wp2_with fail
    refine (big_any A N C _).mono ?_
    rintro e _ ⟨rfl, rfl⟩
    rw [HF.out]
    go_wp2_with fail
    go_ret
    exact ⟨rfl, Below.refl _ _⟩
end Go.Proofs.YtjpfbonnohodhaaDoor
