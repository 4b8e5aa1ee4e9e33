/- The walk of the law FnMirroredStrips. -/
import Derived.Test.YtjpfbonnohodhaaGreatDoorStDl3
import Derived.Test.YtjpfbonnohodhaaGreatDoorStMirMath
namespace Go.Proofs.YtjpfbonnohodhaaGreatDoor
open Go.RowKit Go.Shelf

set_option maxHeartbeats 400000 in
/-- likeInts of two slices that read as one list: true. -/
theorem likeInts_true (A A' : Option Addr) (n c c' B B' : Nat) (l : List Int) (w : World) (h : Rd I w B A n l) (h' : Rd I w B' A' n l) (hn : n ≤ 1048576) :
    Calls Tryz.prog 11 #[.slice A n c, .slice A' n c'] w fun e w' => e = .returned (.bool true) ∧ Q w w' := by
  go_enter Tryz.func11, Tryz.ntmps11
  go_wp2
  go_loopw [5] (fun i wr => ∃ k : Nat, k ≤ n ∧ i = .int .i64 k ∧ Q w wr) (fun i _ => n - (intOf i).toNat)
  case atStart => exact ⟨0, Nat.zero_le _, rfl, Q.refl _⟩
  case round =>
    obtain ⟨k, hk, rfl, hq⟩ := hrel
    have h := h.q hq
    have h' := h'.q hq
    by_cases hlt : k < n
    · obtain ⟨b, o, x, rfl, hbB, hx, hc⟩ := h.at_ hlt
      obtain ⟨b', o', x', rfl, hbB', hx', hc'⟩ := h'.at_ hlt
      obtain rfl : x = x' := by rw [hx] at hx'; injection hx'
      clear hx hx'
      go_wp2
      go_quiet (fail)
      go_wp2
      go_roundw
      case rel => exact ⟨k + 1, by omega, by go_num, hq.more _⟩
      case measure => simp [intOf]; omega
    · obtain rfl : k = n := by omega
      go_wp2
      go_ret
      exact ⟨rfl, hq⟩

set_option maxRecDepth 100000 in
set_option maxHeartbeats 4000000 in
theorem w_FnMirroredStrips (A : Option Addr) (N C : Nat) (l : List Int) (w : World) (h : Rd U w w.heap.size A N l) (hl : inByte l) :
    Calls Tryz.prog 3 #[.slice A N C] w fun e w' => e = .returned (.bool true) ∧ Below w.heap.size w w' := by
  by_cases hN : N ≤ 4096
  · have HF : Hid (decide (4096 < N) = false) := decide_eq_false (by omega)
    go_enter Tryz.func3, Tryz.ntmps3
    go_wp2_with fail
    refine (big_any A N C _).mono ?_
    rintro e _ ⟨rfl, rfl⟩
    rw [HF.out]
    go_wp2_with fail
    refine (DrawMirror_any N C w.heap.size A l w h hl (Nat.le_refl _) (by omega)).mono ?_
    rintro e w1 ⟨s, rfl, hs7, hb1⟩
    have hz1 := hb1.size
    have HB1 := Lib.hid hb1
    obtain ⟨m, hm⟩ : ∃ v, mfR s.data.toList = v := ⟨_, rfl⟩
    obtain ⟨c, hc⟩ : ∃ v, mfC s.data.toList = v := ⟨_, rfl⟩
    have HM := Lib.hid hm
    have HC := Lib.hid hc
    clear hm hc hb1
    go_wp2_with fail
    refine (implMf_any s _ (by omega)).mono ?_
    rintro e w2 ⟨rfl, hb2⟩
    rw [HM.out, HC.out]
    have HB2 := Lib.hid (HB1.out.trans (hb2.mono hz1))
    have hz2 := hb2.size
    clear hb2
    go_wp2_with fail
    refine (specMf_any s _ (by omega)).mono ?_
    rintro e w3 ⟨rfl, hb3⟩
    rw [HM.out, HC.out]
    have HB3 := Lib.hid (HB2.out.trans (hb3.mono (by omega)))
    have hz3 := hb3.size
    clear hb3
    go_wp2_with fail
    refine (DrawTurn_any N C w.heap.size A l w3 (h.below HB3.out (Nat.le_refl _)) hl (by omega) (by omega)).mono ?_
    rintro e w4 ⟨Ax, nx, cx, X, rfl, rx, hnx, hX, hb4⟩
    have HB4 := Lib.hid (HB3.out.trans (hb4.mono (by omega)))
    have hz4 := hb4.size
    have HX := Lib.hid hX
    obtain ⟨R, hR⟩ : ∃ v, tsR X = v := ⟨_, rfl⟩
    obtain ⟨d, hd⟩ : ∃ v, tsC X = v := ⟨_, rfl⟩
    have HR := Lib.hid hR
    have HD := Lib.hid hd
    clear hR hd hX hb4
    go_wp2_with fail
    refine (implTs_any Ax nx cx _ X _ rx (Nat.le_refl _) hnx (fun x hx => by have := HX.out x hx; omega)).mono ?_
    rintro e w5 ⟨A5, n5, c5, rfl, o5, hn5, hb5⟩
    rw [HR.out] at o5
    rw [HD.out]
    have HB5 := Lib.hid (HB4.out.trans (hb5.mono (by omega)))
    have hz5 := hb5.size
    have rx := rx.below hb5 (Nat.le_refl _)
    have r5 := o5.rd
    clear hb5 o5
    go_wp2_with fail
    refine (specTs_any Ax nx cx _ X _ rx (by omega) hnx).mono ?_
    rintro e w6 ⟨A6, n6, c6, rfl, o6, _, hb6⟩
    rw [HR.out] at o6
    rw [HD.out]
    have HB6 := Lib.hid (HB5.out.trans (hb6.mono (by omega)))
    have hz6 := hb6.size
    have rx := rx.below hb6 (by omega)
    have r5 := r5.below hb6 (Nat.le_refl _)
    have hn56 : n6 = n5 := o6.rd.1.symm.trans r5.1
    subst hn56
    have r6 := o6.rd
    clear hb6 o6
    go_wp2_with fail
    refine (likeInts_true A5 A6 n6 c5 c6 _ _ R _ r5 r6 hn5).mono ?_
    rintro e w7 ⟨rfl, hq7⟩
    have hb7 : Below w6.heap.size w6 w7 := hq7.below _
    have HB7 := Lib.hid (HB6.out.trans (hb7.mono (by omega)))
    have hz7 := hb7.size
    have rx := rx.below hb7 (by omega)
    have r5 := r5.below hb7 (by omega)
    clear hb7 hq7 r6
    -- what follows the list's part
    by_cases hd : d = 0
    · subst hd
      have htw := ts_twice HD.out
      rw [HR.out] at htw
      have HT1 := Lib.hid htw.1
      have HT2 := Lib.hid htw.2
      have HRB : Hid (∀ x ∈ R, -9223372036854775808 ≤ x ∧ x ≤ 9223372036854775807) := by
        refine Lib.hid fun x hx => ?_
        rw [← HR.out] at hx
        unfold tsR at hx
        split at hx
        · unfold St.turn at hx
          obtain ⟨y, hy, rfl⟩ := List.mem_map.1 hx
          have := HX.out y (List.mem_reverse.1 hy)
          omega
        · cases hx
      clear htw
      go_wp2_with fail
      refine (implTs_any A5 n6 c5 _ R _ r5 (by omega) hn5 HRB.out).mono ?_
      rintro e w8 ⟨A8, n8, c8, rfl, o8, hn8, hb8⟩
      rw [HT2.out] at o8
      rw [HT1.out]
      have HB8 := Lib.hid (HB7.out.trans (hb8.mono (by omega)))
      have hz8 := hb8.size
      have rx := rx.below hb8 (by omega)
      have r8 := o8.rd
      obtain rfl : n8 = nx := r8.1.symm.trans rx.1
      clear hb8 o8
      go_wp2_with fail
      refine (likeInts_true A8 Ax n8 c8 cx _ _ X _ r8 rx hn8).mono ?_
      rintro e w9 ⟨rfl, hq9⟩
      have hb9 : Below w8.heap.size w8 w9 := hq9.below _
      have HB9 := Lib.hid (HB8.out.trans (hb9.mono (by omega)))
      have hz9 := hb9.size
      clear hb9 hq9 r8 rx r5
      by_cases hfs : St.foldsB s.data.toList = true
      · obtain rfl : c = 0 := by rw [← HC.out]; unfold mfC; rw [if_pos hfs]
        have HMM : Hid (m.data.toList = s.data.toList.map swB) := by rw [← HM.out]; unfold mfR; rw [if_pos hfs]; exact Lib.hid rfl
        have hRs : fsR s.data.toList = St.stack s.data.toList := by unfold fsR; rw [if_pos hfs]
        have HCs : Hid (fsC s.data.toList = 0) := by unfold fsC; rw [if_pos hfs]; exact Lib.hid rfl
        have hRm : fsR m.data.toList = St.stack (s.data.toList.map swB) := by rw [HMM.out]; unfold fsR; rw [if_pos (mirror_folds hfs)]
        have HCm : Hid (fsC m.data.toList = 0) := by rw [HMM.out]; unfold fsC; rw [if_pos (mirror_folds hfs)]; exact Lib.hid rfl
        have hmsz : m.size ≤ 7 := by
          have h1 := congrArg List.length HMM.out
          rw [List.length_map, toList_len, toList_len] at h1
          omega
        obtain ⟨P, hP⟩ : ∃ v, fsR s.data.toList = v := ⟨_, rfl⟩
        obtain ⟨S, hS⟩ : ∃ v, fsR m.data.toList = v := ⟨_, rfl⟩
        have HP := Lib.hid hP
        have HS := Lib.hid hS
        have HMIR : Hid (S = P.map (mirM ((P.length : Int) + 1))) := by rw [← hS, ← hP, hRm, hRs]; exact Lib.hid (mirror_stack hfs)
        have HBD : Hid (∀ x ∈ P, x ≠ 0 ∧ -64 ≤ x ∧ x ≤ 64) := by rw [← hP, hRs]; exact Lib.hid (mark_bounds hfs)
        have HLN : Hid (P.length ≤ 64) := by
          rw [← hP, hRs, stack_len _ hfs]
          exact Lib.hid (pow_le6 (St.folds_len hfs))
        clear hfs hRs hRm hP hS
        go_wp2_with fail
        refine (implFs_any s _ (by omega)).mono ?_
        rintro e wa ⟨Aa, na, ca, rfl, oa, hna, hba⟩
        rw [HP.out] at oa
        rw [HCs.out]
        have HBA := Lib.hid (HB9.out.trans (hba.mono (by omega)))
        have hza := hba.size
        have ra := oa.rd
        clear hba oa
        go_wp2_with fail
        refine (implFs_any m _ (by omega)).mono ?_
        rintro e wb ⟨Ab, nb, cb, rfl, ob, hnb, hbb⟩
        rw [HS.out] at ob
        rw [HCm.out]
        have HBB := Lib.hid (HBA.out.trans (hbb.mono (by omega)))
        have hzb := hbb.size
        have ra := ra.below hbb (Nat.le_refl _)
        have rb := ob.rd
        obtain rfl : nb = na := by
          exact rb.1.symm.trans ((congrArg List.length HMIR.out).trans ((List.length_map _).trans ra.1))
        have hn64 : nb ≤ 64 := by rw [← ra.1]; exact HLN.out
        have HAT := Lib.hid (mirror_at HMIR.out ra.1)
        have HU1 : Hid (IntKind.i64.wrap ((nb : Int) + 1) = (nb : Int) + 1) := IntWalk.i64_in _ (by omega)
        have HU2 : Hid (IntKind.i64.wrap (-((nb : Int) + 1)) = -((nb : Int) + 1)) := IntWalk.i64_in _ (by omega)
        clear hbb ob
        have u1 := HU1.out
        go_wp2_with fail
        clear u1
        go_loopw [20] (fun i wr => ∃ k : Nat, k ≤ nb ∧ i = .int .i64 (k : Int) ∧ Q wb wr) (fun i _ => nb - (intOf i).toNat)
        case atStart => exact ⟨0, Nat.zero_le _, rfl, Q.refl _⟩
        case round =>
          obtain ⟨k, hk, rfl, hq⟩ := hrel
          have ra := ra.q hq
          have rb := rb.q hq
          by_cases hlt : k < nb
          · obtain ⟨b5, o5, x, rfl, _, hx, cx5⟩ := ra.at_ hlt
            obtain ⟨b6, o6, y, rfl, _, hy, cy6⟩ := rb.at_ hlt
            have hxb := HBD.out x (List.mem_of_getElem? hx)
            have hxy : y = mirM ((nb : Int) + 1) x := HAT.out k x y hx hy
            clear hx hy ra rb
            have HQ := Lib.hid hq
            by_cases hx0 : 0 < x
            · have hy1 : y = (nb : Int) + 1 - x := by rw [hxy]; unfold mirM; rw [if_pos hx0]
              clear hxy
              have hxn : ¬ x < 0 := by omega
              have u3 : IntKind.i64.wrap ((nb : Int) + 1 - x) = (nb : Int) + 1 - x := IntWalk.i64_in _ (by omega)
              have e1 : (y != (nb : Int) + 1 - x) = false := by rw [hy1]; simp
              have g1 : decide (0 < x) = true := by simpa using hx0
              have g2 : decide (x < 0) = false := by simpa using hxn
              clear hy1
              have u1 := HU1.out
              have u2 := HU2.out
              go_wp2_with fail
              go_big_quiet (fail)
              clear u1 u2 u3
              go_wp2_with fail
              go_roundw
              case rel => exact ⟨k + 1, hlt, by go_num, HQ.out.more _⟩
              case measure => (simp [intOf]; omega)
            · have hy1 : y = -((nb : Int) + 1) - x := by rw [hxy]; unfold mirM; rw [if_neg hx0]
              clear hxy
              have hxn : x < 0 := by omega
              have u3 : IntKind.i64.wrap (-((nb : Int) + 1) - x) = -((nb : Int) + 1) - x := IntWalk.i64_in _ (by omega)
              have e1 : (y != -((nb : Int) + 1) - x) = false := by rw [hy1]; simp
              have g1 : decide (0 < x) = false := by simpa using hx0
              have g2 : decide (x < 0) = true := by simpa using hxn
              clear hy1 hx0
              have u1 := HU1.out
              have u2 := HU2.out
              go_wp2_with fail
              go_big_quiet (fail)
              clear u1 u2 u3
              go_wp2_with fail
              go_roundw
              case rel => exact ⟨k + 1, hlt, by go_num, HQ.out.more _⟩
              case measure => (simp [intOf]; omega)
          · obtain rfl : k = nb := Nat.le_antisymm hk (Nat.le_of_not_lt hlt)
            have hbq := hq.below wb.heap.size
            have HE := Lib.hid (HBB.out.trans (hbq.mono (by omega)))
            go_wp2_with fail
            go_ret
            exact ⟨rfl, HE.out⟩
      · obtain rfl : c = 1 := by rw [← HC.out]; unfold mfC; rw [if_neg hfs]
        clear hfs
        go_wp2_with fail
        go_ret
        exact ⟨rfl, HB9.out⟩
    · clear rx r5
      by_cases hfs : St.foldsB s.data.toList = true
      · obtain rfl : c = 0 := by rw [← HC.out]; unfold mfC; rw [if_pos hfs]
        have HMM : Hid (m.data.toList = s.data.toList.map swB) := by rw [← HM.out]; unfold mfR; rw [if_pos hfs]; exact Lib.hid rfl
        have hRs : fsR s.data.toList = St.stack s.data.toList := by unfold fsR; rw [if_pos hfs]
        have HCs : Hid (fsC s.data.toList = 0) := by unfold fsC; rw [if_pos hfs]; exact Lib.hid rfl
        have hRm : fsR m.data.toList = St.stack (s.data.toList.map swB) := by rw [HMM.out]; unfold fsR; rw [if_pos (mirror_folds hfs)]
        have HCm : Hid (fsC m.data.toList = 0) := by rw [HMM.out]; unfold fsC; rw [if_pos (mirror_folds hfs)]; exact Lib.hid rfl
        have hmsz : m.size ≤ 7 := by
          have h1 := congrArg List.length HMM.out
          rw [List.length_map, toList_len, toList_len] at h1
          omega
        obtain ⟨P, hP⟩ : ∃ v, fsR s.data.toList = v := ⟨_, rfl⟩
        obtain ⟨S, hS⟩ : ∃ v, fsR m.data.toList = v := ⟨_, rfl⟩
        have HP := Lib.hid hP
        have HS := Lib.hid hS
        have HMIR : Hid (S = P.map (mirM ((P.length : Int) + 1))) := by rw [← hS, ← hP, hRm, hRs]; exact Lib.hid (mirror_stack hfs)
        have HBD : Hid (∀ x ∈ P, x ≠ 0 ∧ -64 ≤ x ∧ x ≤ 64) := by rw [← hP, hRs]; exact Lib.hid (mark_bounds hfs)
        have HLN : Hid (P.length ≤ 64) := by
          rw [← hP, hRs, stack_len _ hfs]
          exact Lib.hid (pow_le6 (St.folds_len hfs))
        clear hfs hRs hRm hP hS
        go_wp2_with fail
        refine (implFs_any s _ (by omega)).mono ?_
        rintro e wa ⟨Aa, na, ca, rfl, oa, hna, hba⟩
        rw [HP.out] at oa
        rw [HCs.out]
        have HBA := Lib.hid (HB7.out.trans (hba.mono (by omega)))
        have hza := hba.size
        have ra := oa.rd
        clear hba oa
        go_wp2_with fail
        refine (implFs_any m _ (by omega)).mono ?_
        rintro e wb ⟨Ab, nb, cb, rfl, ob, hnb, hbb⟩
        rw [HS.out] at ob
        rw [HCm.out]
        have HBB := Lib.hid (HBA.out.trans (hbb.mono (by omega)))
        have hzb := hbb.size
        have ra := ra.below hbb (Nat.le_refl _)
        have rb := ob.rd
        obtain rfl : nb = na := by
          exact rb.1.symm.trans ((congrArg List.length HMIR.out).trans ((List.length_map _).trans ra.1))
        have hn64 : nb ≤ 64 := by rw [← ra.1]; exact HLN.out
        have HAT := Lib.hid (mirror_at HMIR.out ra.1)
        have HU1 : Hid (IntKind.i64.wrap ((nb : Int) + 1) = (nb : Int) + 1) := IntWalk.i64_in _ (by omega)
        have HU2 : Hid (IntKind.i64.wrap (-((nb : Int) + 1)) = -((nb : Int) + 1)) := IntWalk.i64_in _ (by omega)
        clear hbb ob
        have u1 := HU1.out
        go_wp2_with fail
        clear u1
        go_loopw [20] (fun i wr => ∃ k : Nat, k ≤ nb ∧ i = .int .i64 (k : Int) ∧ Q wb wr) (fun i _ => nb - (intOf i).toNat)
        case atStart => exact ⟨0, Nat.zero_le _, rfl, Q.refl _⟩
        case round =>
          obtain ⟨k, hk, rfl, hq⟩ := hrel
          have ra := ra.q hq
          have rb := rb.q hq
          by_cases hlt : k < nb
          · obtain ⟨b5, o5, x, rfl, _, hx, cx5⟩ := ra.at_ hlt
            obtain ⟨b6, o6, y, rfl, _, hy, cy6⟩ := rb.at_ hlt
            have hxb := HBD.out x (List.mem_of_getElem? hx)
            have hxy : y = mirM ((nb : Int) + 1) x := HAT.out k x y hx hy
            clear hx hy ra rb
            have HQ := Lib.hid hq
            by_cases hx0 : 0 < x
            · have hy1 : y = (nb : Int) + 1 - x := by rw [hxy]; unfold mirM; rw [if_pos hx0]
              clear hxy
              have hxn : ¬ x < 0 := by omega
              have u3 : IntKind.i64.wrap ((nb : Int) + 1 - x) = (nb : Int) + 1 - x := IntWalk.i64_in _ (by omega)
              have e1 : (y != (nb : Int) + 1 - x) = false := by rw [hy1]; simp
              have g1 : decide (0 < x) = true := by simpa using hx0
              have g2 : decide (x < 0) = false := by simpa using hxn
              clear hy1
              have u1 := HU1.out
              have u2 := HU2.out
              go_wp2_with fail
              go_big_quiet (fail)
              clear u1 u2 u3
              go_wp2_with fail
              go_roundw
              case rel => exact ⟨k + 1, hlt, by go_num, HQ.out.more _⟩
              case measure => (simp [intOf]; omega)
            · have hy1 : y = -((nb : Int) + 1) - x := by rw [hxy]; unfold mirM; rw [if_neg hx0]
              clear hxy
              have hxn : x < 0 := by omega
              have u3 : IntKind.i64.wrap (-((nb : Int) + 1) - x) = -((nb : Int) + 1) - x := IntWalk.i64_in _ (by omega)
              have e1 : (y != -((nb : Int) + 1) - x) = false := by rw [hy1]; simp
              have g1 : decide (0 < x) = false := by simpa using hx0
              have g2 : decide (x < 0) = true := by simpa using hxn
              clear hy1 hx0
              have u1 := HU1.out
              have u2 := HU2.out
              go_wp2_with fail
              go_big_quiet (fail)
              clear u1 u2 u3
              go_wp2_with fail
              go_roundw
              case rel => exact ⟨k + 1, hlt, by go_num, HQ.out.more _⟩
              case measure => (simp [intOf]; omega)
          · obtain rfl : k = nb := Nat.le_antisymm hk (Nat.le_of_not_lt hlt)
            have hbq := hq.below wb.heap.size
            have HE := Lib.hid (HBB.out.trans (hbq.mono (by omega)))
            go_wp2_with fail
            go_ret
            exact ⟨rfl, HE.out⟩
      · obtain rfl : c = 1 := by rw [← HC.out]; unfold mfC; rw [if_neg hfs]
        clear hfs
        go_wp2_with fail
        go_ret
        exact ⟨rfl, HB7.out⟩
  · have HF : Hid (decide (4096 < N) = true) := decide_eq_true (by omega)
    go_enter Tryz.func3, Tryz.ntmps3
    go_wp2_with fail
    refine (big_any A N C _).mono ?_
    rintro e _ ⟨rfl, rfl⟩
    rw [HF.out]
    go_wp2_with fail
    go_ret
    exact ⟨rfl, Below.refl _ _⟩
end Go.Proofs.YtjpfbonnohodhaaGreatDoor
