/- The contract of the model's list of all leaves of a scheme. -/
import Derived.Test.YtfiefjbipjalpaaFoAl
import Derived.Test.YtfiefjbipjalpaaFoAc
import Derived.Test.YtfiefjbipjalpaaFoLv
namespace Go.Proofs.Ytfiefjbipjalpaa
open Go.RowKit

theorem turn_map (al : Bool) (l : List Fo.Lf) : (Fo.turn al l).map Fo.Lf.v = turnV al (l.map Fo.Lf.v) := by
  unfold Fo.turn turnV
  rw [List.map_reverse, List.map_map, List.map_map]
  congr 1
  apply List.map_congr_left
  intro x _
  cases al <;> rfl
/-- The piles after the letters r, the last one first. -/
def grid (r : List UInt8) (ww hh y x : Nat) : List Lv := (Fo.stk r ww hh x y).map Fo.Lf.v
theorem grid_len (r : List UInt8) (ww hh y x : Nat) : (grid r ww hh y x).length = 2 ^ r.length := by simp [grid, Fo.stk_len]
theorem grid_nil (ww hh : Nat) : grid [] ww hh = flat := by
  funext y x
  rfl
theorem grid_X (c : UInt8) (r : List UInt8) (ww hh : Nat) (hc : Fo.isX c = true) :
    (fun y x => turnV true (grid r (2 * ww) hh y (Fo.ab x ww true (c == 76))) ++ grid r (2 * ww) hh y (Fo.ab x ww false (c == 76))) = grid (c :: r) ww hh := by
  funext y x
  unfold grid
  rw [Fo.stk_X _ _ _ _ _ _ hc, List.map_append, turn_map]
theorem grid_Y (c : UInt8) (r : List UInt8) (ww hh : Nat) (hc : Fo.isX c = false) :
    (fun y x => turnV false (grid r ww (2 * hh) (Fo.ab y hh true (c == 84)) x) ++ grid r ww (2 * hh) (Fo.ab y hh false (c == 84)) x) = grid (c :: r) ww hh := by
  funext y x
  unfold grid
  rw [Fo.stk_Y _ _ _ _ _ _ hc, List.map_append, turn_map]
theorem grid_last (l : List UInt8) : grid l.reverse 1 1 0 0 = LVs l := rfl
theorem take_rev (l : List UInt8) (k : Nat) (c : UInt8) (hc : l[k]? = some c) : (l.take (k + 1)).reverse = c :: (l.take k).reverse := by
  rw [take_more l k c hc, List.reverse_append]
  rfl
theorem drop_cons (l : List UInt8) (k : Nat) (c : UInt8) (hc : l[k]? = some c) : l.drop k = c :: l.drop (k + 1) := by
  have hlt := (List.getElem?_eq_some_iff.1 hc).1
  rw [List.drop_eq_getElem_cons hlt]
  congr 1
  rw [List.getElem?_eq_getElem hlt] at hc
  injection hc
theorem nX_drop (l : List UInt8) (k : Nat) : Fo.nX (l.drop k) ≤ Fo.nX l := (List.drop_sublist k l).countP_le
theorem nY_drop (l : List UInt8) (k : Nat) : Fo.nY (l.drop k) ≤ Fo.nY l := (List.drop_sublist k l).countP_le
theorem pow3 {k : Nat} (h : k ≤ 3) : 2 ^ k ≤ 8 := Nat.le_trans (Nat.pow_le_pow_right (by omega) h) (by decide)
theorem pow2 {k : Nat} (h : k ≤ 2) : 2 ^ k ≤ 4 := Nat.le_trans (Nat.pow_le_pow_right (by omega) h) (by decide)
theorem ok_at {l : List UInt8} {k : Nat} {c : UInt8} (h : Fo.ok l = true) (hc : l[k]? = some c) : Fo.isX c = true ∨ Fo.isY c = true := by
  unfold Fo.ok at h
  rw [List.all_eq_true] at h
  simpa using h c (List.mem_of_getElem? hc)

set_option maxRecDepth 100000 in
set_option maxHeartbeats 4000000 in
theorem specLv_any (a b : Int) (s : ByteArray) (w : World) (hsc : Fo.scheme a b s.data.toList = true) :
    Calls Try.prog 98 #[.int .i64 a, .int .i64 b, .string s] w fun e w' => ∃ A n c, e = .returned (.slice A n c) ∧ OwnV w' w.heap.size w'.heap.size (.slice A n c) (LVs s.data.toList) ∧ n ≤ 64 ∧ Below w.heap.size w w' := by
  obtain ⟨h6, hX, hY, ha, hb0, hok⟩ := Fo.scheme_len hsc
  rw [toList_len] at h6
  obtain ⟨a1, a3⟩ := Fo.side_pow ha
  obtain ⟨b1, b3⟩ := Fo.side_pow hb0
  rw [← hX] at a1 a3
  rw [← hY] at b1 b3
  obtain ⟨W, hW⟩ : ∃ W : Nat, W = 2 ^ Fo.nX s.data.toList := ⟨_, rfl⟩
  obtain ⟨H, hH⟩ : ∃ H : Nat, H = 2 ^ Fo.nY s.data.toList := ⟨_, rfl⟩
  rw [← hW] at a1
  rw [← hH] at b1
  subst a1 b1
  have hW8 : W ≤ 8 := by rw [hW]; exact pow3 a3
  have hH8 : H ≤ 8 := by rw [hH]; exact pow3 b3
  have HA := Lib.hid (And.intro a3 b3)
  have HOK := Lib.hid hok
  have HW := Lib.hid hW
  have HH := Lib.hid hH
  clear hX hY ha hb0 hok hsc a3 b3 hW hH
  go_enter Try.func98, Try.ntmps98
  go_wp2_with fail
  refine (start_any W H _ hW8 hH8).mono ?_
  rintro e w1 ⟨A1, c1, rfl, hg1, hb1⟩
  have hz1 := hb1.size
  go_wp2_with fail
  go_loopw [7, 8] (fun v i wr => ∃ k hh ww : Nat, k ≤ s.size ∧ i = .int .i64 (k : Int) ∧ Hid (hh = 2 ^ Fo.nY (s.data.toList.drop k) ∧ ww = 2 ^ Fo.nX (s.data.toList.drop k)) ∧ (∃ A3 c3, v = .slice A3 hh c3 ∧ GridF wr w.heap.size wr.heap.size ⟨A3, hh, c3⟩ hh ww (grid (s.data.toList.take k).reverse ww hh)) ∧ Below w.heap.size w wr) (fun _ i _ => s.size - (intOf i).toNat)
  case atStart => exact ⟨0, H, W, Nat.zero_le _, rfl, Lib.hid ⟨HH.out, HW.out⟩, ⟨_, _, rfl, by rw [List.take_zero, List.reverse_nil, grid_nil]; exact hg1⟩, hb1⟩
  case round =>
    clear hg1 hb1 hz1
    obtain ⟨k, hh, ww, hk, rfl, HD, ⟨A3, c3, rfl, hg⟩, hb⟩ := hrel
    have hsz := hb.size
    by_cases hlt : k < s.size
    · obtain ⟨c, hc⟩ := str_get s k hlt
      have hix := index_str s k c hc
      have HC := Lib.hid hc
      have HT := Lib.hid (take_rev _ k c hc)
      have HDC := Lib.hid (drop_cons _ k c hc)
      have hcl : c.toNat < 256 := c.toNat_lt
      have hlen : ((s.data.toList.take k).reverse).length = k := by rw [List.length_reverse, List.length_take, toList_len]; omega
      have HL : Hid (2 ^ ((s.data.toList.take k).reverse).length ≤ 64) := Lib.hid (by rw [hlen]; exact pow_le6' (by omega))
      have hdx := nX_drop s.data.toList (k + 1)
      have hdy := nY_drop s.data.toList (k + 1)
      have hkx := nX_drop s.data.toList k
      have hky := nY_drop s.data.toList k
      have hxy := HA.out
      have hpx : 2 ^ Fo.nX (s.data.toList.drop k) ≤ 8 := pow3 (by omega)
      have hpy : 2 ^ Fo.nY (s.data.toList.drop k) ≤ 8 := pow3 (by omega)
      have HPP := Lib.hid (And.intro hpx hpy)
      clear hc hlen hpx hpy hdx hdy hkx hky hxy
      by_cases h76 : c.toNat = 76
      · have hcc : c = 76 := UInt8.toNat_inj.mp h76
        rw [h76] at hix
        subst hcc
        obtain ⟨ww', hww'⟩ : ∃ ww' : Nat, ww' = 2 ^ Fo.nX (s.data.toList.drop (k + 1)) := ⟨_, rfl⟩
        have e1 : ww = 2 * ww' := by rw [HD.out.2, HDC.out, Fo.nX_cons, if_pos (by decide), Nat.pow_succ, hww']; omega
        have e2 : hh = 2 ^ Fo.nY (s.data.toList.drop (k + 1)) := by rw [HD.out.1, HDC.out, Fo.nY_cons, if_pos (by decide), Nat.add_zero]
        have hh8 : hh ≤ 8 := by rw [HD.out.1]; exact HPP.out.2
        have hw4 : ww' ≤ 4 := by have := HPP.out.1; rw [← HD.out.2] at this; omega
        have hw0 : 0 < ww' := by rw [hww']; exact Nat.pow_pos (by omega)
        subst e1
        have HN := Lib.hid (And.intro e2 hww')
        have HGX := Lib.hid (grid_X 76 (s.data.toList.take k).reverse ww' hh rfl)
        clear e2 hww' h76 HC HDC
        go_wp2_with fail
        refine (along_76 A3 hh c3 ww' (2 ^ ((s.data.toList.take k).reverse).length) w.heap.size wr.heap.size (grid (s.data.toList.take k).reverse (2 * ww') hh) wr hg (Nat.le_refl _) hh8 hw0 hw4 (fun y x _ _ => grid_len _ _ _ _ _) (Nat.pow_pos (by omega)) HL.out).mono ?_
        rintro e w5 ⟨A5, c5, rfl, hg5, hb5⟩
        have HG5 : Hid (GridF w5 w.heap.size w5.heap.size ⟨A5, hh, c5⟩ hh ww' (grid ((s.data.toList.take (k + 1)).reverse) ww' hh)) := by
          rw [HT.out, ← HGX.out]
          exact Lib.hid (hg5.mono hsz (Nat.le_refl _))
        clear hg5 hg HL HT HGX
        go_wp2_with fail
        go_roundw
        case rel => exact ⟨k + 1, hh, ww', by omega, by go_num, Lib.hid ⟨HN.out.1, HN.out.2⟩, ⟨_, _, rfl, HG5.out⟩, hb.trans (hb5.mono hsz)⟩
        case measure => simp [intOf]; omega
      by_cases h82 : c.toNat = 82
      · have hcc : c = 82 := UInt8.toNat_inj.mp h82
        rw [h82] at hix
        subst hcc
        obtain ⟨ww', hww'⟩ : ∃ ww' : Nat, ww' = 2 ^ Fo.nX (s.data.toList.drop (k + 1)) := ⟨_, rfl⟩
        have e1 : ww = 2 * ww' := by rw [HD.out.2, HDC.out, Fo.nX_cons, if_pos (by decide), Nat.pow_succ, hww']; omega
        have e2 : hh = 2 ^ Fo.nY (s.data.toList.drop (k + 1)) := by rw [HD.out.1, HDC.out, Fo.nY_cons, if_pos (by decide), Nat.add_zero]
        have hh8 : hh ≤ 8 := by rw [HD.out.1]; exact HPP.out.2
        have hw4 : ww' ≤ 4 := by have := HPP.out.1; rw [← HD.out.2] at this; omega
        have hw0 : 0 < ww' := by rw [hww']; exact Nat.pow_pos (by omega)
        subst e1
        have HN := Lib.hid (And.intro e2 hww')
        have HGX := Lib.hid (grid_X 82 (s.data.toList.take k).reverse ww' hh rfl)
        clear e2 hww' h82 HC HDC
        go_wp2_with fail
        refine (along_82 A3 hh c3 ww' (2 ^ ((s.data.toList.take k).reverse).length) w.heap.size wr.heap.size (grid (s.data.toList.take k).reverse (2 * ww') hh) wr hg (Nat.le_refl _) hh8 hw0 hw4 (fun y x _ _ => grid_len _ _ _ _ _) (Nat.pow_pos (by omega)) HL.out).mono ?_
        rintro e w5 ⟨A5, c5, rfl, hg5, hb5⟩
        have HG5 : Hid (GridF w5 w.heap.size w5.heap.size ⟨A5, hh, c5⟩ hh ww' (grid ((s.data.toList.take (k + 1)).reverse) ww' hh)) := by
          rw [HT.out, ← HGX.out]
          exact Lib.hid (hg5.mono hsz (Nat.le_refl _))
        clear hg5 hg HL HT HGX
        go_wp2_with fail
        go_roundw
        case rel => exact ⟨k + 1, hh, ww', by omega, by go_num, Lib.hid ⟨HN.out.1, HN.out.2⟩, ⟨_, _, rfl, HG5.out⟩, hb.trans (hb5.mono hsz)⟩
        case measure => simp [intOf]; omega
      by_cases h84 : c.toNat = 84
      · have hcc : c = 84 := UInt8.toNat_inj.mp h84
        rw [h84] at hix
        subst hcc
        obtain ⟨hh', hhh'⟩ : ∃ hh' : Nat, hh' = 2 ^ Fo.nY (s.data.toList.drop (k + 1)) := ⟨_, rfl⟩
        have e1 : hh = 2 * hh' := by rw [HD.out.1, HDC.out, Fo.nY_cons, if_neg (by decide), Nat.pow_succ, hhh']; omega
        have e2 : ww = 2 ^ Fo.nX (s.data.toList.drop (k + 1)) := by rw [HD.out.2, HDC.out, Fo.nX_cons, if_neg (by decide), Nat.add_zero]
        have hw8 : ww ≤ 8 := by rw [HD.out.2]; exact HPP.out.1
        have hh4 : hh' ≤ 4 := by have := HPP.out.2; rw [← HD.out.1] at this; omega
        have hh0 : 0 < hh' := by rw [hhh']; exact Nat.pow_pos (by omega)
        have HE1 := Lib.hid e1
        have HN := Lib.hid (And.intro hhh' e2)
        have HGY := Lib.hid (grid_Y 84 (s.data.toList.take k).reverse ww hh' (by decide))
        have hcon : Calls Try.prog 122 #[.slice A3 hh c3, .int .u8 84] wr fun e w' => ∃ A' c', e = .returned (.slice A' hh' c') ∧ Hid (GridF w' w.heap.size w'.heap.size ⟨A', hh', c'⟩ hh' ww (grid ((s.data.toList.take (k + 1)).reverse) ww hh')) ∧ Below wr.heap.size wr w' := by
          subst e1
          refine (across_84 A3 hh' c3 ww (2 ^ ((s.data.toList.take k).reverse).length) w.heap.size wr.heap.size (grid (s.data.toList.take k).reverse ww (2 * hh')) wr hg (Nat.le_refl _) hw8 hh0 hh4 (fun y x _ _ => grid_len _ _ _ _ _) (Nat.pow_pos (by omega)) HL.out).mono ?_
          rintro e w5 ⟨A5, c5, rfl, hg5, hb5⟩
          refine ⟨_, _, rfl, ?_, hb5⟩
          rw [HT.out, ← HGY.out]
          exact Lib.hid (hg5.mono hsz (Nat.le_refl _))
        clear e1 e2 hhh' h84 HC HDC
        have n76 : ¬ ((84 : Int) = 76) := by decide
        go_wp2_with fail
        refine hcon.mono ?_
        rintro e w5 ⟨A5, c5, rfl, HG5, hb5⟩
        clear hg HL HT HGY hcon
        go_wp2_with fail
        go_roundw
        case rel => exact ⟨k + 1, hh', ww, by omega, by go_num, Lib.hid ⟨HN.out.1, HN.out.2⟩, ⟨_, _, rfl, HG5.out⟩, hb.trans (hb5.mono hsz)⟩
        case measure => simp [intOf]; omega
      by_cases h66 : c.toNat = 66
      · have hcc : c = 66 := UInt8.toNat_inj.mp h66
        rw [h66] at hix
        subst hcc
        obtain ⟨hh', hhh'⟩ : ∃ hh' : Nat, hh' = 2 ^ Fo.nY (s.data.toList.drop (k + 1)) := ⟨_, rfl⟩
        have e1 : hh = 2 * hh' := by rw [HD.out.1, HDC.out, Fo.nY_cons, if_neg (by decide), Nat.pow_succ, hhh']; omega
        have e2 : ww = 2 ^ Fo.nX (s.data.toList.drop (k + 1)) := by rw [HD.out.2, HDC.out, Fo.nX_cons, if_neg (by decide), Nat.add_zero]
        have hw8 : ww ≤ 8 := by rw [HD.out.2]; exact HPP.out.1
        have hh4 : hh' ≤ 4 := by have := HPP.out.2; rw [← HD.out.1] at this; omega
        have hh0 : 0 < hh' := by rw [hhh']; exact Nat.pow_pos (by omega)
        have HE1 := Lib.hid e1
        have HN := Lib.hid (And.intro hhh' e2)
        have HGY := Lib.hid (grid_Y 66 (s.data.toList.take k).reverse ww hh' (by decide))
        have hcon : Calls Try.prog 122 #[.slice A3 hh c3, .int .u8 66] wr fun e w' => ∃ A' c', e = .returned (.slice A' hh' c') ∧ Hid (GridF w' w.heap.size w'.heap.size ⟨A', hh', c'⟩ hh' ww (grid ((s.data.toList.take (k + 1)).reverse) ww hh')) ∧ Below wr.heap.size wr w' := by
          subst e1
          refine (across_66 A3 hh' c3 ww (2 ^ ((s.data.toList.take k).reverse).length) w.heap.size wr.heap.size (grid (s.data.toList.take k).reverse ww (2 * hh')) wr hg (Nat.le_refl _) hw8 hh0 hh4 (fun y x _ _ => grid_len _ _ _ _ _) (Nat.pow_pos (by omega)) HL.out).mono ?_
          rintro e w5 ⟨A5, c5, rfl, hg5, hb5⟩
          refine ⟨_, _, rfl, ?_, hb5⟩
          rw [HT.out, ← HGY.out]
          exact Lib.hid (hg5.mono hsz (Nat.le_refl _))
        clear e1 e2 hhh' h66 HC HDC
        have n76 : ¬ ((66 : Int) = 76) := by decide
        go_wp2_with fail
        refine hcon.mono ?_
        rintro e w5 ⟨A5, c5, rfl, HG5, hb5⟩
        clear hg HL HT HGY hcon
        go_wp2_with fail
        go_roundw
        case rel => exact ⟨k + 1, hh', ww, by omega, by go_num, Lib.hid ⟨HN.out.1, HN.out.2⟩, ⟨_, _, rfl, HG5.out⟩, hb.trans (hb5.mono hsz)⟩
        case measure => simp [intOf]; omega
      exfalso
      rcases ok_at HOK.out HC.out with h | h
      · simp only [Fo.isX, Bool.or_eq_true, beq_iff_eq] at h
        rcases h with rfl | rfl
        · exact h76 rfl
        · exact h82 rfl
      · simp only [Fo.isY, Bool.or_eq_true, beq_iff_eq] at h
        rcases h with rfl | rfl
        · exact h84 rfl
        · exact h66 rfl
    · obtain rfl : k = s.size := by omega
      have hd : s.data.toList.drop s.size = [] := List.drop_eq_nil_of_le (Nat.le_of_eq (toList_len s))
      obtain ⟨d1, d2⟩ := HD.out
      rw [hd] at d1 d2
      have d1 : hh = 1 := d1
      have d2 : ww = 1 := d2
      subst d1 d2
      obtain ⟨gA, ⟨Ar, nr, cr⟩, hA, hgB, hcell, hrow⟩ := hg.at_ (k := 0) (by omega)
      obtain rfl : nr = 1 := hrow.len
      have hA : A3 = some ⟨gA, 0, none⟩ := hA
      subst hA
      obtain ⟨gR, ⟨Ap, np, cp⟩, hA2, hgR, hcell2, hpile⟩ := hrow.at_ (k := 0) (by omega)
      have hA2 : Ar = some ⟨gR, 0, none⟩ := hA2
      subst hA2
      replace hcell : wr.cell? ⟨gA, 0, none⟩ = some (.slice (some ⟨gR, 0, none⟩) 1 cr) := hcell
      replace hcell2 : wr.cell? ⟨gR, 0, none⟩ = some (.slice Ap np cp) := hcell2
      have HPI : Hid (OwnV wr w.heap.size wr.heap.size (.slice Ap np cp) (LVs s.data.toList)) := by
        rw [List.take_of_length_le (Nat.le_of_eq (toList_len s)), grid_last] at hpile
        exact Lib.hid hpile
      have hn64 : np ≤ 64 := by
        have h1 : (LVs s.data.toList).length = np := HPI.out.rd.1
        rw [LVs_len, toList_len] at h1
        have := pow_le6' h6
        omega
      clear hd hpile hrow hg
      go_wp2_with fail
      go_ret
      exact ⟨_, _, _, rfl, HPI.out, hn64, hb⟩
end Go.Proofs.Ytfiefjbipjalpaa
