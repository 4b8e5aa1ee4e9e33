/- Contracts of the program's spares of a packing, of SparesOf and of IsPacking. -/
import Derived.Test.YtbhkpjjedeinpaaRiVt
import Derived.Test.YtbhkpjjedeinpaaRlHp
namespace Go.Proofs.Ytbhkpjjedeinpaa
open Go.RowKit
set_option linter.unusedVariables false

namespace Rl
theorem addAt_map (r : Int) (o : List Int) (k : Nat) (x : Int) : (addAt o k x).map (fun y => r - y) = ((o.map fun y => r - y) ++ List.replicate (k + 1 - o.length) r).set k (((o.map fun y => r - y) ++ List.replicate (k + 1 - o.length) r).getD k 0 - x) := by
  have e : ∀ l : List Int, k < l.length → (l.map fun y => r - y).getD k 0 = r - l.getD k 0 := by
    intro l h
    simp only [List.getD_eq_getElem?_getD, List.getElem?_map, List.getElem?_eq_getElem h]
    rfl
  have e2 : (o.map fun y => r - y) ++ List.replicate (k + 1 - o.length) r = (o ++ List.replicate (k + 1 - o.length) 0).map fun y => r - y := by
    rw [List.map_append, List.map_replicate, Int.sub_zero]
  rw [e2, e _ (by simp; omega), addAt_set o k x, List.map_set]
  congr 1
  omega
theorem loads_up {s p : List Int} {k j : Nat} (hs : ∀ x ∈ s, 0 ≤ x) : (loads s (p.take k)).getD j 0 ≤ (loads s p).getD j 0 := by
  rw [loads_get, loads_get]
  have h := sumAt_app j s (p.take k) (p.drop k) hs
  rwa [List.take_append_drop] at h
theorem over_no {r : Int} {s p : List Int} {k j : Nat} (hs : ∀ x ∈ s, 0 ≤ x) (hr : 0 ≤ r) (h : r < (loads s (p.take k)).getD j 0) : isP r s p = false := by
  cases e : isP r s p
  · rfl
  · have h1 := loads_up (p := p) (k := k) (j := j) hs
    have h2 := (isP_iff.1 e).2.2.2
    rcases Nat.lt_or_ge j (loads s p).length with h3 | h3
    · have h4 := h2 _ (List.getElem_mem h3)
      have e2 : (loads s p).getD j 0 = (loads s p)[j] := by rw [List.getD_eq_getElem?_getD, List.getElem?_eq_getElem h3]; rfl
      omega
    · have e2 : (loads s p).getD j 0 = 0 := by rw [List.getD_eq_getElem?_getD, List.getElem?_eq_none h3]; rfl
      omega
theorem num_no {r : Int} {s p : List Int} {k : Nat} {x : Int} (h : numB 0 (p.take k) = true) (hx : p[k]? = some x) (h1 : x < 0 ∨ (rolls (p.take k) : Int) < x) : isP r s p = false := by
  unfold isP
  rw [num_stop h hx h1, Bool.false_and, Bool.and_false, Bool.and_false]
theorem len_no {r : Int} {s p : List Int} (h : p.length ≠ s.length) : isP r s p = false := by
  unfold isP
  rw [decide_eq_false h, Bool.false_and, Bool.and_false]
theorem loads_none (s : List Int) : loads s [] = [] := by cases s <;> rfl
theorem PreP.isP {r : Int} {s p : List Int} (h : PreP r s p) (hl : p.length = s.length) : isP r s p = true := isP_iff.2 ⟨h.ok, hl, h.num, h.le⟩
end Rl
theorem Rd.cell_ {α : Type} {enc : α → Value} {w : World} {B b o n j : Nat} {l : List α} {x : α} (h : Rd enc w B (some ⟨b, o, none⟩) n l) (hx : l[j]? = some x) : w.cell? ⟨b, o + j, none⟩ = some (enc x) := by
  have hj : j < n := by rw [← h.1]; exact (List.getElem?_eq_some_iff.1 hx).1
  obtain ⟨b', o', e, _, hc⟩ := h.2 (by omega)
  injection e with e
  injection e with e1 e2 _
  subst e1 e2
  exact hc j x hx
/-- A list and a word are handed back; the list is the call's own. -/
def LB (w : World) (R : List Int) (b : Bool) (e : Ending) (w' : World) : Prop :=
  ∃ A n c, e = .returned (.tuple #[.slice A n c, .bool b]) ∧ Own I w' w.heap.size w'.heap.size 2 (.slice A n c) R ∧ n ≤ 1048576 ∧ Below w.heap.size w w'
theorem LB.nil_ {w w' : World} {R : List Int} {b b' : Bool} (hR : R = []) (hC : b = b') (hb : Below w.heap.size w w') : LB w R b (.returned (.tuple #[.slice none 0 0, .bool b'])) w' := by
  subst hR hC
  exact ⟨none, 0, 0, rfl, Own.nil_, by omega, hb⟩
theorem LB.mk_ {w w' : World} {R R' : List Int} {b b' : Bool} {A : Option Addr} {n c lo hi : Nat} (hR : R = R') (hC : b = b') (ho : Own I w' lo hi 2 (.slice A n c) R') (h1 : w.heap.size ≤ lo) (h2 : hi ≤ w'.heap.size) (hn : n ≤ 1048576) (hb : Below w.heap.size w w') :
    LB w R b (.returned (.tuple #[.slice A n c, .bool b'])) w' := by
  subst hR hC
  exact ⟨A, n, c, rfl, ho.mono h1 h2, hn, hb⟩
set_option maxRecDepth 100000 in
set_option maxHeartbeats 8000000 in
theorem implSs_any (r : Int) (A1 A2 : Option Addr) (n1 c1 B1 n2 c2 B2 : Nat) (s p R : List Int) (b : Bool) (w : World) (h1 : Rd I w B1 A1 n1 s) (h2 : Rd I w B2 A2 n2 p) (hB1 : B1 ≤ w.heap.size) (hB2 : B2 ≤ w.heap.size) (hn2 : n2 ≤ 1048576) (hT : Rl.okT r s = true) (hR : Rl.spR r s p = R) (hb : Rl.isP r s p = b) :
    Calls Try.prog 51 #[TV r A1 n1 c1, .slice A2 n2 c2] w fun e w' => LB w R b e w' := by
  obtain ⟨i0, hi0, hz0, hz1, hz2⟩ := info_parts infoI
  have HR := Lib.hid hR
  have HB := Lib.hid hb
  have HL1 := Lib.hid h1.1
  have HL2 := Lib.hid h2.1
  have HT := Lib.hid hT
  have hok := Rl.okT_iff.1 hT
  have HOK := Lib.hid hok
  have hn12 : n1 ≤ 12 := by have := hok.2.1; rw [HL1.out] at this; exact this
  have hr1 := hok.1
  have HNO : Hid (b = false → R = []) := Lib.hid fun e => by rw [← HR.out]; unfold Rl.spR; rw [HB.out, e]; rfl
  have HN := Lib.hid (below_newR w (.cells #[.int .i64 r, .slice A1 n1 c1] 44))
  have hbx : TBx (w.alloc (.cells #[.int .i64 r, .slice A1 n1 c1] 44)) w.heap.size r A1 n1 c1 := Blk.new _ _ rfl
  have hz : (w.alloc (.cells #[.int .i64 r, .slice A1 n1 c1] 44)).heap.size = w.heap.size + 1 := by simp
  have k0 := hbx.cell 0 (v := .int .i64 r) rfl
  have k1 := hbx.cell 1 (v := .slice A1 n1 c1) rfl
  clear hR hb hok hT
  by_cases hnn : n2 = n1
  rotate_left
  · have HF : Hid (b = false) := Lib.hid (by rw [← HB.out]; exact Rl.len_no (by rw [HL1.out, HL2.out]; exact hnn))
    have hnI : ¬ ((n2 : Int) = (n1 : Int)) := by omega
    have hnB : ((n2 : Int) != (n1 : Int)) = true := by simpa using hnI
    go_enter Try.func51, Try.ntmps51
    go_wp2_with fail
    go_ret2
    exact LB.nil_ (HNO.out HF.out) HF.out HN.out
  subst hnn
  go_enter Try.func51, Try.ntmps51
  go_wp2_with fail
  go_loopw [6, 7, 8, 9, 18] (fun v _ _ _ i wr => ∃ (k m : Nat) (A : Option Addr) (c : Nat), k ≤ n2 ∧ m ≤ k ∧ i = .int .i64 k ∧ v = .slice A m c ∧ Own I wr (w.heap.size + 1) wr.heap.size 2 (.slice A m c) ((Rl.loads s (p.take k)).map fun x => r - x) ∧ Hid (Rl.PreP r s (p.take k)) ∧ Hid (Rl.rolls (p.take k) = m) ∧ TBx wr w.heap.size r A1 n2 c1 ∧ Below w.heap.size w wr ∧ w.heap.size + 1 ≤ wr.heap.size) (fun _ _ _ _ i _ => n2 - (intOf i).toNat)
  case atStart => exact ⟨0, 0, none, 0, Nat.zero_le _, Nat.le_refl _, rfl, rfl, by simpa [Rl.loads_none] using Own.nil_, Lib.hid (by simpa using Rl.PreP.nil HT.out), Lib.hid (by simp [Rl.rolls]), hbx, HN.out, by omega⟩
  case round =>
    clear hbx k0 k1 hz
    obtain ⟨k, m, A, c, hk, hmk, rfl, rfl, ho, HP, HM, hbx, hb, hzb⟩ := hrel
    have k0 := hbx.cell 0 (v := .int .i64 r) rfl
    have k1 := hbx.cell 1 (v := .slice A1 n2 c1) rfl
    by_cases hlt : k < n2
    · obtain ⟨b2, o2, x, rfl, hb2, hx, cx⟩ := (h2.below hb hB2).at_ hlt
      have HX := Lib.hid hx
      clear hx
      by_cases hx0 : x < 0
      · have HF : Hid (b = false) := Lib.hid (by rw [← HB.out]; exact Rl.num_no HP.out.num HX.out (.inl hx0))
        go_wp2_with fail
        go_ret2
        exact LB.nil_ (HNO.out HF.out) HF.out hb
      by_cases hxm : (m : Int) < x
      · have HF : Hid (b = false) := Lib.hid (by rw [← HB.out]; exact Rl.num_no HP.out.num HX.out (.inr (by rw [HM.out]; exact hxm)))
        go_wp2_with fail
        go_ret2
        exact LB.nil_ (HNO.out HF.out) HF.out hb
      obtain ⟨q, rfl⟩ := Int.eq_ofNat_of_zero_le (show 0 ≤ x by omega)
      obtain ⟨b1, o1, z, rfl, hb1, hzz, cz⟩ := (h1.below hb hB1).at_ hlt
      have HZ := Lib.hid hzz
      have hz1' := HOK.out.2.2 z (List.mem_of_getElem? hzz)
      have hqm : q ≤ m := by omega
      have hq12 : q ≤ 12 := by omega
      have HQL : Hid ((Rl.loads s (p.take k)).length = m) := Lib.hid (by rw [Rl.loads_len _ _ (by rw [HL1.out, List.length_take]; omega), HM.out])
      have HPL : Hid ((p.take k).length = k) := Lib.hid (by rw [List.length_take, HL2.out]; omega)
      have HZ2 : Hid (s.getD (p.take k).length 0 = z) := Lib.hid (by rw [HPL.out, List.getD_eq_getElem?_getD, HZ.out]; rfl)
      have HTK : Hid (p.take (k + 1) = p.take k ++ [(q : Int)]) := Lib.hid (take_nextRl p k _ HX.out)
      have HPS : Hid ((p.take k).length < s.length) := Lib.hid (by rw [HPL.out, HL1.out]; exact hlt)
      have HLD : Hid (Rl.loads s (p.take (k + 1)) = Rl.addAt (Rl.loads s (p.take k)) q z) := Lib.hid (by rw [HTK.out, Rl.loads_snoc HPS.out, HZ2.out])
      have HBD : Hid (∀ y ∈ (Rl.loads s (p.take k)).map (fun x => r - x), 0 ≤ y ∧ y ≤ r) := Lib.hid (by
        intro y hy
        obtain ⟨u, hu, rfl⟩ := List.mem_map.1 hy
        have h3 := HP.out.le u hu
        obtain ⟨j, hj⟩ := List.getElem?_of_mem hu
        have h4 := (Rl.sumAt_pos (k := j) (s := s) (p := p.take k) (fun x hx => (HOK.out.2.2 x hx).1) (Nat.le_of_lt HPS.out)).1
        rw [← Rl.loads_get, List.getD_eq_getElem?_getD, hj] at h4
        simp only [Option.getD_some] at h4
        omega)
      clear hzz
      by_cases hqe : q = m
      · subst hqe
        have HL5 : Hid (((Rl.loads s (p.take k)).map (fun x => r - x)) ++ [r] = ((Rl.loads s (p.take k)).map (fun x => r - x)) ++ List.replicate (q + 1 - (Rl.loads s (p.take k)).length) r) := Lib.hid (by rw [HQL.out]; simp)
        have HLQ : Hid ((Rl.loads s (p.take k)).getD q 0 = 0) := Lib.hid (by rw [List.getD_eq_getElem?_getD, List.getElem?_eq_none (by rw [HQL.out]; exact Nat.le_refl _)]; rfl)
        go_wp2_with (at_builtin; refine wp_push (enc := I) wr rfl _ _ 24 rfl 2 i0 _ 8 Try.underlying24 hi0 hz0 hz1 hz2 rfl A q c _ _ _ rfl ho r rfl rfl (by omega) (by omega) hzb ?_; intro A4 c4 w4 ho4 hm4; have hbx4 := hbx.only hm4 (.inl (by omega)); have hb4 := hb.trans (hm4.below (by omega) (by omega)); have hzb4 : w.heap.size + 1 ≤ w4.heap.size := Nat.le_trans hzb hm4.size; obtain ⟨g, y, rfl, hg1, hg2, hg3, hy, cy, fy⟩ := ho4.at_ (k := q) (by omega); have HY : Hid (y = r - (Rl.loads s (p.take k)).getD q 0) := Lib.hid (by rw [HLQ.out]; rw [List.getElem?_append_right (by rw [List.length_map, HQL.out]; exact Nat.le_refl _), List.length_map, HQL.out] at hy; simp at hy; omega); have HLS : Hid ((((Rl.loads s (p.take k)).map (fun x => r - x)) ++ [r]).set q (y - z) = (Rl.loads s (p.take (k + 1))).map (fun x => r - x)) := Lib.hid (by rw [HLD.out, Rl.addAt_map, ← HL5.out]; congr 1; rw [HY.out, HLQ.out]; rw [List.getD_eq_getElem?_getD, List.getElem?_append_right (by rw [List.length_map, HQL.out]; exact Nat.le_refl _), List.length_map, HQL.out]; simp); have hyb : 0 ≤ y ∧ y ≤ r := (by have := HY.out; rw [HLQ.out] at this; omega); have ez : IntKind.i64.wrap (y - z) = y - z := IntWalk.i64_in _ (by omega); have cz4 := (h1.below hb4 hB1).cell_ HZ.out; have k04 := hbx4.cell 0 (v := .int .i64 r) rfl; have k14 := hbx4.cell 1 (v := .slice (some ⟨b1, o1, none⟩) n2 c1) rfl; clear hm4 hy ho hbx hb hzb k0 k1 cx cz)
        have hst := ho4.set_ (k := q) (y - z)
        have HX5 := Lib.hid (hbx4.only hst.2 (.inl (by omega)))
        have HO5 := Lib.hid (hst.1.mono (Nat.le_refl _) (show w4.heap.size ≤ (w4.setCell ⟨g, q, none⟩ (.int .i64 (y - z))).heap.size by simp))
        have HB5 := Lib.hid (hb4.trans (hst.2.below (by omega) (by omega)))
        rw [HLS.out] at HO5
        have hsz5 : w.heap.size + 1 ≤ (w4.setCell ⟨g, q, none⟩ (.int .i64 (y - z))).heap.size := by simp; omega
        clear hst
        go_region
        by_cases hneg : y - z < 0
        · have HF : Hid (b = false) := Lib.hid (by
            rw [← HB.out]
            refine Rl.over_no (k := k + 1) (j := q) (fun x hx => by have := HOK.out.2.2 x hx; omega) (by omega) ?_
            rw [HLD.out, Rl.addAt_get, if_pos rfl]
            have := HY.out
            omega)
          go_wp2_with fail
          go_ret2
          exact LB.nil_ (HNO.out HF.out) HF.out (below_drewN' HB5.out 1)
        · have HNX := Lib.hid (HP.out.next HPS.out (k := q) (by rw [HQL.out]; omega) (by have := HY.out; rw [HZ2.out]; omega))
          have HP6 : Hid (Rl.PreP r s (p.take (k + 1))) := Lib.hid (by rw [HTK.out]; exact HNX.out.1)
          have HM6 : Hid (Rl.rolls (p.take (k + 1)) = q + 1) := Lib.hid (by rw [HTK.out, HNX.out.2, HM.out]; omega)
          go_wp2_with fail
          go_roundw
          case rel => exact ⟨k + 1, q + 1, _, c4, by omega, by omega, by go_num, rfl, HO5.out.drewN 1, HP6, HM6, HX5.out, below_drewN' HB5.out 1, hsz5⟩
          case measure => simp [intOf]; omega
      · have hq2 : q < m := by omega
        have hqn : ¬ ((q : Int) = (m : Int)) := by omega
        obtain ⟨g, y, rfl, hg1, hg2, hg3, hy, cy, fy⟩ := ho.at_ hq2
        have HY : Hid (y = r - (Rl.loads s (p.take k)).getD q 0) := Lib.hid (by
          rw [List.getElem?_map, List.getElem?_eq_getElem (by rw [HQL.out]; exact hq2)] at hy
          simp at hy
          rw [List.getD_eq_getElem?_getD, List.getElem?_eq_getElem (by rw [HQL.out]; exact hq2)]
          simp
          omega)
        have HLS : Hid (((Rl.loads s (p.take k)).map (fun x => r - x)).set q (y - z) = (Rl.loads s (p.take (k + 1))).map (fun x => r - x)) := Lib.hid (by
          rw [HLD.out, Rl.addAt_map]
          have e : q + 1 - (Rl.loads s (p.take k)).length = 0 := by rw [HQL.out]; omega
          rw [e, List.replicate_zero, List.append_nil]
          congr 1
          rw [List.getD_eq_getElem?_getD, hy]
          rfl)
        have hyb : 0 ≤ y ∧ y ≤ r := HBD.out y (List.mem_of_getElem? hy)
        have ez : IntKind.i64.wrap (y - z) = y - z := IntWalk.i64_in _ (by omega)
        clear hy
        go_wp2_with fail
        have hst := ho.set_ (k := q) (y - z)
        have HX5 := Lib.hid (hbx.only hst.2 (.inl (by omega)))
        have HO5 := Lib.hid (hst.1.mono (Nat.le_refl _) (show wr.heap.size ≤ (wr.setCell ⟨g, q, none⟩ (.int .i64 (y - z))).heap.size by simp))
        have HB5 := Lib.hid (hb.trans (hst.2.below (by omega) (by omega)))
        rw [HLS.out] at HO5
        have hsz5 : w.heap.size + 1 ≤ (wr.setCell ⟨g, q, none⟩ (.int .i64 (y - z))).heap.size := by simp; omega
        clear hst
        go_region
        by_cases hneg : y - z < 0
        · have HF : Hid (b = false) := Lib.hid (by
            rw [← HB.out]
            refine Rl.over_no (k := k + 1) (j := q) (fun x hx => by have := HOK.out.2.2 x hx; omega) (by omega) ?_
            rw [HLD.out, Rl.addAt_get, if_pos rfl]
            have := HY.out
            omega)
          go_wp2_with fail
          go_ret2
          exact LB.nil_ (HNO.out HF.out) HF.out (below_drewN' HB5.out 1)
        · have HNX := Lib.hid (HP.out.next HPS.out (k := q) (by rw [HQL.out]; omega) (by have := HY.out; rw [HZ2.out]; omega))
          have HP6 : Hid (Rl.PreP r s (p.take (k + 1))) := Lib.hid (by rw [HTK.out]; exact HNX.out.1)
          have HM6 : Hid (Rl.rolls (p.take (k + 1)) = m) := Lib.hid (by rw [HTK.out, HNX.out.2, HM.out]; omega)
          go_wp2_with fail
          go_roundw
          case rel => exact ⟨k + 1, m, _, c, by omega, by omega, by go_num, rfl, HO5.out.drewN 1, HP6, HM6, HX5.out, below_drewN' HB5.out 1, hsz5⟩
          case measure => simp [intOf]; omega
    · obtain rfl : k = n2 := by omega
      have HT2 : Hid (p.take k = p) := Lib.hid (List.take_of_length_le (by rw [HL2.out]; exact Nat.le_refl _))
      have HIP : Hid (b = true) := Lib.hid (by rw [← HB.out]; have h3 := HP.out; rw [HT2.out] at h3; exact h3.isP (by rw [HL1.out, HL2.out]))
      have HRR : Hid (R = (Rl.loads s (p.take k)).map fun x => r - x) := Lib.hid (by rw [← HR.out, HT2.out]; unfold Rl.spR; rw [HB.out, HIP.out]; rfl)
      go_wp2_with fail
      go_ret2
      exact LB.mk_ HRR.out HIP.out ho (by omega) (Nat.le_refl _) (by omega) hb
set_option maxRecDepth 100000 in
set_option maxHeartbeats 4000000 in
theorem implSp_any1 (r : Int) (A1 A2 : Option Addr) (n1 c1 B1 n2 c2 B2 : Nat) (s p R : List Int) (C : Int) (w : World) (h1 : Rd I w B1 A1 n1 s) (h2 : Rd I w B2 A2 n2 p) (hB1 : B1 ≤ w.heap.size) (hB2 : B2 ≤ w.heap.size) (hn1 : n1 ≤ 1048576) (hn2 : n2 ≤ 1048576) (hc1 : n1 ≤ c1) (hc2 : n2 ≤ c2) (hr : i64b r) (hR : Rl.spR r s p = R) (hC : Rl.spC r s p = C) :
    Calls Try.prog 22 #[.int .i64 r, .slice A1 n1 c1, .slice A2 n2 c2] w fun e w' => LC w R C e w' := by
  obtain ⟨d, hd⟩ : ∃ d, Rl.okT r s = d := ⟨_, rfl⟩
  have HD := Lib.hid hd
  have HN := Lib.hid (below_newR w (.cells #[.int .i64 r, .slice A1 n1 c1] 44))
  have hbx : TBx (w.alloc (.cells #[.int .i64 r, .slice A1 n1 c1] 44)) w.heap.size r A1 n1 c1 := Blk.new _ _ rfl
  have hr1 := h1.alloc hB1 (.cells #[.int .i64 r, .slice A1 n1 c1] 44)
  have hr2 := h2.alloc hB2 (.cells #[.int .i64 r, .slice A1 n1 c1] 44)
  have c0 := hbx.cell 0 (v := .int .i64 r) rfl
  have c1' := hbx.cell 1 (v := .slice A1 n1 c1) rfl
  have hz : (w.alloc (.cells #[.int .i64 r, .slice A1 n1 c1] 44)).heap.size = w.heap.size + 1 := by simp
  have hvt := implVt_any r A1 n1 c1 B1 s d _ hr1 (by omega) hn1 hd
  clear hd hr
  cases d
  · have e1 : C = 1 := by rw [← hC]; unfold Rl.spC; rw [if_neg (by rw [HD.out]; simp)]
    have e2 : R = [] := by rw [← hR]; unfold Rl.spR Rl.isP; rw [HD.out]; simp
    subst e1
    have HE := Lib.hid e2
    clear hR hC e2
    go_enter Try.func22, Try.ntmps22
    go_wp2_with fail
    refine hvt.mono ?_
    rintro e w1 ⟨rfl, hb1⟩
    go_wp2_with fail
    go_ret2
    exact LC.nil_ HE.out rfl (HN.out.trans (hb1.mono (by omega)))
  · obtain ⟨b, hb⟩ : ∃ b, Rl.isP r s p = b := ⟨_, rfl⟩
    have HB := Lib.hid hb
    have HR := Lib.hid hR
    have HC : Hid ((if b then 0 else 2) = C) := Lib.hid (by rw [← hC, ← hb]; unfold Rl.spC; rw [HD.out]; rfl)
    clear hR hC hb
    go_enter Try.func22, Try.ntmps22
    go_wp2_with fail
    refine hvt.mono ?_
    rintro e w1 ⟨rfl, hb1⟩
    have q := hbx.below hb1 hbx.lt
    have hz1 := hb1.size
    replace c0 := q.cell 0 (v := .int .i64 r) rfl
    replace c1' := q.cell 1 (v := .slice A1 n1 c1) rfl
    have hss := implSs_any r A1 A2 n1 c1 B1 n2 c2 B2 s p R b w1 (hr1.below hb1 (by omega)) (hr2.below hb1 (by omega)) (by omega) (by omega) hn2 HD.out HR.out HB.out
    go_wp2_with fail
    refine hss.mono ?_
    rintro e w2 ⟨A3, n3, c3, rfl, ho3, hn3, hb3⟩
    have HB3 := Lib.hid ((HN.out.trans (hb1.mono (by omega))).trans (hb3.mono (by omega)))
    cases b
    · have HE : Hid (R = []) := Lib.hid (by rw [← HR.out]; unfold Rl.spR; rw [HB.out]; rfl)
      have HC2 : Hid (C = 2) := Lib.hid HC.out.symm
      clear ho3 hb3
      go_wp2_with fail
      go_ret2
      exact LC.nil_ HE.out HC2.out HB3.out
    · have HC2 : Hid (C = 0) := Lib.hid HC.out.symm
      have HO3 := Lib.hid (ho3.mono (show w.heap.size ≤ w1.heap.size by omega) (Nat.le_refl _))
      clear ho3 hb3
      go_wp2_with fail
      go_ret2
      exact LC.mk_ rfl HC2.out HO3.out (Nat.le_refl _) (Nat.le_refl _) hn3 HB3.out
set_option maxRecDepth 100000 in
set_option maxHeartbeats 4000000 in
theorem implRlP_any (r : Int) (A1 A2 : Option Addr) (n1 c1 B1 n2 c2 B2 : Nat) (s p : List Int) (b : Bool) (w : World) (h1 : Rd I w B1 A1 n1 s) (h2 : Rd I w B2 A2 n2 p) (hB1 : B1 ≤ w.heap.size) (hB2 : B2 ≤ w.heap.size) (hn1 : n1 ≤ 1048576) (hn2 : n2 ≤ 1048576) (hc1 : n1 ≤ c1) (hc2 : n2 ≤ c2) (hr : i64b r) (hb : Rl.isP r s p = b) :
    Calls Try.prog 25 #[.int .i64 r, .slice A1 n1 c1, .slice A2 n2 c2] w fun e w' => e = .returned (.bool b) ∧ Below w.heap.size w w' := by
  obtain ⟨C, hC⟩ : ∃ C, Rl.spC r s p = C := ⟨_, rfl⟩
  have HCB : Hid ((C == 0) = b) := Lib.hid (by
    rw [← hC, ← hb]
    unfold Rl.spC
    cases e : Rl.isP r s p
    · cases Rl.okT r s <;> rfl
    · rw [Rl.sp_task e]
      rfl)
  have hsp := implSp_any1 r A1 A2 n1 c1 B1 n2 c2 B2 s p _ C w h1 h2 hB1 hB2 hn1 hn2 hc1 hc2 hr rfl hC
  clear hC hb
  go_enter Try.func25, Try.ntmps25
  go_wp2_with fail
  refine hsp.mono ?_
  rintro e w1 ⟨A3, n3, c3, rfl, ho3, hn3, hb3⟩
  clear ho3
  go_wp2_with fail
  go_ret
  exact ⟨by rw [← HCB.out]; rfl, hb3⟩
end Go.Proofs.Ytbhkpjjedeinpaa
