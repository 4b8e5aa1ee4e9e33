/- The program's packing of the strips from the longest to the shortest one: longestFirst, LongestFirst. -/
import Derived.Test.YtbhkpjjedeinpaaRiSt
import Derived.Test.YtbhkpjjedeinpaaRiNu
import Derived.Deep.RegionLaw
import Derived.Deep.Cut
namespace Go.Proofs.Ytbhkpjjedeinpaa
open Go.RowKit
set_option linter.unusedVariables false

namespace Rl
/-- The strips in an order. -/
def inOrd (s q : List Int) : List Int := q.map fun i => s.getD i.toNat 0
theorem inOrd_len (s q : List Int) : (inOrd s q).length = q.length := by simp [inOrd]
theorem inOrd_next {s q : List Int} {k : Nat} {i : Int} (h : q[k]? = some i) : inOrd s (q.take (k + 1)) = inOrd s (q.take k) ++ [s.getD i.toNat 0] := by
  unfold inOrd
  rw [take_nextRl q k i h, List.map_append]
  rfl
/-- First fit in an order is first fit of the strips in that order. -/
theorem foT_ff (r : Int) (s q : List Int) : ∀ k, k ≤ q.length → ∃ o, (foT r s q k).2 = o ∧ ∀ t, ffG r [] (inOrd s (q.take k) ++ t) = ff r (inOrd s (q.take k)) ++ ffG r o t
  | 0, _ => ⟨[], by simp [foT], fun t => by simp [inOrd, ff, ffG]⟩
  | k + 1, hk => by
    obtain ⟨o, h1, h2⟩ := foT_ff r s q k (by omega)
    have hi : q[k]? = some q[k] := List.getElem?_eq_getElem (by omega)
    have e1 : ff r (inOrd s (q.take (k + 1))) = ff r (inOrd s (q.take k)) ++ [(fit r (s.getD q[k].toNat 0) o : Int)] := by
      rw [inOrd_next hi]
      unfold ff
      rw [h2 [s.getD q[k].toNat 0]]
      rfl
    refine ⟨addAt o (fit r (s.getD q[k].toNat 0) o) (s.getD q[k].toNat 0), ?_, fun t => ?_⟩
    · rw [foT_next hi]
      unfold foS
      rw [h1]
    · rw [e1, inOrd_next hi, List.append_assoc, h2, List.append_assoc]
      rfl
theorem ff_at {r : Int} {s q : List Int} {k : Nat} {i : Int} (h : q[k]? = some i) : ∃ v : Int, (ff r (inOrd s q))[k]? = some v ∧ (foT r s q (k + 1)).1 = (foT r s q k).1.set i.toNat v := by
  have hk := (List.getElem?_eq_some_iff.1 h).1
  obtain ⟨o, h1, h2⟩ := foT_ff r s q k (by omega)
  refine ⟨(fit r (s.getD i.toNat 0) o : Int), ?_, ?_⟩
  · have e : inOrd s q = inOrd s (q.take k) ++ inOrd s (q.drop k) := by
      unfold inOrd
      rw [← List.map_append, List.take_append_drop]
    have e2 : inOrd s (q.drop k) = s.getD i.toNat 0 :: inOrd s (q.drop (k + 1)) := by
      unfold inOrd
      rw [List.drop_eq_getElem_cons hk, List.map_cons]
      rw [List.getElem?_eq_getElem hk] at h
      injection h with h
      rw [h]
    have hl : (ff r (inOrd s (q.take k))).length = k := by
      unfold ff
      rw [ffG_len, inOrd_len, List.length_take]
      omega
    unfold ff
    rw [e, h2, e2, List.getElem?_append_right (show (ff r (inOrd s (q.take k))).length ≤ k from Nat.le_of_eq hl), hl, Nat.sub_self]
    rfl
  · rw [foT_next h]
    unfold foS
    rw [h1]
theorem inOrd_ok {r : Int} {s : List Int} (h : okT r s = true) : okT r (inOrd s (ord s s.length)) = true := by
  have h1 := okT_iff.1 h
  refine okT_iff.2 ⟨h1.1, by rw [inOrd_len, ord_len]; exact h1.2.1, fun x hx => ?_⟩
  unfold inOrd at hx
  obtain ⟨i, hi, rfl⟩ := List.mem_map.1 hx
  have h2 := ord_mem hi
  rw [List.getD_eq_getElem?_getD, List.getElem?_eq_getElem h2.2]
  exact h1.2.2 _ (List.getElem_mem _)
theorem foT_len {r : Int} {s q : List Int} (k : Nat) : (foT r s q k).1.length = s.length := by
  induction k with
  | zero => simp [foT]
  | succ k ih =>
    rcases Nat.lt_or_ge k q.length with h | h
    · rw [foT_next (List.getElem?_eq_getElem h)]
      simp [foS, ih]
    · have e : foT r s q (k + 1) = foT r s q k := by
        unfold foT
        rw [List.take_of_length_le (by omega), List.take_of_length_le h]
      rw [e, ih]
end Rl
set_option maxRecDepth 100000 in
set_option maxHeartbeats 16000000 in
theorem implLfT_any (r : Int) (A : Option Addr) (n c B : Nat) (s : List Int) (w : World) (h : Rd I w B A n s) (hB : B ≤ w.heap.size) (hT : Rl.okT r s = true) :
    Calls Try.prog 44 #[TV r A n c] w fun e w' => ∃ A' c', e = .returned (.slice A' n c') ∧ Own I w' w.heap.size w'.heap.size 2 (.slice A' n c') (Rl.lf r s) ∧ Below w.heap.size w w' := by
  obtain ⟨i0, hi0, hz0, hz1, hz2⟩ := info_parts infoI
  have HL := Lib.hid h.1
  have HT := Lib.hid hT
  have HOK := Lib.hid (Rl.okT_iff.1 hT)
  have hn12 : n ≤ 12 := by have := HOK.out.2.1; rw [HL.out] at this; exact this
  have hml : n ≤ maxLen := by unfold maxLen; omega
  have hmf : ∀ (fn : Fn) (first cap : Array Value) (w : World), (Instr.makeFunc fn first cap).run Try.prog w = .ok (.func fn first cap) w := fun _ _ _ _ => rfl
  have hn0 := below_newR w (.cells #[.int .i64 r, .slice A n c] 44)
  have hbt : TBx (w.alloc (.cells #[.int .i64 r, .slice A n c] 44)) w.heap.size r A n c := Blk.new _ _ rfl
  have hr0 := h.alloc hB (.cells #[.int .i64 r, .slice A n c] 44)
  have hzz : (w.alloc (.cells #[.int .i64 r, .slice A n c] 44)).heap.size = w.heap.size + 1 := by simp
  have hfn := firstNum_any n (w.alloc (.cells #[.int .i64 r, .slice A n c] 44)) hn12
  rw [hzz] at hfn
  have e1 := hbt.cell 1 (v := .slice A n c) rfl
  clear hT
  go_enter Try.func44, Try.ntmps44
  go_wp2_with fail
  refine hfn.mono ?_
  rintro e w1 ⟨rfl, ho1, hb1⟩
  have hbt1 := hbt.below hb1 (by omega)
  have hr1 := hr0.below hb1 (by omega)
  have hn1 := hn0.trans (hb1.mono (by omega))
  have hz1' := ho1.lt _ rfl
  have hso := sortSt_any w.heap.size (w.heap.size + 1) (w.heap.size + 1) (w.heap.size + 1 + 1) r A n c B s w1 hbt1 hr1 ho1 hn12 (by omega) (by omega) (by omega)
  clear hbt hr0 hn0 hb1 ho1 hfn e1
  go_wp2_with fail
  refine hso.mono ?_
  rintro e w3 ⟨rfl, ho3, hm3⟩
  have hbt3 := hbt1.only hm3 (.inl (by omega))
  have hn3 := hn1.trans (hm3.below (by omega) (by omega))
  have hz3 := hm3.size
  clear hbt1 hr1 hn1 hm3 hso
  have e0 := hbt3.cell 0 (v := .int .i64 r) rfl
  go_upto_region 4 with fail
  have hgs4 : Blk (w3.alloc (.cells #[.int .i64 r, .slice none 0 0] 44)) w3.heap.size #[.int .i64 r, .slice none 0 0] 44 := Blk.new _ _ rfl
  have hbt4 := hbt3.alloc (.cells #[.int .i64 r, .slice none 0 0] 44)
  have ho4 := ho3.alloc (.cells #[.int .i64 r, .slice none 0 0] 44)
  have hn4 := hn3.alloc (by omega) (.cells #[.int .i64 r, .slice none 0 0] 44)
  have hz4 : (w3.alloc (.cells #[.int .i64 r, .slice none 0 0] 44)).heap.size = w3.heap.size + 1 := by simp
  clear hbt3 ho3 hn3 e0
  generalize w3.alloc (.cells #[.int .i64 r, .slice none 0 0] 44) = W4 at hgs4 hbt4 ho4 hn4 hz4 ⊢
  have HLO := Lib.hid (Rl.ord_len s n)
  obtain ⟨O, hO⟩ : ∃ O, Rl.ord s n = O := ⟨_, rfl⟩
  have HO := Lib.hid hO
  rw [hO] at ho4 HLO
  clear hO
  have HSZ : Hid (w.heap.size + 2 ≤ w3.heap.size) := Lib.hid (by omega)
  have hsz := HSZ.out
  clear hz1' hz3
  go_wp2_with fail
  go_loopw [6, 22] (fun _ i wr => ∃ (k : Nat) (A3 : Option Addr) (c3 : Nat), k ≤ n ∧ i = .int .i64 (k : Int) ∧ Blk wr w3.heap.size #[.int .i64 r, .slice A3 k c3] 44 ∧ Own I wr (w3.heap.size + 1) wr.heap.size 2 (.slice A3 k c3) (Rl.inOrd s (O.take k)) ∧ TBx wr w.heap.size r A n c ∧ Own I wr (w.heap.size + 1) (w.heap.size + 1 + 1) 2 (.slice (some ⟨w.heap.size + 1, 0, none⟩) n n) O ∧ Below w.heap.size w wr ∧ w3.heap.size + 1 ≤ wr.heap.size) (fun _ i _ => n - (intOf i).toNat)
  case atStart => exact ⟨0, none, 0, Nat.zero_le _, rfl, hgs4, by simpa [Rl.inOrd] using (Own.nil_ (enc := I)), hbt4, ho4, hn4, by omega⟩
  case round =>
    clear hgs4 hbt4 ho4 hn4 hz4
    obtain ⟨k, A3, c3, hk, rfl, hgs, hr3, hbt, ho, hb, hzb⟩ := hrel
    by_cases hlt : k < n
    · have hltI : (k : Int) < (n : Int) := by omega
      obtain ⟨go, i, hgo, _, _, _, hi, ci, _⟩ := ho.at_ hlt
      injection hgo with hgo
      injection hgo with hgo _ _
      subst hgo
      have HI := Lib.hid hi
      have him := Rl.ord_mem (s := s) (n := n) (i := i) (by rw [HO.out]; exact List.mem_of_getElem? hi)
      obtain ⟨u, rfl⟩ := Int.eq_ofNat_of_zero_le him.1
      have hun : u < n := by have := him.2; omega
      have hunI : (u : Int) < (n : Int) := by omega
      obtain ⟨b1, o1, x, rfl, hbl, hx, cx⟩ := (h.below hb hB).at_ hun
      have HX := Lib.hid hx
      have HNX : Hid (Rl.inOrd s (O.take (k + 1)) = Rl.inOrd s (O.take k) ++ [x]) := Lib.hid (by
        rw [Rl.inOrd_next HI.out, Int.toNat_natCast, List.getD_eq_getElem?_getD, HX.out]
        rfl)
      have e1 := hbt.cell 1 (v := .slice (some ⟨b1, o1, none⟩) n c) rfl
      have g1 := hgs.cell 1 (v := .slice A3 k c3) rfl
      have g2 := hgs.free 1
      have lg := hgs.lt
      have l1 := hbt.lt
      have l2 : b1 < wr.heap.size := by omega
      clear hi him hx
      go_wp2_with fail
      go_region_law (first
        | ((refine step_push3 wr.drew rfl (.tmp 27) (.tmp 33) 24 rfl 2 i0 (.int .i64 0) 8 Try.underlying24 hi0 hz0 hz1 hz2 rfl A3 k c3 (Rl.inOrd s (O.take k)) (w3.heap.size + 1) wr.heap.size (by rfl) (hr3.drewN 1) x (by rfl) rfl (by omega) (by omega) hzb ?_); intro A5 c5 w5 ho5 hm5 hk5; have q1 := (hk5 w3.heap.size lg (hr3.far hgs (by decide))).1; have q2 : Blk w5 w3.heap.size #[.int .i64 r, .slice A3 k c3] 44 := q1.trans hgs; have q3 := q2.cell 1 (v := .slice A3 k c3) rfl; have q4 := q2.free 1))
      all_goals
        have hz5 : wr.heap.size ≤ w5.heap.size := hm5.size
        have HG6 : Hid (Blk (w5.setCell ⟨w3.heap.size, 1, none⟩ (.slice A5 (k + 1) c5)) w3.heap.size #[.int .i64 r, .slice A5 (k + 1) c5] 44) := Lib.hid (q2.set 1 (.slice A5 (k + 1) c5))
        have HR6 : Hid (Own I (w5.setCell ⟨w3.heap.size, 1, none⟩ (.slice A5 (k + 1) c5)) (w3.heap.size + 1) (w5.setCell ⟨w3.heap.size, 1, none⟩ (.slice A5 (k + 1) c5)).heap.size 2 (.slice A5 (k + 1) c5) (Rl.inOrd s (O.take (k + 1)))) := Lib.hid (by
          rw [HNX.out]
          exact (ho5.other ⟨w3.heap.size, 1, none⟩ (.slice A5 (k + 1) c5) (ho5.far q2 (by decide))).mono (Nat.le_refl _) (by simp))
        have hbt5 : TBx w5 w.heap.size r (some ⟨b1, o1, none⟩) n c := Blk.only (show Blk wr.drew _ _ _ from hbt) hm5 (.inl (by omega))
        have HT6 := Lib.hid (hbt5.other ⟨w3.heap.size, 1, none⟩ (.slice A5 (k + 1) c5) (show w.heap.size ≠ w3.heap.size by omega))
        have ho5' := (ho.drewN 1).only hm5 (.inl (by omega))
        have HO6 := Lib.hid (ho5'.other ⟨w3.heap.size, 1, none⟩ (.slice A5 (k + 1) c5) (Far.of_lt (show w3.heap.size ≠ w.heap.size + 1 by omega)))
        have HB6 := Lib.hid (((below_drewN' hb 1).trans (hm5.below (B := w.heap.size) (by omega) (show w.heap.size ≤ wr.heap.size by omega))).setCell (p := ⟨w3.heap.size, 1, none⟩) (show w.heap.size ≤ w3.heap.size by omega) (.slice A5 (k + 1) c5))
        have hz6 : w3.heap.size + 1 ≤ (w5.setCell ⟨w3.heap.size, 1, none⟩ (.slice A5 (k + 1) c5)).heap.size := by simp; omega
        clear hgs hr3 hbt ho hb ho5 hm5 hk5 q1 q2 q3 q4 hbt5 ho5' e1 g1 g2 ci cx
        go_wp2_with fail
        go_roundw
        case rel => exact ⟨k + 1, A5, c5, by omega, by go_num, HG6.out, HR6.out, HT6.out, HO6.out, HB6.out, hz6⟩
        case measure => simp [intOf]; omega
    · obtain rfl : k = n := by omega
      have HTK : Hid (O.take k = O) := Lib.hid (List.take_of_length_le (by rw [HLO.out]; exact Nat.le_refl _))
      rw [HTK.out] at hr3
      have g0 := hgs.cell 0 (v := .int .i64 r) rfl
      have g1 := hgs.cell 1 (v := .slice A3 k c3) rfl
      go_wp2_with (at_make; refine wpList_make_full wr rfl _ _ 24 rfl w.heap.size 2 i0 (.int .i64 0) 1 Try.underlying24 hi0 hz0 hz1 .i64 .i64 _ _ k rfl rfl rfl rfl (by rw [hz2]; omega) hml (by omega) ?_; intro w5 hown5 hg5; have hb5 := (Below.refl wr.heap.size wr).grown hg5 (Nat.le_refl _) (by simp); have hgs5 := hgs.below hb5 hgs.lt; have g50 := hgs5.cell 0 (v := .int .i64 r) rfl; have g51 := hgs5.cell 1 (v := .slice A3 k c3) rfl)
      have hzb5 := hb5.size
      have hP5 : Own I w5 wr.heap.size (wr.heap.size + 1) 2 (.slice (some ⟨wr.heap.size, 0, none⟩) k k) (List.replicate k 0) := by
        refine ⟨?_, fun q hq => by simp [Value.ownBlock] at hq; omega⟩
        have hz9 : (Value.int IntKind.i64 0).cells = #[.int .i64 0] := rfl
        rw [hz9, toList_madeCells_one] at hown5
        have h9 : w5.ownsRow w.heap.size 2 1 (.slice (some ⟨wr.heap.size, 0, none⟩) k k) k (List.replicate k (.int .i64 0)) := by simpa using hown5
        refine ⟨by simp, ?_⟩
        rcases h9.2 with ⟨hv, _⟩ | ⟨g', cap, cur, hv, hlo, hrest⟩
        · injection hv with hv
          cases hv
        · have hg' : g' = wr.heap.size := by
            injection hv with hv _ _
            injection hv with hv
            injection hv with hv _ _
            exact hv.symm
          subst hg'
          exact .inr ⟨wr.heap.size, cap, cur, by simpa using hv, Nat.le_refl _, by simpa using hrest⟩
      have hP5l := hP5.lt _ rfl
      have HOKO : Hid (Rl.okT r (Rl.inOrd s O) = true) := Lib.hid (by have h9 := Rl.inOrd_ok HT.out; rw [HL.out, HO.out] at h9; exact h9)
      have hff := implFfT_any r A3 k c3 wr.heap.size (Rl.inOrd s O) w5 (hr3.rd.below hb5 (Nat.le_refl _)) hzb5 HOKO.out
      have ho5 := (ho.mono (Nat.le_refl _) (show w.heap.size + 1 + 1 ≤ wr.heap.size by omega)).below hb5 (Nat.le_refl _)
      have hbb5 := hb.trans (hb5.mono (by omega))
      clear hgs hr3 hbt ho hb hown5 hg5 hb5 hgs5 g0 g1 g50 g51
      refine hff.mono ?_
      rintro e w6 ⟨A6, c6, rfl, ho6, hb6⟩
      have hzb6 := hb6.size
      have hP6 := hP5.below hb6 (by omega)
      have hO6 := ho5.below hb6 (by omega)
      have hbb6 := hbb5.trans (hb6.mono (by omega))
      clear hP5 ho5 hbb5 hb6 hff
      go_wp2_with fail
      obtain ⟨wq, rfl⟩ : ∃ wq, wq = wr := ⟨_, rfl⟩
      go_loopw [8, 9, 43] (fun _ _ i wv => ∃ j : Nat, j ≤ k ∧ i = .int .i64 (j : Int) ∧ Own I wv wq.heap.size (wq.heap.size + 1) 2 (.slice (some ⟨wq.heap.size, 0, none⟩) k k) (Rl.foT r s O j).1 ∧ Own I wv (w.heap.size + 1) wq.heap.size 2 (.slice (some ⟨w.heap.size + 1, 0, none⟩) k k) O ∧ Own I wv w5.heap.size w6.heap.size 2 (.slice A6 k c6) (Rl.ff r (Rl.inOrd s O)) ∧ Below w.heap.size w wv ∧ w6.heap.size ≤ wv.heap.size) (fun _ _ i _ => k - (intOf i).toNat)
      case atStart => exact ⟨0, Nat.zero_le _, rfl, by simpa [Rl.foT, HL.out] using hP6, hO6, ho6, hbb6, Nat.le_refl _⟩
      case round =>
        clear hP6 hO6 ho6 hbb6
        obtain ⟨j, hj, rfl, hP, ho, hF, hb, hzv⟩ := hrel
        by_cases hlt2 : j < k
        · obtain ⟨go, i, hgo, _, _, _, hi, ci, _⟩ := ho.at_ hlt2
          injection hgo with hgo
          injection hgo with hgo _ _
          subst hgo
          have him := Rl.ord_mem (s := s) (n := k) (i := i) (by rw [HO.out]; exact List.mem_of_getElem? hi)
          obtain ⟨u, rfl⟩ := Int.eq_ofNat_of_zero_le him.1
          have hun : u < k := by have := him.2; omega
          have hunI : (u : Int) < (k : Int) := by omega
          obtain ⟨v, hv1, hv2⟩ := Rl.ff_at (r := r) (s := s) hi
          obtain ⟨g6, v', rfl, hg61, hg62, hg63, hvv, cv, _⟩ := hF.at_ hlt2
          obtain rfl : v = v' := by rw [hv1] at hvv; injection hvv
          obtain ⟨gp, y, hgp, _, _, _, _, cp, fp⟩ := hP.at_ hun
          injection hgp with hgp
          injection hgp with hgp _ _
          subst hgp
          have hset := hP.set_ (k := u) v
          have hP9 := hset.1
          rw [Int.toNat_natCast] at hv2
          rw [← hv2] at hP9
          have HP9 := Lib.hid hP9
          have HO9 := Lib.hid (ho.only hset.2 (.inl (Nat.le_refl _)))
          have HF9 := Lib.hid (hF.only hset.2 (.inr (by omega)))
          have HB9 := Lib.hid (hb.trans (hset.2.below (by omega) (by omega)))
          have hz9 : w6.heap.size ≤ (wr.setCell ⟨wq.heap.size, u, none⟩ (.int .i64 v)).heap.size := by simp; omega
          clear hset hP9 hi him hv1 hv2 hvv hP ho hF hb
          go_wp2_with fail
          go_roundw
          case rel => exact ⟨j + 1, by omega, by go_num, HP9.out, HO9.out, HF9.out, HB9.out, hz9⟩
          case measure => simp [intOf]; omega
        · obtain rfl : j = k := by omega
          have hre := renum_any (some ⟨wq.heap.size, 0, none⟩) j j (wq.heap.size + 1) (Rl.foT r s O j).1 wr hP.rd (by omega) (by omega)
          have HE : Hid (Rl.number (Rl.foT r s O j).1 = Rl.lf r s) := Lib.hid (by
            unfold Rl.lf Rl.foT Rl.fo
            rw [HL.out, HO.out, HTK.out])
          have hzw : w.heap.size ≤ wr.heap.size := hb.size
          rw [HE.out] at hre
          clear hP ho hF
          go_wp2_with fail
          refine hre.mono ?_
          rintro e w9 ⟨A9, c9, rfl, ho9, hb9⟩
          have HB9 := Lib.hid (hb.trans (hb9.mono hzw))
          have HO9 := Lib.hid (ho9.mono hzw (Nat.le_refl _))
          clear ho9 hb9 hre hb
          go_wp2_with fail
          go_ret
          exact ⟨A9, c9, rfl, HO9.out, HB9.out⟩
set_option maxRecDepth 100000 in
set_option maxHeartbeats 4000000 in
theorem implLf_any1 (r : Int) (A : Option Addr) (n c B : Nat) (s R : List Int) (C : Int) (w : World) (h : Rd I w B A n s) (hB : B ≤ w.heap.size) (hn : n ≤ 1048576) (hc : n ≤ c) (hr : i64b r) (hR : Rl.lfR r s = R) (hC : Rl.ffC r s = C) :
    Calls Try.prog 17 #[.int .i64 r, .slice A n c] w fun e w' => LC w R C e w' := by
  obtain ⟨d, hd⟩ : ∃ d, Rl.okT r s = d := ⟨_, rfl⟩
  have HD := Lib.hid hd
  have HN := Lib.hid (below_newR w (.cells #[.int .i64 r, .slice A n c] 44))
  have hbx : TBx (w.alloc (.cells #[.int .i64 r, .slice A n c] 44)) w.heap.size r A n c := Blk.new _ _ rfl
  have hr0 := h.alloc hB (.cells #[.int .i64 r, .slice A n c] 44)
  have c0 := hbx.cell 0 (v := .int .i64 r) rfl
  have c1 := hbx.cell 1 (v := .slice A n c) rfl
  have hz : (w.alloc (.cells #[.int .i64 r, .slice A n c] 44)).heap.size = w.heap.size + 1 := by simp
  have hvt := implVt_any r A n c B s d _ hr0 (by omega) hn hd
  clear hd hr
  cases d
  · obtain ⟨e1, _, e2⟩ := Rl.ff_no HD.out
    have R0 := Lib.hid (hR.symm.trans e2)
    have C0 := Lib.hid (hC.symm.trans e1)
    clear hR hC e1 e2
    go_enter Try.func17, Try.ntmps17
    go_wp2_with fail
    refine hvt.mono ?_
    rintro e w1 ⟨rfl, hb1⟩
    go_wp2_with fail
    go_ret2
    exact LC.nil_ R0.out C0.out (HN.out.trans (hb1.mono (by omega)))
  · obtain ⟨e1, _, e2⟩ := Rl.ff_yes HD.out
    have R0 := Lib.hid (hR.symm.trans e2)
    have C0 := Lib.hid (hC.symm.trans e1)
    clear hR hC e1 e2
    go_enter Try.func17, Try.ntmps17
    go_wp2_with fail
    refine hvt.mono ?_
    rintro e w1 ⟨rfl, hb1⟩
    have q := hbx.below hb1 hbx.lt
    have hz1 := hb1.size
    replace c0 := q.cell 0 (v := .int .i64 r) rfl
    replace c1 := q.cell 1 (v := .slice A n c) rfl
    have hff := implLfT_any r A n c B s w1 (hr0.below hb1 (by omega)) (by omega) HD.out
    go_wp2_with fail
    refine hff.mono ?_
    rintro e w2 ⟨A3, c3, rfl, ho3, hb3⟩
    have HB3 := Lib.hid ((HN.out.trans (hb1.mono (by omega))).trans (hb3.mono (by omega)))
    have HO3 := Lib.hid (ho3.mono (show w.heap.size ≤ w1.heap.size by omega) (Nat.le_refl _))
    rw [← R0.out] at HO3
    clear ho3 hb3
    go_wp2_with fail
    go_ret2
    exact LC.mk_ rfl C0.out HO3.out (Nat.le_refl _) (Nat.le_refl _) (by omega) HB3.out
end Go.Proofs.Ytbhkpjjedeinpaa
