/- Contract of the model's first fit in an order. -/
import Derived.Test.YtbhkpjjedeinpaaRlBd
import Derived.Laws.MakeOwn
import Derived.BigQuiet
import Derived.Deep.QuietTactic
namespace Go.Proofs.Ytbhkpjjedeinpaa
open Go.RowKit
set_option linter.unusedVariables false

namespace Rl
theorem fit_is {r x : Int} {o : List Int} {j : Nat} (h : ∀ i, i < j → r < o.getD i 0 + x) (hj : j = o.length ∨ (j < o.length ∧ o.getD j 0 + x ≤ r)) : fit r x o = j := by
  induction o generalizing j with
  | nil =>
    rcases hj with rfl | ⟨h1, _⟩
    · rfl
    · simp at h1
  | cons y o ih =>
    cases j with
    | zero =>
      rcases hj with h1 | ⟨_, h1⟩
      · simp at h1
      · simp only [List.getD_cons_zero] at h1
        unfold fit
        rw [if_pos h1]
    | succ j =>
      have h0 := h 0 (by omega)
      simp only [List.getD_cons_zero] at h0
      unfold fit
      rw [if_neg (by omega), ih (j := j) (fun i hi => by have := h (i + 1) (by omega); simpa using this) (by simpa using hj)]
/-- The state of first fit after k of the order. -/
def foT (r : Int) (s q : List Int) (k : Nat) : List Int × List Int := (q.take k).foldl (foS r s) (List.replicate s.length 0, [])
theorem foT_next {r : Int} {s q : List Int} {k : Nat} {i : Int} (hi : q[k]? = some i) : foT r s q (k + 1) = foS r s (foT r s q k) i := by
  unfold foT
  rw [take_nextRl q k i hi, List.foldl_append]
  rfl
theorem addAt_pos {o : List Int} {k : Nat} {x : Int} (hx : 0 ≤ x) (h : ∀ y ∈ o, 0 ≤ y) : ∀ y ∈ addAt o k x, 0 ≤ y := by
  intro y hy
  obtain ⟨j, hj⟩ := List.getElem?_of_mem hy
  have e : y = (addAt o k x).getD j 0 := by rw [List.getD_eq_getElem?_getD, hj]; rfl
  rw [e, addAt_get]
  have h1 : 0 ≤ o.getD j 0 := by
    rw [List.getD_eq_getElem?_getD]
    rcases Nat.lt_or_ge j o.length with h2 | h2
    · rw [List.getElem?_eq_getElem h2]; exact h _ (List.getElem_mem _)
    · rw [List.getElem?_eq_none h2]; exact Int.le_refl 0
  split <;> omega
/-- What is kept in the loop: lengths and bounds. -/
structure FoB (r : Int) (s : List Int) (w : List Int × List Int) : Prop where
  len : w.1.length = s.length
  pos : ∀ y ∈ w.2, 0 ≤ y
  le : ∀ y ∈ w.2, y ≤ r
theorem FoB.start (r : Int) (s q : List Int) : FoB r s (foT r s q 0) := ⟨by simp [foT], by simp [foT], by simp [foT]⟩
theorem FoB.next {r : Int} {s : List Int} {w : List Int × List Int} {i : Int} (h : FoB r s w) (hx : 0 ≤ s.getD i.toNat 0) (hr : s.getD i.toNat 0 ≤ r) : FoB r s (foS r s w i) :=
  ⟨by simp [foS, h.len], addAt_pos hx h.pos, fit_all hr h.le⟩
theorem foT_rolls {r : Int} {s q : List Int} (k : Nat) : (foT r s q k).2.length ≤ k := by
  induction k with
  | zero => simp [foT]
  | succ k ih =>
    rcases Nat.lt_or_ge k q.length with h | h
    · rw [foT_next (List.getElem?_eq_getElem h)]
      simp only [foS, addAt_len]
      have := fit_le r (s.getD (q[k].toNat) 0) (foT r s q k).2
      omega
    · have e : foT r s q (k + 1) = foT r s q k := by
        unfold foT
        rw [List.take_of_length_le (by omega), List.take_of_length_le h]
      rw [e]
      omega
end Rl
set_option maxRecDepth 100000 in
set_option maxHeartbeats 8000000 in
theorem specFo_any (r : Int) (A1 A2 : Option Addr) (n c1 B1 m c2 B2 : Nat) (s q : List Int) (w : World) (h1 : Rd I w B1 A1 n s) (h2 : Rd I w B2 A2 m q) (hB1 : B1 ≤ w.heap.size) (hB2 : B2 ≤ w.heap.size) (hT : Rl.okT r s = true) (hm : m ≤ 12) (hq : ∀ i ∈ q, 0 ≤ i ∧ i.toNat < n) :
    Calls Try.prog 43 #[.int .i64 r, .slice A1 n c1, .slice A2 m c2] w fun e w' => ∃ A c, e = .returned (.slice A n c) ∧ Own I w' w.heap.size w'.heap.size 2 (.slice A n c) (Rl.fo r s q).1 ∧ Below w.heap.size w w' := by
  obtain ⟨i0, hi0, hz0, hz1, hz2⟩ := info_parts infoI
  have HL1 := Lib.hid h1.1
  have HL2 := Lib.hid h2.1
  have HOK := Lib.hid (Rl.okT_iff.1 hT)
  have HQ := Lib.hid hq
  have hn12 : n ≤ 12 := by have := HOK.out.2.1; rw [HL1.out] at this; exact this
  have hml : n ≤ maxLen := by unfold maxLen; omega
  have hr := HOK.out.1
  clear hq hT
  go_enter Try.func43, Try.ntmps43
  go_wp2_with (at_make; refine wpList_make_full _ rfl _ _ 24 rfl w.heap.size 2 i0 (.int .i64 0) 1 Try.underlying24 hi0 hz0 hz1 .i64 .i64 _ _ n rfl rfl rfl rfl (by rw [hz2]; omega) hml (Nat.le_refl _) ?_; intro w1 hown1 hg1)
  have hown : Own I w1 w.heap.size (w.heap.size + 1) 2 (.slice (some ⟨w.heap.size, 0, none⟩) n n) (List.replicate n 0) := by
    refine ⟨?_, fun k hk => by simp [Value.ownBlock] at hk; omega⟩
    have hz : (Value.int IntKind.i64 0).cells = #[.int .i64 0] := rfl
    rw [hz, toList_madeCells_one] at hown1
    simpa using hown1
  have hb1 : Below w.heap.size w w1 := (Below.refl _ _).grown hg1 (Nat.le_refl _) (by simp)
  clear hown1 hg1
  have hs1 : w.heap.size + 1 ≤ w1.heap.size := by have := hown.lt w.heap.size rfl; omega
  have hl0 : Own I (w1.alloc (.cells #[] 2)) w1.heap.size (w1.heap.size + 1) 2 (.slice (some ⟨w1.heap.size, 0, none⟩) 0 0) ([] : List Int) := Own.lit0 I w1 2
  have ho0 := hown.alloc (.cells #[] 2)
  have hb0 : Below w.heap.size w (w1.alloc (.cells #[] 2)) := hb1.alloc (by omega) _
  have hz0' : (w1.alloc (.cells #[] 2)).heap.size = w1.heap.size + 1 := by simp
  clear hown hb1
  go_loopw [8, 9] (fun v i wr => ∃ (k : Nat) (A : Option Addr) (e c : Nat), k ≤ m ∧ i = .int .i64 k ∧ v = .slice A e c ∧ e ≤ k ∧ Own I wr w.heap.size (w.heap.size + 1) 2 (.slice (some ⟨w.heap.size, 0, none⟩) n n) (Rl.foT r s q k).1 ∧ Own I wr (w.heap.size + 1) wr.heap.size 2 (.slice A e c) (Rl.foT r s q k).2 ∧ Hid (Rl.FoB r s (Rl.foT r s q k)) ∧ Below w.heap.size w wr ∧ w.heap.size + 1 ≤ wr.heap.size) (fun _ i _ => m - (intOf i).toNat)
  case atStart => exact ⟨0, _, _, _, Nat.zero_le _, rfl, rfl, Nat.le_refl _, by simpa [Rl.foT, HL1.out] using ho0, by simpa [Rl.foT] using hl0.mono (lo' := w.heap.size + 1) (hi' := (w1.alloc (.cells #[] 2)).heap.size) hs1 (by omega), Lib.hid (Rl.FoB.start r s q), hb0, by omega⟩
  case round =>
    clear hl0 ho0 hb0 hz0' hs1
    obtain ⟨k, A, e, c, hk, rfl, rfl, hek, ho, hl, HFB, hb, hzb⟩ := hrel
    by_cases hlt : k < m
    · obtain ⟨bq, oq, i, rfl, hbq, hi, ci⟩ := (h2.below hb hB2).at_ hlt
      have HI := Lib.hid hi
      have hi0' := HQ.out i (List.mem_of_getElem? hi)
      obtain ⟨y, rfl⟩ := Int.eq_ofNat_of_zero_le hi0'.1
      have hyn : y < n := by omega
      obtain ⟨bs, os, x, rfl, hbs, hx, cx⟩ := (h1.below hb hB1).at_ hyn
      have HX := Lib.hid hx
      have hx0 := HOK.out.2.2 x (List.mem_of_getElem? hx)
      obtain ⟨o, hoe⟩ : ∃ o, (Rl.foT r s q k).2 = o := ⟨_, rfl⟩
      have HOE := Lib.hid hoe
      rw [hoe] at hl
      have hlen := hl.rd.1
      have hbd : ∀ y ∈ o, 0 ≤ y ∧ y ≤ r := by rw [← hoe]; exact fun y hy => ⟨HFB.out.pos y hy, HFB.out.le y hy⟩
      have HBD := Lib.hid hbd
      have HLEN := Lib.hid hlen
      clear hi hx hi0' hoe hbd hlen
      go_wp2_with fail
      -- INNER
      obtain ⟨wr0, hwr0⟩ : ∃ w_, w_ = wr := ⟨_, rfl⟩
      subst hwr0
      go_loopw [10] (fun v wr' => ∃ j : Nat, j ≤ e ∧ v = .int .i64 j ∧ Hid (∀ i, i < j → r < o.getD i 0 + x) ∧ Q wr0 wr') (fun v _ => e - (intOf v).toNat)
      case atStart => exact ⟨0, Nat.zero_le _, rfl, Lib.hid fun i hi => by omega, Q.refl _⟩
      case round =>
        obtain ⟨j, hj, rfl, HJ, hqq⟩ := hrel
        obtain ⟨m0, rfl⟩ := hqq
        replace hl := hl.drewN m0
        replace ho := ho.drewN m0
        replace hb := below_drewN' hb m0
        replace hzb : w.heap.size + 1 ≤ (wr0.drewN m0).heap.size := hzb
        replace ci : (wr0.drewN m0).cell? ⟨bq, oq + k, none⟩ = some (I (y : Int)) := ci
        replace cx : (wr0.drewN m0).cell? ⟨bs, os + y, none⟩ = some (I x) := cx
        have HM : Hid (∀ nq, Q wr0 ((wr0.drewN m0).drewN nq)) := Lib.hid fun nq => (Q.drewN wr0 m0).more nq
        replace hl : Own I (wr0.drewN m0) (w.heap.size + 1) (wr0.drewN m0).heap.size 2 (.slice A e c) o := hl
        generalize wr0.drewN m0 = wr at *
        by_cases hje : j < e
        · obtain ⟨g, z, rfl, hg1, hg2, hg3, hz, cz, fz⟩ := hl.at_ hje
          have HZ := Lib.hid hz
          have hz0 := HBD.out z (List.mem_of_getElem? hz)
          have ez : o.getD j 0 = z := by rw [List.getD_eq_getElem?_getD, HZ.out]; rfl
          have EZ := Lib.hid ez
          have ea : IntKind.i64.wrap (z + x) = z + x := IntWalk.i64_in _ (by omega)
          have ejI : (j : Int) < (e : Int) := by omega
          clear hz hz0 ez
          by_cases hfit : r < z + x
          · go_wp2_with fail
            go_quiet (fail)
            go_wp2_with fail
            go_roundw
            case rel => exact ⟨j + 1, by omega, by go_num, Lib.hid fun i hi => by
              rcases Nat.lt_or_ge i j with h_ | h_
              · exact HJ.out i h_
              · obtain rfl : i = j := by omega
                rw [EZ.out]
                exact hfit, HM.out _⟩
            case measure => simp [intOf]; omega
          · have HFIT : Hid (Rl.fit r x o = j) := Lib.hid (Rl.fit_is HJ.out (.inr ⟨by rw [HLEN.out]; exact hje, by rw [EZ.out]; omega⟩))
            have HADD : Hid (Rl.addAt o j x = o.set j (z + x)) := Lib.hid (by
              rw [Rl.addAt_set, show j + 1 - o.length = 0 from by rw [HLEN.out]; omega]
              simp only [List.replicate_zero, List.append_nil]
              rw [EZ.out])
            have hne : ¬ ((j : Int) = (e : Int)) := by omega
            go_wp2_with fail
            go_quiet (fail)
            obtain ⟨c5, hc5⟩ : ∃ c5, c5 = c := ⟨_, rfl⟩
            subst hc5
            have hl5 : Own I (wr.drewN nq) (w.heap.size + 1) (wr.drewN nq).heap.size 2 (.slice (some ⟨g, 0, none⟩) e c5) o := hl.drewN nq
            have ho5 : Own I (wr.drewN nq) w.heap.size (w.heap.size + 1) 2 (.slice (some ⟨w.heap.size, 0, none⟩) n n) (Rl.foT r s q k).1 := ho.drewN nq
            have hb5 : Below w.heap.size w (wr.drewN nq) := below_drewN' hb nq
            have hz5 : w.heap.size + 1 ≤ (wr.drewN nq).heap.size := hzb
            have ci5 : (wr.drewN nq).cell? ⟨bq, oq + k, none⟩ = some (I (y : Int)) := ci
            have cx5 : (wr.drewN nq).cell? ⟨bs, os + y, none⟩ = some (I x) := cx
            have cz5 : (wr.drewN nq).cell? ⟨g, j, none⟩ = some (I z) := cz
            have fz5 : (wr.drewN nq).frozen? ⟨g, j, none⟩ = false := fz
            clear cz fz ci cx hl ho hb hzb HM
            generalize wr.drewN nq = w5 at *
            have hst := hl5.set_ (k := j) (z + x)
            have hl6 : Own I (w5.setCell ⟨g, j, none⟩ (.int .i64 (z + x))).drew (w.heap.size + 1) (w5.setCell ⟨g, j, none⟩ (.int .i64 (z + x))).drew.heap.size 2 (.slice (some ⟨g, 0, none⟩) e c5) (o.set j (z + x)) := (hst.1.mono (Nat.le_refl _) (show w5.heap.size ≤ (w5.setCell ⟨g, j, none⟩ (.int .i64 (z + x))).heap.size by simp)).drewN 1
            have ho6 : Own I (w5.setCell ⟨g, j, none⟩ (.int .i64 (z + x))).drew w.heap.size (w.heap.size + 1) 2 (.slice (some ⟨w.heap.size, 0, none⟩) n n) (Rl.foT r s q k).1 := (ho5.only hst.2 (.inl (Nat.le_refl _))).drewN 1
            have hb6 : Below w.heap.size w (w5.setCell ⟨g, j, none⟩ (.int .i64 (z + x))).drew := below_drewN' (hb5.trans (hst.2.below (by omega) (by omega))) 1
            have hz6 : w.heap.size + 1 ≤ (w5.setCell ⟨g, j, none⟩ (.int .i64 (z + x))).drew.heap.size := by show w.heap.size + 1 ≤ (w5.setCell ⟨g, j, none⟩ (.int .i64 (z + x))).heap.size; simpa using hz5
            have HL6 := Lib.hid hl6
            have HO6 := Lib.hid ho6
            have HB6 := Lib.hid hb6
            have HZ6 := Lib.hid hz6
            clear hst hl6 ho6 hb6 hz6
            go_wp2_with fail
            go_region
            have hl6 := HL6.out
            have ho6 := HO6.out
            have hb6 := HB6.out
            have hz6 := HZ6.out
            clear HL6 HO6 HB6 HZ6 hl5 ho5 hb5 ci5 cx5
            generalize (w5.setCell ⟨g, j, none⟩ (.int .i64 (z + x))).drew = w6 at *
            obtain ⟨bq', oq', i', eq', hbq', hi', ci6⟩ := (h2.below hb6 hB2).at_ hlt
            injection eq' with eq'
            injection eq' with eq1 eq2 _
            subst eq1 eq2
            have hii := HI.out.symm.trans hi'
            injection hii with hii
            subst hii
            obtain ⟨gw, zo, egw, _, _, _, hzo, czo, fzo⟩ := ho6.at_ (k := y) hyn
            injection egw with egw
            injection egw with egw _ _
            subst egw
            have hso := ho6.set_ (k := y) (j : Int)
            have HSO := Lib.hid hso
            have HL6 := Lib.hid hl6
            have HB6 := Lib.hid hb6
            clear hso hi' hzo hl6 ho6 hb6
            go_wp2_with fail
            go_roundw
            case rel =>
              have hn1 := Rl.foT_next (r := r) (s := s) HI.out
              have hsx : s.getD ((y : Int)).toNat 0 = x := by rw [Int.toNat_natCast, List.getD_eq_getElem?_getD, HX.out]; rfl
              have hn2 : Rl.foT r s q (k + 1) = ((Rl.foT r s q k).1.set y (j : Int), o.set j (z + x)) := by
                rw [hn1]
                unfold Rl.foS
                rw [hsx, HOE.out, HFIT.out, HADD.out, Int.toNat_natCast]
              have hFB : Rl.FoB r s (Rl.foT r s q (k + 1)) := by
                rw [hn1]
                have hx0 := HOK.out.2.2 x (List.mem_of_getElem? HX.out)
                exact HFB.out.next (by rw [hsx]; omega) (by rw [hsx]; omega)
              have HN := Lib.hid hFB
              clear hFB hn1
              refine ⟨k + 1, _, _, _, by omega, by go_num, rfl, by omega, ?_, ?_, HN, HB6.out.trans (HSO.out.2.below (Nat.le_refl _) HB6.out.size), by simpa using hz6⟩
              · rw [hn2]
                exact HSO.out.1
              · rw [hn2]
                exact (HL6.out.only HSO.out.2 (.inr (Nat.le_refl _))).mono (Nat.le_refl _) (by simp)
            case measure => simp [intOf]; omega
        · obtain rfl : j = e := by omega
          have HFIT : Hid (Rl.fit r x o = j) := Lib.hid (Rl.fit_is HJ.out (.inl HLEN.out.symm))
          have HADD : Hid (Rl.addAt o j x = (o ++ [0]).set j x) := Lib.hid (by
            rw [Rl.addAt_set, show j + 1 - o.length = 1 from by rw [HLEN.out]; omega]
            have hg_ : (o ++ List.replicate 1 (0 : Int)).getD j 0 = 0 := by
              rw [List.getD_eq_getElem?_getD, ← HLEN.out]
              simp
            rw [hg_, Int.zero_add]
            rfl)
          have h5m := Q.refl wr
          go_wp2_with fail
          go_quiet (fail)
          have hl5 : Own I (wr.drewN nq) (w.heap.size + 1) (wr.drewN nq).heap.size 2 (.slice A j c) o := hl.drewN nq
          have ho5 : Own I (wr.drewN nq) w.heap.size (w.heap.size + 1) 2 (.slice (some ⟨w.heap.size, 0, none⟩) n n) (Rl.foT r s q k).1 := ho.drewN nq
          have hb5 : Below w.heap.size w (wr.drewN nq) := below_drewN' hb nq
          have hz5 : w.heap.size + 1 ≤ (wr.drewN nq).heap.size := hzb
          have ci5 : (wr.drewN nq).cell? ⟨bq, oq + k, none⟩ = some (I (y : Int)) := ci
          have cx5 : (wr.drewN nq).cell? ⟨bs, os + y, none⟩ = some (I x) := cx
          clear ci cx hl ho hb hzb HM
          generalize wr.drewN nq = w4 at *
          go_wp2_with (at_builtin; refine wp_push (enc := I) w4 rfl _ _ 24 rfl 2 i0 _ 8 Try.underlying24 hi0 hz0 hz1 hz2 rfl A j c _ _ _ rfl hl5 0 rfl rfl (by omega) (by omega) (by omega) ?_; intro A5 c5 w5 hl6 hm6; have HL6 := Lib.hid hl6; have HO6 := Lib.hid (ho5.only hm6 (.inl (Nat.le_refl _))); have HB6 := Lib.hid (hb5.trans (hm6.below (by omega) (by omega))); have HZ6 := Lib.hid (Nat.le_trans hz5 hm6.size); clear hl5 ho5 hb5 hz5 ci5 cx5 hl6 hm6)
          have hl5 := HL6.out
          have ho5 := HO6.out
          have hb5 := HB6.out
          have hz5 := HZ6.out
          clear HL6 HO6 HB6 HZ6
          obtain ⟨g, z, rfl, hg1, hg2, hg3, hz, cz5, fz5⟩ := hl5.at_ (k := j) (by omega)
          have hz0 : z = 0 := by
            have h_ : (o ++ [(0 : Int)])[j]? = some 0 := by rw [← HLEN.out]; simp
            rw [h_] at hz
            injection hz with hz
            exact hz.symm
          subst hz0
          obtain ⟨bq2, oq2, i2, eq2, _, hi2, ci5⟩ := (h2.below hb5 hB2).at_ hlt
          injection eq2 with eq2
          injection eq2 with eq2a eq2b _
          subst eq2a eq2b
          have hii2 := HI.out.symm.trans hi2
          injection hii2 with hii2
          subst hii2
          obtain ⟨bs2, os2, x2, es2, _, hx2, cx5⟩ := (h1.below hb5 hB1).at_ hyn
          injection es2 with es2
          injection es2 with es2a es2b _
          subst es2a es2b
          have hxx2 := HX.out.symm.trans hx2
          injection hxx2 with hxx2
          subst hxx2
          have ea : IntKind.i64.wrap (0 + x) = 0 + x := IntWalk.i64_in _ (by omega)
          clear hi2 hx2 hz
          have hst := hl5.set_ (k := j) (x)
          have hl6 : Own I (w5.setCell ⟨g, j, none⟩ (.int .i64 (x))).drew (w.heap.size + 1) (w5.setCell ⟨g, j, none⟩ (.int .i64 (x))).drew.heap.size 2 (.slice (some ⟨g, 0, none⟩) (j + 1) c5) ((o ++ [0]).set j x) := (hst.1.mono (Nat.le_refl _) (show w5.heap.size ≤ (w5.setCell ⟨g, j, none⟩ (.int .i64 (x))).heap.size by simp)).drewN 1
          have ho6 : Own I (w5.setCell ⟨g, j, none⟩ (.int .i64 (x))).drew w.heap.size (w.heap.size + 1) 2 (.slice (some ⟨w.heap.size, 0, none⟩) n n) (Rl.foT r s q k).1 := (ho5.only hst.2 (.inl (Nat.le_refl _))).drewN 1
          have hb6 : Below w.heap.size w (w5.setCell ⟨g, j, none⟩ (.int .i64 (x))).drew := below_drewN' (hb5.trans (hst.2.below (by omega) (by omega))) 1
          have hz6 : w.heap.size + 1 ≤ (w5.setCell ⟨g, j, none⟩ (.int .i64 (x))).drew.heap.size := by show w.heap.size + 1 ≤ (w5.setCell ⟨g, j, none⟩ (.int .i64 (x))).heap.size; simpa using hz5
          have HL6 := Lib.hid hl6
          have HO6 := Lib.hid ho6
          have HB6 := Lib.hid hb6
          have HZ6 := Lib.hid hz6
          clear hst hl6 ho6 hb6 hz6
          go_wp2_with fail
          go_region
          have hl6 := HL6.out
          have ho6 := HO6.out
          have hb6 := HB6.out
          have hz6 := HZ6.out
          clear HL6 HO6 HB6 HZ6 hl5 ho5 hb5 ci5 cx5
          generalize (w5.setCell ⟨g, j, none⟩ (.int .i64 (x))).drew = w6 at *
          obtain ⟨bq', oq', i', eq', hbq', hi', ci6⟩ := (h2.below hb6 hB2).at_ hlt
          injection eq' with eq'
          injection eq' with eq1 eq2 _
          subst eq1 eq2
          have hii := HI.out.symm.trans hi'
          injection hii with hii
          subst hii
          obtain ⟨gw, zo, egw, _, _, _, hzo, czo, fzo⟩ := ho6.at_ (k := y) hyn
          injection egw with egw
          injection egw with egw _ _
          subst egw
          have hso := ho6.set_ (k := y) (j : Int)
          have HSO := Lib.hid hso
          have HL6 := Lib.hid hl6
          have HB6 := Lib.hid hb6
          clear hso hi' hzo hl6 ho6 hb6
          go_wp2_with fail
          go_roundw
          case rel =>
            have hn1 := Rl.foT_next (r := r) (s := s) HI.out
            have hsx : s.getD ((y : Int)).toNat 0 = x := by rw [Int.toNat_natCast, List.getD_eq_getElem?_getD, HX.out]; rfl
            have hn2 : Rl.foT r s q (k + 1) = ((Rl.foT r s q k).1.set y (j : Int), (o ++ [0]).set j x) := by
              rw [hn1]
              unfold Rl.foS
              rw [hsx, HOE.out, HFIT.out, HADD.out, Int.toNat_natCast]
            have hFB : Rl.FoB r s (Rl.foT r s q (k + 1)) := by
              rw [hn1]
              have hx0 := HOK.out.2.2 x (List.mem_of_getElem? HX.out)
              exact HFB.out.next (by rw [hsx]; omega) (by rw [hsx]; omega)
            have HN := Lib.hid hFB
            clear hFB hn1
            refine ⟨k + 1, _, _, _, by omega, by go_num, rfl, by omega, ?_, ?_, HN, HB6.out.trans (HSO.out.2.below (Nat.le_refl _) HB6.out.size), by simpa using hz6⟩
            · rw [hn2]
              exact HSO.out.1
            · rw [hn2]
              exact (HL6.out.only HSO.out.2 (.inr (Nat.le_refl _))).mono (Nat.le_refl _) (by simp)
          case measure => simp [intOf]; omega
    · obtain rfl : k = m := by omega
      have HE : Hid ((Rl.foT r s q k).1 = (Rl.fo r s q).1) := Lib.hid (by unfold Rl.foT Rl.fo; rw [List.take_of_length_le (by rw [HL2.out]; exact Nat.le_refl _)])
      rw [HE.out] at ho
      go_wp2_with fail
      go_ret
      exact ⟨_, _, rfl, ho.mono (Nat.le_refl _) hzb, hb⟩
end Go.Proofs.Ytbhkpjjedeinpaa
