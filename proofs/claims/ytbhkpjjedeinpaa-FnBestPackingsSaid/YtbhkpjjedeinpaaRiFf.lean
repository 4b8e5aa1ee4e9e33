/- Contracts of the program's first fit, and of FirstFit. -/
import Derived.Test.YtbhkpjjedeinpaaRiSp
import Derived.Laws.MakeOwn
namespace Go.Proofs.Ytbhkpjjedeinpaa
open Go.RowKit
set_option linter.unusedVariables false

theorem ffClo_any (y x : Int) (g : Nat) (w : World) (hg : w.cell? ⟨g, 0, none⟩ = some (.int .i64 x)) :
    Calls Try.prog 60 #[.int .i64 y, .pointer (some ⟨g, 0, none⟩)] w fun e w' => e = .returned (.bool (decide (x ≤ y))) ∧ w = w' := by
  go_enter Try.func60, Try.ntmps60
  go_wp2_with fail
  go_ret
  exact ⟨rfl, rfl⟩
set_option maxRecDepth 100000 in
set_option maxHeartbeats 4000000 in
theorem ffIdx_any (x : Int) (g : Nat) (A : Option Addr) (n c B : Nat) (L : List Int) (w : World) (h : Rd I w B A n L) (hn : n ≤ 4096) (hg : w.cell? ⟨g, 0, none⟩ = some (.int .i64 x)) :
    Calls Try.prog 59 #[.slice A n c, .func (.func 60) #[] #[.pointer (some ⟨g, 0, none⟩)]] w fun e w' =>
      (∃ (j : Nat) (v : Int), e = .returned (.int .i64 v) ∧ (∀ i, i < j → L.getD i 0 < x) ∧ ((j = n ∧ v = -1) ∨ (j < n ∧ x ≤ L.getD j 0 ∧ v = (j : Int)))) ∧ w = w' := by
  have HL : Hid (L.length = n) := Lib.hid h.1
  have hcl := fun y => ffClo_any y x g w hg
  go_enter Try.func59, Try.ntmps59
  go_wp2_with fail
  go_loop [5, 8] (fun _ i => ∃ k : Nat, k ≤ n ∧ i = .int .i64 k ∧ Hid (∀ i, i < k → L.getD i 0 < x)) (fun _ i => n - (intOf i).toNat)
  case atStart => exact ⟨0, Nat.zero_le _, rfl, Lib.hid fun i hi => by omega⟩
  case round =>
    obtain ⟨k, hk, rfl, HN⟩ := hrel
    by_cases hlt : k < n
    · obtain ⟨bb, oo, y, rfl, hbB, hy, hc⟩ := h.at_ hlt
      have HY : Hid (L.getD k 0 = y) := Lib.hid (by rw [List.getD_eq_getElem?_getD, hy]; rfl)
      have hcy := hcl y
      clear hy
      by_cases hxy : x ≤ y
      · rw [decide_eq_true hxy] at hcy
        have HXY := Lib.hid hxy
        clear hxy
        go_wp2_with fail
        refine hcy.mono ?_
        rintro e _ ⟨rfl, rfl⟩
        go_wp2_with fail
        go_ret
        exact ⟨⟨k, _, rfl, HN.out, .inr ⟨hlt, by rw [HY.out]; exact HXY.out, rfl⟩⟩, rfl⟩
      · rw [decide_eq_false hxy] at hcy
        have HXY := Lib.hid hxy
        clear hxy
        go_wp2_with fail
        refine hcy.mono ?_
        rintro e _ ⟨rfl, rfl⟩
        go_wp2_with fail
        go_round
        case rel => exact ⟨k + 1, by omega, by go_num, Lib.hid fun i hi => by
          rcases Nat.lt_or_ge i k with h1 | h1
          · exact HN.out i h1
          · obtain rfl : i = k := by omega
            have := HXY.out
            rw [HY.out]
            omega⟩
        case measure => simp [intOf]; omega
    · obtain rfl : k = n := by omega
      go_wp2_with fail
      go_ret
      exact ⟨⟨k, _, rfl, HN.out, .inl ⟨rfl, rfl⟩⟩, rfl⟩
set_option maxRecDepth 100000 in
set_option maxHeartbeats 8000000 in
theorem implFfT_any (r : Int) (A : Option Addr) (n c B : Nat) (s : List Int) (w : World) (h : Rd I w B A n s) (hB : B ≤ w.heap.size) (hT : Rl.okT r s = true) :
    Calls Try.prog 42 #[TV r A n c] w fun e w' => ∃ A' c', e = .returned (.slice A' n c') ∧ Own I w' w.heap.size w'.heap.size 2 (.slice A' n c') (Rl.ff r s) ∧ Below w.heap.size w w' := by
  obtain ⟨i0, hi0, hz0, hz1, hz2⟩ := info_parts infoI
  have HL := Lib.hid h.1
  have hok := Rl.okT_iff.1 hT
  have HOK := Lib.hid hok
  have hn12 : n ≤ 12 := by have := hok.2.1; rw [HL.out] at this; exact this
  have hml : n ≤ maxLen := by unfold maxLen; omega
  have hr1 := hok.1
  have HN := Lib.hid (below_newR w (.cells #[.int .i64 r, .slice A n c] 44))
  have hbx : TBx (w.alloc (.cells #[.int .i64 r, .slice A n c] 44)) w.heap.size r A n c := Blk.new _ _ rfl
  have hz : (w.alloc (.cells #[.int .i64 r, .slice A n c] 44)).heap.size = w.heap.size + 1 := by simp
  have k0 := hbx.cell 0 (v := .int .i64 r) rfl
  have k1 := hbx.cell 1 (v := .slice A n c) rfl
  clear hok hT
  go_enter Try.func42, Try.ntmps42
  go_wp2_with (at_make; refine wpList_make_full _ rfl _ _ 24 rfl (w.heap.size + 1) 2 i0 (.int .i64 0) 1 Try.underlying24 hi0 hz0 hz1 .i64 .i64 _ _ n rfl rfl rfl rfl (by rw [hz2]; omega) hml (by simp) ?_; intro w1 hown1 hg1; have hb1 := (Below.refl (w.alloc (.cells #[.int .i64 r, .slice A n c] 44)).heap.size (w.alloc (.cells #[.int .i64 r, .slice A n c] 44))).grown hg1 (Nat.le_refl _) (by simp); have hbx1 := hbx.below hb1 hbx.lt; have k01 := hbx1.cell 0 (v := .int .i64 r) rfl; have k11 := hbx1.cell 1 (v := .slice A n c) rfl; rw [hz] at hown1; have hown : Own I w1 (w.heap.size + 1) (w.heap.size + 2) 2 (.slice (some ⟨w.heap.size + 1, 0, none⟩) n n) (List.replicate n 0) := (by
    refine ⟨?_, fun k hk => by simp [Value.ownBlock] at hk; omega⟩
    have hz9 : (Value.int IntKind.i64 0).cells = #[.int .i64 0] := rfl
    rw [hz9, toList_madeCells_one] at hown1
    simpa using hown1); have hs1 : w.heap.size + 2 ≤ w1.heap.size := (by have := hown.lt (w.heap.size + 1) rfl; omega); have hbw := HN.out.trans (hb1.mono (by omega)); clear hown1 hg1 hb1)
  clear hbx k0 k1
  go_loopw [4, 5, 6, 7, 15] (fun v _ _ _ i wr => ∃ (k m : Nat) (A3 : Option Addr) (c3 : Nat), k ≤ n ∧ m ≤ k ∧ i = .int .i64 k ∧ v = .slice A3 m c3 ∧ Own I wr (w.heap.size + 1) (w.heap.size + 2) 2 (.slice (some ⟨w.heap.size + 1, 0, none⟩) n n) (Rl.foT r s (Rl.idx s.length) k).1 ∧ Own I wr (w.heap.size + 2) wr.heap.size 2 (.slice A3 m c3) ((Rl.foT r s (Rl.idx s.length) k).2.map fun x => r - x) ∧ Hid (Rl.FoB r s (Rl.foT r s (Rl.idx s.length) k)) ∧ TBx wr w.heap.size r A n c ∧ Below w.heap.size w wr ∧ w.heap.size + 2 ≤ wr.heap.size) (fun _ _ _ _ i _ => n - (intOf i).toNat)
  case atStart => exact ⟨0, 0, none, 0, Nat.zero_le _, Nat.le_refl _, rfl, rfl, by simpa [Rl.foT, HL.out] using hown, by simpa [Rl.foT] using (Own.nil_ (enc := I)), Lib.hid (Rl.FoB.start r s _), hbx1, hbw, hs1⟩
  case round =>
    clear hown hbx1 hbw hs1 k01 k11
    obtain ⟨k, m, A3, c3, hk, hmk, rfl, rfl, hp, ho, HFB, hbx, hb, hzb⟩ := hrel
    have k0 := hbx.cell 0 (v := .int .i64 r) rfl
    have k1 := hbx.cell 1 (v := .slice A n c) rfl
    obtain ⟨o, hoe⟩ : ∃ o, (Rl.foT r s (Rl.idx s.length) k).2 = o := ⟨_, rfl⟩
    have HOE := Lib.hid hoe
    rw [hoe] at ho
    have HOL : Hid (o.length = m) := Lib.hid (by have := ho.rd.1; rwa [List.length_map] at this)
    clear hoe
    by_cases hlt : k < n
    · obtain ⟨b1, o1, x, rfl, hb1, hx, cx⟩ := (h.below hb hB).at_ hlt
      have HX := Lib.hid hx
      have hx1 := HOK.out.2.2 x (List.mem_of_getElem? hx)
      have HSX : Hid (s.getD k 0 = x) := Lib.hid (by rw [List.getD_eq_getElem?_getD, hx]; rfl)
      have HNX : Hid (Rl.foT r s (Rl.idx s.length) (k + 1) = ((Rl.foT r s (Rl.idx s.length) k).1.set k (Rl.fit r x o : Int), Rl.addAt o (Rl.fit r x o) x)) := Lib.hid (by
        have hi : (Rl.idx s.length)[k]? = some (k : Int) := by
          unfold Rl.idx
          rw [List.getElem?_map, List.getElem?_range (by rw [HL.out]; exact hlt)]
          rfl
        rw [Rl.foT_next hi]
        unfold Rl.foS
        rw [Int.toNat_natCast, HSX.out, HOE.out])
      have HFN : Hid (Rl.FoB r s (Rl.foT r s (Rl.idx s.length) (k + 1))) := Lib.hid (by
        have hi : (Rl.idx s.length)[k]? = some (k : Int) := by
          unfold Rl.idx
          rw [List.getElem?_map, List.getElem?_range (by rw [HL.out]; exact hlt)]
          rfl
        rw [Rl.foT_next hi]
        exact HFB.out.next (by rw [Int.toNat_natCast, HSX.out]; omega) (by rw [Int.toNat_natCast, HSX.out]; omega))
      have HBD : Hid (∀ y ∈ o, 0 ≤ y ∧ y ≤ r) := Lib.hid (by rw [← HOE.out]; exact fun y hy => ⟨HFB.out.pos y hy, HFB.out.le y hy⟩)
      have hst0 : Blk (wr.alloc (.cells #[.int .i64 x] 2)) wr.heap.size #[.int .i64 x] 2 := Blk.new _ _ rfl
      have s0 := hst0.cell 0 (v := .int .i64 x) rfl
      have hp0 := hp.alloc (.cells #[.int .i64 x] 2)
      have ho0 := ho.alloc (.cells #[.int .i64 x] 2)
      have hbx0 := hbx.alloc (.cells #[.int .i64 x] 2)
      have hb0 := hb.alloc (by omega) (.cells #[.int .i64 x] 2)
      have hzz0 : (wr.alloc (.cells #[.int .i64 x] 2)).heap.size = wr.heap.size + 1 := by simp
      have k00 := hbx0.cell 0 (v := .int .i64 r) rfl
      have k10 := hbx0.cell 1 (v := .slice (some ⟨b1, o1, none⟩) n c) rfl
      have hidx := ffIdx_any x wr.heap.size A3 m c3 wr.heap.size _ _ ho0.rd (by omega) s0
      clear hx hp ho hbx hb
      go_wp2_with fail
      refine hidx.mono ?_
      rintro e V ⟨⟨j, v, rfl, hlow, hcase⟩, hV⟩
      rw [hV] at hst0 s0 hp0 ho0 hbx0 hb0 hzz0 k00 k10
      clear hV
      have HFI : Hid (Rl.fit r x o = j) := Lib.hid (by
        refine Rl.fit_is (fun i hi => ?_) ?_
        · have h3 := hlow i hi
          rcases hcase with ⟨h4, _⟩ | ⟨h4, _, _⟩
          all_goals
            rw [List.getD_eq_getElem?_getD, List.getElem?_map, List.getElem?_eq_getElem (by rw [HOL.out]; omega)] at h3
            rw [List.getD_eq_getElem?_getD, List.getElem?_eq_getElem (by rw [HOL.out]; omega)]
            simp at h3 ⊢
            omega
        · rcases hcase with ⟨h4, _⟩ | ⟨h4, h5, _⟩
          · exact .inl (by rw [HOL.out]; exact h4)
          · refine .inr ⟨by rw [HOL.out]; exact h4, ?_⟩
            rw [List.getD_eq_getElem?_getD, List.getElem?_map, List.getElem?_eq_getElem (by rw [HOL.out]; exact h4)] at h5
            rw [List.getD_eq_getElem?_getD, List.getElem?_eq_getElem (by rw [HOL.out]; exact h4)]
            simp at h5 ⊢
            omega)
      clear hlow hidx
      rcases hcase with ⟨hjm, rfl⟩ | ⟨hjm, hfit, rfl⟩
      · subst hjm
        have HNR : Hid ((o.map (fun x => r - x)) ++ List.replicate (j + 1 - o.length) r = (o.map (fun x => r - x)) ++ [r]) := Lib.hid (by rw [HOL.out]; simp)
        go_wp2_with (at_builtin; refine wp_push (enc := I) V rfl _ _ 24 rfl 2 i0 _ 8 Try.underlying24 hi0 hz0 hz1 hz2 rfl A3 j c3 _ _ _ rfl ho0 r (by rw [hzz0]; rfl) rfl (by omega) (by omega) (by omega) ?_; intro A4 c4 w4 ho4 hm4; have hbx4 := hbx0.only hm4 (.inl (by omega)); have hst4 := hst0.only hm4 (.inr (Nat.le_refl _)); have hp4 := hp0.only hm4 (.inl (Nat.le_refl _)); have hb4 := hb0.trans (hm4.below (by omega) (by omega)); have hzb4 : w.heap.size + 2 ≤ w4.heap.size := (by have := hm4.size; omega); obtain ⟨g, y, rfl, hg1, hg2, hg3, hy, cy, fy⟩ := ho4.at_ (k := j) (by omega); have HY : Hid (y = r) := Lib.hid (by rw [List.getElem?_append_right (by rw [List.length_map, HOL.out]; exact Nat.le_refl _), List.length_map, HOL.out] at hy; simp at hy; exact hy.symm); have HLS : Hid (((o.map (fun x => r - x)) ++ [r]).set j (y - x) = (Rl.foT r s (Rl.idx s.length) (k + 1)).2.map fun x => r - x) := Lib.hid (by rw [HNX.out, HFI.out]; simp only; rw [Rl.addAt_map, HNR.out]; congr 1; rw [List.getD_eq_getElem?_getD, hy]; rfl); have hyb : 0 ≤ y ∧ y ≤ r := (by have := HY.out; omega); have ez : IntKind.i64.wrap (y - x) = y - x := IntWalk.i64_in _ (by omega); have k04 := hbx4.cell 0 (v := .int .i64 r) rfl; have k14 := hbx4.cell 1 (v := .slice (some ⟨b1, o1, none⟩) n c) rfl; have s4 := hst4.cell 0 (v := .int .i64 x) rfl; clear hm4 hy ho0 hp0 hbx0 hb0 hst0 k00 k10 s0)
        have hset := ho4.set_ (k := j) (y - x)
        have hbx5 := hbx4.only hset.2 (.inl (by omega))
        have hp5 := hp4.only hset.2 (.inl (Nat.le_refl _))
        have hb5 := hb4.trans (hset.2.below (by omega) (by omega))
        have ho5 := hset.1
        rw [HLS.out] at ho5
        have hz5 : (w4.setCell ⟨g, j, none⟩ (.int .i64 (y - x))).heap.size = w4.heap.size := by simp
        obtain ⟨gp, u, hgp, hgp1, hgp2, hgp3, _, cp, fp⟩ := hp5.at_ hlt
        injection hgp with hgp
        injection hgp with hgp _ _
        subst hgp
        have hset2 := hp5.set_ (k := k) (j : Int)
        have hbx6 := hbx5.only hset2.2 (.inl (by omega))
        have ho6 := ho5.only hset2.2 (.inr (Nat.le_refl _))
        have hb6 := hb5.trans (hset2.2.below (by omega) (by omega))
        have hp6 := hset2.1
        have HP6 : Hid ((Rl.foT r s (Rl.idx s.length) (k + 1)).1 = (Rl.foT r s (Rl.idx s.length) k).1.set k (j : Int)) := Lib.hid (by rw [HNX.out, HFI.out])
        rw [← HP6.out] at hp6
        have HP9 := Lib.hid hp6
        have HO9 := Lib.hid (ho6.mono (Nat.le_refl _) (show _ ≤ ((w4.setCell ⟨g, j, none⟩ (.int .i64 (y - x))).setCell ⟨w.heap.size + 1, k, none⟩ (.int .i64 (j : Int))).heap.size by simp; try omega))
        have HX9 := Lib.hid hbx6
        have HB9 := Lib.hid hb6
        have hsz9 : w.heap.size + 2 ≤ ((w4.setCell ⟨g, j, none⟩ (.int .i64 (y - x))).setCell ⟨w.heap.size + 1, k, none⟩ (.int .i64 (j : Int))).heap.size := by simp; omega
        clear hset hset2 hbx5 hp5 hb5 ho5 hp6 ho6 hbx6 hb6 hz5
        go_region
        go_wp2_with fail
        go_roundw
        case rel => exact ⟨k + 1, j + 1, _, c4, by omega, by omega, by go_num, rfl, HP9.out.drewN 1, HO9.out.drewN 1, HFN, HX9.out, below_drewN' HB9.out 1, hsz9⟩
        case measure => simp [intOf]; omega
      · obtain ⟨g, y, rfl, hg1, hg2, hg3, hy, cy, fy⟩ := ho0.at_ hjm
        have nj : ¬ ((j : Int) < 0) := by omega
        have HLS : Hid ((o.map (fun x => r - x)).set j (y - x) = (Rl.foT r s (Rl.idx s.length) (k + 1)).2.map fun x => r - x) := Lib.hid (by
          rw [HNX.out, HFI.out]
          simp only
          rw [Rl.addAt_map]
          have e : j + 1 - o.length = 0 := by rw [HOL.out]; omega
          rw [e, List.replicate_zero, List.append_nil]
          congr 1
          rw [List.getD_eq_getElem?_getD, hy]
          rfl)
        have hyb : 0 ≤ y ∧ y ≤ r := by
          obtain ⟨u, hu, e⟩ := List.mem_map.1 (List.mem_of_getElem? hy)
          have := HBD.out u hu
          omega
        have ez : IntKind.i64.wrap (y - x) = y - x := IntWalk.i64_in _ (by omega)
        clear hy hfit
        go_wp2_with fail
        have hset := ho0.set_ (k := j) (y - x)
        have hbx5 := hbx0.only hset.2 (.inl (by omega))
        have hp5 := hp0.only hset.2 (.inl (Nat.le_refl _))
        have hb5 := hb0.trans (hset.2.below (by omega) (by omega))
        have ho5 := hset.1
        rw [HLS.out] at ho5
        have hz5 : (V.setCell ⟨g, j, none⟩ (.int .i64 (y - x))).heap.size = V.heap.size := by simp
        obtain ⟨gp, u, hgp, hgp1, hgp2, hgp3, _, cp, fp⟩ := hp5.at_ hlt
        injection hgp with hgp
        injection hgp with hgp _ _
        subst hgp
        have hset2 := hp5.set_ (k := k) (j : Int)
        have hbx6 := hbx5.only hset2.2 (.inl (by omega))
        have ho6 := ho5.only hset2.2 (.inr (Nat.le_refl _))
        have hb6 := hb5.trans (hset2.2.below (by omega) (by omega))
        have hp6 := hset2.1
        have HP6 : Hid ((Rl.foT r s (Rl.idx s.length) (k + 1)).1 = (Rl.foT r s (Rl.idx s.length) k).1.set k (j : Int)) := Lib.hid (by rw [HNX.out, HFI.out])
        rw [← HP6.out] at hp6
        have HP9 := Lib.hid hp6
        have HO9 := Lib.hid (ho6.mono (Nat.le_refl _) (show _ ≤ ((V.setCell ⟨g, j, none⟩ (.int .i64 (y - x))).setCell ⟨w.heap.size + 1, k, none⟩ (.int .i64 (j : Int))).heap.size by simp; try omega))
        have HX9 := Lib.hid hbx6
        have HB9 := Lib.hid hb6
        have hsz9 : w.heap.size + 2 ≤ ((V.setCell ⟨g, j, none⟩ (.int .i64 (y - x))).setCell ⟨w.heap.size + 1, k, none⟩ (.int .i64 (j : Int))).heap.size := by simp; omega
        clear hset hset2 hbx5 hp5 hb5 ho5 hp6 ho6 hbx6 hb6 hz5
        go_region
        go_wp2_with fail
        go_roundw
        case rel => exact ⟨k + 1, m, _, c3, by omega, by omega, by go_num, rfl, HP9.out.drewN 1, HO9.out.drewN 1, HFN, HX9.out, below_drewN' HB9.out 1, hsz9⟩
        case measure => simp [intOf]; omega
    · obtain rfl : k = n := by omega
      have HE : Hid ((Rl.foT r s (Rl.idx s.length) k).1 = Rl.ff r s) := Lib.hid (by
        rw [← Rl.fo_idx]
        unfold Rl.foT Rl.fo
        rw [List.take_of_length_le (by rw [Rl.idx_len, HL.out]; exact Nat.le_refl _)])
      rw [HE.out] at hp
      go_wp2_with fail
      go_ret
      exact ⟨_, _, rfl, hp.mono (by omega) (by omega), hb⟩
set_option maxRecDepth 100000 in
set_option maxHeartbeats 4000000 in
theorem implFf_any1 (r : Int) (A : Option Addr) (n c B : Nat) (s R : List Int) (C : Int) (w : World) (h : Rd I w B A n s) (hB : B ≤ w.heap.size) (hn : n ≤ 1048576) (hc : n ≤ c) (hr : i64b r) (hR : Rl.ffR r s = R) (hC : Rl.ffC r s = C) :
    Calls Try.prog 15 #[.int .i64 r, .slice A n c] w fun e w' => LC w R C e w' := by
  obtain ⟨d, hd⟩ : ∃ d, Rl.okT r s = d := ⟨_, rfl⟩
  have HD := Lib.hid hd
  have HN := Lib.hid (below_newR w (.cells #[.int .i64 r, .slice A n c] 44))
  have hbx : TBx (w.alloc (.cells #[.int .i64 r, .slice A n c] 44)) w.heap.size r A n c := Blk.new _ _ rfl
  have hr0 := h.alloc hB (.cells #[.int .i64 r, .slice A n c] 44)
  have c0 := hbx.cell 0 (v := .int .i64 r) rfl
  have c1 := hbx.cell 1 (v := .slice A n c) rfl
  have hz : (w.alloc (.cells #[.int .i64 r, .slice A n c] 44)).heap.size = w.heap.size + 1 := by simp
  have hvt := implVt_any r A n c B s d _ hr0 (by omega) hn hd
  clear hd hr
  cases d
  · obtain ⟨e1, e2, _⟩ := Rl.ff_no HD.out
    have R0 := Lib.hid (hR.symm.trans e2)
    have C0 := Lib.hid (hC.symm.trans e1)
    clear hR hC e1 e2
    go_enter Try.func15, Try.ntmps15
    go_wp2_with fail
    refine hvt.mono ?_
    rintro e w1 ⟨rfl, hb1⟩
    go_wp2_with fail
    go_ret2
    exact LC.nil_ R0.out C0.out (HN.out.trans (hb1.mono (by omega)))
  · obtain ⟨e1, e2, _⟩ := Rl.ff_yes HD.out
    have R0 := Lib.hid (hR.symm.trans e2)
    have C0 := Lib.hid (hC.symm.trans e1)
    clear hR hC e1 e2
    go_enter Try.func15, Try.ntmps15
    go_wp2_with fail
    refine hvt.mono ?_
    rintro e w1 ⟨rfl, hb1⟩
    have q := hbx.below hb1 hbx.lt
    have hz1 := hb1.size
    replace c0 := q.cell 0 (v := .int .i64 r) rfl
    replace c1 := q.cell 1 (v := .slice A n c) rfl
    have hff := implFfT_any r A n c B s w1 (hr0.below hb1 (by omega)) (by omega) HD.out
    go_wp2_with fail
    refine hff.mono ?_
    rintro e w2 ⟨A3, c3, rfl, ho3, hb3⟩
    have HB3 := Lib.hid ((HN.out.trans (hb1.mono (by omega))).trans (hb3.mono (by omega)))
    have HO3 := Lib.hid (ho3.mono (show w.heap.size ≤ w1.heap.size by omega) (Nat.le_refl _))
    rw [← R0.out] at HO3
    clear ho3 hb3
    go_wp2_with fail
    go_ret2
    exact LC.mk_ rfl C0.out HO3.out (Nat.le_refl _) (Nat.le_refl _) (by omega) HB3.out
end Go.Proofs.Ytbhkpjjedeinpaa
