/- The contract of the program's PlaceOf. -/
import Derived.Test.YtjpfbonnohodhaaDoorStPl
namespace Go.Proofs.YtjpfbonnohodhaaDoor
open Go.RowKit Go.Shelf
attribute [local go_sem] Oper.semAt_some
theorem Boxed.below {W W' : World} {B B' : Nat} {t : TypeId} {v : Value} (h : Boxed W B t v) (hb : Below B' W W') (hB : B < B') : Boxed W' B t v := (hb.block B hB).trans h

def lastOf (pre : List Nat) : Nat := pre.getLast?.getD 0
theorem lastOf_snoc (pre : List Nat) (x : Nat) : lastOf (pre ++ [x]) = x := by simp [lastOf]
theorem getD_range {l : List UInt8} {N k : Nat} (hf : St.foldsB l = true) (hN : N = 2 ^ l.length) (hk : k < N) : (St.stack l)[k]? = some (mkB l k) := by
  rw [← marks_map l hf, List.getElem?_map, ← hN, List.getElem?_range hk]
  rfl
theorem pl_hit {l : List UInt8} {cell : Int} {N k : Nat} (hf : St.foldsB l = true) (hN : N = 2 ^ l.length) (hk : k < N) (hc : St.cellOf (mkB l k) = cell) (hno : ∀ y ∈ List.range k, St.cellOf (mkB l y) ≠ cell) : plR l cell = (k : Int) ∧ plC l cell = 0 := by
  have h := plI_some (getD_range hf hN hk) hc (fun y hy => by
    have : (St.stack l).take k = (List.range k).map (mkB l) := by
      rw [← marks_map l hf, ← hN, ← List.map_take, List.take_range, Nat.min_eq_left (by omega)]
    rw [this, List.mem_map] at hy
    obtain ⟨j, hj, rfl⟩ := hy
    exact hno j hj)
  unfold plR plC
  rw [if_pos hf, if_pos hf, h]
  exact ⟨rfl, rfl⟩
theorem pl_miss {l : List UInt8} {cell : Int} {N : Nat} (hf : St.foldsB l = true) (hN : N = 2 ^ l.length) (hno : ∀ y ∈ List.range N, St.cellOf (mkB l y) ≠ cell) : plR l cell = 0 ∧ plC l cell = 2 := by
  have h := plI_none (l := l) (cell := cell) (fun y hy => by
    rw [← marks_map l hf, ← hN, List.mem_map] at hy
    obtain ⟨j, hj, rfl⟩ := hy
    exact hno j hj)
  unfold plR plC
  rw [if_pos hf, if_pos hf, h]
  exact ⟨rfl, rfl⟩
/-- The three variables, laid. -/
def threeW (w : World) (cell : Int) : World := ((w.alloc (.cells #[.int .i64 cell] 2)).alloc (.cells #[.int .i64 0] 2)).alloc (.cells #[.int .i64 0] 2)
theorem threeW_size (w : World) (cell : Int) : (threeW w cell).heap.size = w.heap.size + 3 := by simp [threeW]
theorem threeW_below (w : World) (cell : Int) : Below w.heap.size w (threeW w cell) := (((Below.refl _ w).alloc (Nat.le_refl _) _).alloc (by simp) _).alloc (by simp; omega) _
theorem threeW_box (w : World) (cell : Int) : Boxed (threeW w cell) w.heap.size 2 (.int .i64 cell) ∧ Boxed (threeW w cell) (w.heap.size + 1) 2 (.int .i64 0) ∧ Boxed (threeW w cell) (w.heap.size + 2) 2 (.int .i64 0) := by
  have b0 := Boxed.new w 2 (.int .i64 cell)
  have b1 := Boxed.new (w.alloc (.cells #[.int .i64 cell] 2)) 2 (.int .i64 0)
  have b2 := Boxed.new ((w.alloc (.cells #[.int .i64 cell] 2)).alloc (.cells #[.int .i64 0] 2)) 2 (.int .i64 0)
  simp only [World.size_alloc] at b1 b2
  exact ⟨(b0.alloc _).alloc _, b1.alloc _, b2⟩

set_option maxRecDepth 100000 in
set_option maxHeartbeats 4000000 in
theorem implPl_any (s : ByteArray) (cell : Int) (w : World) (hs : s.size ≤ 1048576) :
    Calls Tryd.prog 18 #[.string s, .int .i64 cell] w fun e w' => e = .returned (.tuple #[.int .i64 (plR s.data.toList cell), .int .i64 (plC s.data.toList cell)]) ∧ Below w.heap.size w w' := by
  by_cases hf : St.foldsB s.data.toList = true
  · have HF := Lib.hid hf
    have h6 : s.size ≤ 6 := St.folds_len hf
    clear hf
    obtain ⟨N, hN⟩ : ∃ N : Nat, N = 2 ^ s.size := ⟨_, rfl⟩
    have HN := Lib.hid hN
    clear hN
    refine (callsIn_wide (n := 20)).1 ?_
    refine callsIn_of_wp_marks Tryd.func18 rfl trivial ?_ rfl
    simp only [Tryd.ntmps18, List.size_toArray, List.length_cons, List.length_nil, Nat.reduceAdd, Nat.reduceSub, Array.replicate_succ, Array.replicate_zero, List.push_toArray, List.append_toArray, List.nil_append, List.cons_append]
    gi_wp2_with (refine ⟨trivial, ?_⟩; first
        | (gi_at_call 23; refine (callsIn_wide.2 (implIsFolds_any s (threeW w cell) hs)).mono ?_; rintro e w1 ⟨rfl, hb1⟩; rw [HF.out])
        | (gi_at_call 35; refine (callsIn_wide.2 (stackMarks_any s _)).mono ?_; rintro e w3 ⟨rfl, hw3⟩))
    have hz3 := threeW_size w cell
    rw [hz3] at hb1
    have hz1 := hb1.size
    rw [hz3] at hz1
    have HZ1 := Lib.hid hz1
    obtain ⟨b0, b1, b2⟩ := threeW_box w cell
    have d0 := Boxed.below b0 hb1 (by omega)
    have d1 := Boxed.below b1 hb1 (by omega)
    have d2 := Boxed.below b2 hb1 (by omega)
    have hbw : Below w.heap.size w w1 := (threeW_below w cell).trans (hb1.mono (by omega))
    have bN := Boxed.new w1 9 (.string s)
    have hB0 : Below w.heap.size w (w1.alloc (.cells #[.string s] 9)) := hbw.alloc (by have := HZ1.out; omega) _
    clear b0 b1 b2 hz1 hz3
    refine wpIn_rangeFunc_ownF rfl (by decide) (gf := 53) (lb := #[.pointer (some ⟨w1.heap.size, 0, none⟩)]) rfl trivial (enters_of Tryd.func53 (by kernel_rfl) rfl)
      (marks_stops 19 (by decide) w1.heap.size N s h6 HN.out _ (by simp) bN.cell)
      (fun h k => h.trans k) (Iv.put (by simp)) (Below.refl _ _) (fun _ => rfl)
      (fun pre W => (∀ y ∈ pre, St.cellOf (mkB s.data.toList y) ≠ cell) ∧ (Boxed W w.heap.size 2 (.int .i64 cell) ∧ (Boxed W (w.heap.size + 1) 2 (.int .i64 0) ∧ (Boxed W (w.heap.size + 2) 2 (.int .i64 0) ∧ (Boxed W w1.heap.size 9 (.string s) ∧ Below w.heap.size w W)))))
      (fun c pre W => (c = .ret ∧ pre ≠ [] ∧ (∀ y ∈ pre.dropLast, St.cellOf (mkB s.data.toList y) ≠ cell) ∧ St.cellOf (mkB s.data.toList (lastOf pre)) = cell) ∧ (Boxed W (w.heap.size + 1) 2 (.int .i64 (lastOf pre : Int)) ∧ (Boxed W (w.heap.size + 2) 2 (.int .i64 0) ∧ Below w.heap.size w W)))
      (OwnFrom.and (ownFrom_pure _ _) (OwnFrom.and (Go.Own.from (boxed_own w.heap.size 2 (fun _ => .int .i64 cell)) _) (OwnFrom.and (Go.Own.from (boxed_own (w.heap.size + 1) 2 (fun _ => .int .i64 0)) _) (OwnFrom.and (Go.Own.from (boxed_own (w.heap.size + 2) 2 (fun _ => .int .i64 0)) _) (OwnFrom.and (Go.Own.from (boxed_own w1.heap.size 9 (fun _ => .string s)) _) (ownFrom_below (Nat.le_refl _) (by have := HZ1.out; simp; omega)))))))
      (fun c => OwnFrom.and (ownFrom_pure _ (fun pre : List Nat => c = .ret ∧ pre ≠ [] ∧ (∀ y ∈ pre.dropLast, St.cellOf (mkB s.data.toList y) ≠ cell) ∧ St.cellOf (mkB s.data.toList (lastOf pre)) = cell)) (OwnFrom.and (Go.Own.from (boxed_own (w.heap.size + 1) 2 (fun pre : List Nat => .int .i64 (lastOf pre : Int))) _) (OwnFrom.and (Go.Own.from (boxed_own (w.heap.size + 2) 2 (fun _ => .int .i64 0)) _) (ownFrom_below (Nat.le_refl _) (by have := HZ1.out; simp; omega)))))
      ⟨by simp, d0.alloc _, d1.alloc _, d2.alloc _, bN, hB0⟩
      (fun x => { tmps := #[.string s, .int .i64 cell, undef, .pointer (some ⟨w.heap.size, 0, none⟩), .pointer (some ⟨w.heap.size + 1, 0, none⟩), .pointer (some ⟨w.heap.size + 2, 0, none⟩), .int .i64 (x : Int), .int .i64 (mkB s.data.toList x), .string s, .bool true, .bool false, .string s, .func (.func 53) #[] #[.pointer (some ⟨w1.heap.size, 0, none⟩)], .int .i64 (x : Int), .int .i64 (mkB s.data.toList x), undef, undef, undef, undef, undef], defers := [] }) ?assign ?body ?done ?stop
    case assign =>
      intro l x W K hK
      gi_wp2
      exact hK
    case body =>
      rintro l pre x W ⟨hno, hc, h0, h1, hbs, hB⟩ hlen
      have hmx : Tryd.prog.follows .mixedOrders = true := by kernel_rfl
      have hsm := mkB_small s.data.toList x h6
      have HNO := Lib.hid hno
      have HZW : Hid (w.heap.size + 3 ≤ w1.heap.size) := HZ1
      have hcc := hc.cell
      have hc0 := h0.cell
      have hc1 := h1.cell
      have hf0 := h0.frozen
      have hf1 := h1.frozen
      clear hno
      by_cases heq : St.cellOf (mkB s.data.toList x) = cell
      · refine wpIn_mono (Q := fun e _ W' => e = .ret ∧ KeepsOthers W W' ∧ Boxed W' (w.heap.size + 1) 2 (.int .i64 (x : Int)) ∧ Boxed W' (w.heap.size + 2) 2 (.int .i64 0) ∧ Below w.heap.size w W') ?_ ?_
        rotate_left
        · rintro e a W' ⟨rfl, g1, g2, g3, g4⟩
          refine ⟨g1, ⟨rfl, by simp, ?_, ?_⟩, ?_, g3, g4⟩
          · intro y hy
            exact HNO.out y (by simpa using hy)
          · show St.cellOf (mkB s.data.toList (lastOf (pre ++ [x]))) = cell
            rw [lastOf_snoc]
            exact heq
          · show Boxed W' _ _ (.int .i64 (lastOf (pre ++ [x]) : Int))
            rw [lastOf_snoc]
            exact g2
        have HEQ := Lib.hid heq
        clear heq
        gi_wp2
        gi_region_with_o (refine ⟨trivial, ?_⟩; gi_at_call 40; refine (CallsIn.inRound l (callsIn_wide.2 (markedCell_any _ _ (by omega)))).mono ?_; rintro e w' ⟨rfl, rfl⟩; rw [HEQ.out])
        all_goals gi_wp2
        all_goals
          have g0 := (Boxed.set (.int .i64 (x : Int)) h0).other (show w.heap.size + 1 ≠ w.heap.size + 2 by omega) (.int .i64 0)
          have g1 := Boxed.set (.int .i64 0) (h1.other (show w.heap.size + 2 ≠ w.heap.size + 1 by omega) (.int .i64 (x : Int)))
          exact ⟨((KeepsOthers.setCell _ _ _).trans (KeepsOthers.setCell _ _ _)).trans (KeepsOthers.drew _), g0, g1, ((hB.setCell (by dsimp only; omega) _).setCell (by dsimp only; omega) _).drew⟩
      · refine wpIn_mono (Q := fun e _ W' => e = .normal ∧ W' = W.drew) ?_ ?_
        rotate_left
        · rintro e a W' ⟨rfl, rfl⟩
          refine ⟨KeepsOthers.drew _, fun _ _ _ => rfl, ?_, hc, h0, h1, hbs, hB.drew⟩
          intro y hy
          rcases List.mem_append.1 hy with hy | hy
          · exact HNO.out y hy
          · rw [List.mem_singleton.1 hy]
            exact heq
        obtain ⟨z, hz⟩ : ∃ z, St.cellOf (mkB s.data.toList x) = z := ⟨_, rfl⟩
        rw [hz] at heq
        have HEQ := Lib.hid hz
        have n1 : (z == cell) = false := by simpa using heq
        clear hz
        gi_wp2
        gi_region_with_o (refine ⟨trivial, ?_⟩; gi_at_call 40; refine (CallsIn.inRound l (callsIn_wide.2 (markedCell_any _ _ (by omega)))).mono ?_; rintro e w' ⟨rfl, rfl⟩; rw [HEQ.out])
        all_goals gi_wp2
        all_goals (try trace_state; sorry)
    case done =>
      rintro D ys W hD rfl ⟨hno, hc, h0, h1, hbs, hB⟩ hK
      have hpl := Lib.hid (pl_miss HF.out (by rw [toList_len]; exact HN.out) hno)
      have hc0 := h0.cell
      have hc1 := h1.cell
      have hf0 := h0.frozen
      have hf1 := h1.frozen
      clear hno
      gi_wp2
      have hK' := ((KeepsOthers.setCell W ⟨w.heap.size + 1, 0, none⟩ (.int .i64 0)).trans (KeepsOthers.setCell _ ⟨w.heap.size + 2, 0, none⟩ (.int .i64 2))).same D _ hK rfl
      refine ⟨by simp, .inl ⟨_, _, rfl, run_takeDeferred hK', ?_⟩⟩
      have g0 := (Boxed.set (.int .i64 0) h0).other (show w.heap.size + 1 ≠ w.heap.size + 2 by omega) (.int .i64 2)
      have g1 := Boxed.set (.int .i64 2) (h1.other (show w.heap.size + 2 ≠ w.heap.size + 1 by omega) (.int .i64 0))
      have k0 := cell_kept g0.cell (grownBy_putObj' _ D (.deferred none)) (fun r e => by cases e; exact ⟨_, hK', rfl⟩)
      have k1 := cell_kept g1.cell (grownBy_putObj' _ D (.deferred none)) (fun r e => by cases e; exact ⟨_, hK', rfl⟩)
      have hbel := ((hB.setCell (p := ⟨w.heap.size + 1, 0, none⟩) (by dsimp only; omega) (.int .i64 0)).setCell (p := ⟨w.heap.size + 2, 0, none⟩) (by dsimp only; omega) (.int .i64 2)).trans (belowK_b (w := w) (Nat.le_refl _) _ D _ (.deferred none) (by have := HZ1.out; simp at hD; omega) hK' rfl rfl)
      refine ⟨.tuple #[.int .i64 0, .int .i64 2], ?_, ?_⟩
      · simp [results, Tryd.f18, go_sem, k0, k1]
      · exact ⟨by rw [hpl.out.1, hpl.out.2], hbel⟩
    case stop =>
      rintro D c pre W hD ⟨k, hk, rfl⟩ ⟨⟨rfl, hne, hno, hcell⟩, h0, h1, hB⟩ hK
      obtain ⟨j, rfl⟩ : ∃ j, k = j + 1 := ⟨k - 1, by
        rcases k with _ | k
        · exact absurd rfl hne
        · rfl⟩
      rw [List.range_succ] at hno hcell h0
      rw [lastOf_snoc] at hcell h0
      rw [List.dropLast_concat] at hno
      have hpl := Lib.hid (pl_hit (N := N) HF.out (by rw [toList_len]; exact HN.out) (by omega) hcell hno)
      clear hno hcell hne
      gi_wp2
      refine ⟨by simp, .inl ⟨_, _, rfl, run_takeDeferred hK, ?_⟩⟩
      have k0 := cell_kept h0.cell (grownBy_putObj' _ D (.deferred none)) (fun r e => by cases e; exact ⟨_, hK, rfl⟩)
      have k1 := cell_kept h1.cell (grownBy_putObj' _ D (.deferred none)) (fun r e => by cases e; exact ⟨_, hK, rfl⟩)
      have hbel := hB.trans (belowK_b (w := w) (Nat.le_refl _) W D _ (.deferred none) (by have := HZ1.out; simp at hD; omega) hK rfl rfl)
      refine ⟨.tuple #[.int .i64 (j : Int), .int .i64 0], ?_, ?_⟩
      · simp [results, Tryd.f18, go_sem, k0, k1]
      · exact ⟨by rw [hpl.out.1, hpl.out.2], hbel⟩
  · have HR : Hid (plR s.data.toList cell = 0) := by unfold plR; rw [if_neg hf]; exact Lib.hid rfl
    have HC : Hid (plC s.data.toList cell = 1) := by unfold plC; rw [if_neg hf]; exact Lib.hid rfl
    rw [HR.out, HC.out]
    have HF : Hid (St.foldsB s.data.toList = false) := Lib.hid (by simpa using hf)
    clear hf
    have hz3 := threeW_size w cell
    obtain ⟨b0, b1, b2⟩ := threeW_box w cell
    go_enter Tryd.func18, Tryd.ntmps18
    go_wp2_with fail
    refine (implIsFolds_any s (threeW w cell) hs).mono ?_
    rintro e w1 ⟨rfl, hb1⟩
    rw [HF.out]
    rw [hz3] at hb1
    have d1 := Boxed.below b1 hb1 (by omega)
    have d2 := Boxed.below b2 hb1 (by omega)
    have hc0 := d1.cell
    have hc1 := d2.cell
    have hf0 := d1.frozen
    have hf1 := d2.frozen
    have hbw : Below w.heap.size w w1 := (threeW_below w cell).trans (hb1.mono (by omega))
    go_wp2_with fail
    have g0 := ((Boxed.set (.int .i64 0) d1).other (show w.heap.size + 1 ≠ w.heap.size + 2 by omega) (.int .i64 1)).cell
    have g1 := (Boxed.set (.int .i64 1) (d2.other (show w.heap.size + 2 ≠ w.heap.size + 1 by omega) (.int .i64 0))).cell
    refine bodyPost_ret (v := .tuple #[.int .i64 0, .int .i64 1]) (by simp [results, Tryd.f18, go_sem, g0, g1]) rfl ?_
    exact ⟨rfl, (hbw.setCell (by dsimp only; omega) _).setCell (by dsimp only; omega) _⟩
end Go.Proofs.YtjpfbonnohodhaaDoor
