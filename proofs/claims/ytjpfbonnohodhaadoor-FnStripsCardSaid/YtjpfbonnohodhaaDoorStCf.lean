/- Contracts of CountFaces, the model's and the program's: both answer cfU, cfD and fsC. -/
import Derived.Test.YtjpfbonnohodhaaDoorStFs
namespace Go.Proofs.YtjpfbonnohodhaaDoor
open Go.RowKit Go.Shelf
attribute [local go_sem] Oper.semAt_some

def cntUp (l : List Int) : Nat := (l.filter fun x => decide (0 < x)).length
theorem cntUp_hit (l : List Int) {x : Int} (h : 0 < x) : cntUp (l ++ [x]) = cntUp l + 1 := by simp [cntUp, h]
theorem cntUp_miss (l : List Int) {x : Int} (h : ¬ 0 < x) : cntUp (l ++ [x]) = cntUp l := by simp [cntUp, h]
theorem cntUp_le (l : List Int) : cntUp l ≤ l.length := List.length_filter_le _ _
def cfU (l : List UInt8) : Int := if St.foldsB l = true then (cntUp (St.stack l) : Int) else 0
def cfD (l : List UInt8) : Int := if St.foldsB l = true then ((St.stack l).length : Int) - (cntUp (St.stack l) : Int) else 0

set_option maxRecDepth 100000 in
set_option maxHeartbeats 2000000 in
theorem specCf_any (s : ByteArray) (w : World) (hs : s.size ≤ 1048576) :
    Calls Tryd.prog 21 #[.string s] w fun e w' => e = .returned (.tuple #[.int .i64 (cfU s.data.toList), .int .i64 (cfD s.data.toList), .int .i64 (fsC s.data.toList)]) ∧ Below w.heap.size w w' := by
  by_cases hf : St.foldsB s.data.toList = true
  · have HU : Hid (cfU s.data.toList = (cntUp (St.stack s.data.toList) : Int)) := by unfold cfU; rw [if_pos hf]; exact Lib.hid rfl
    have HD : Hid (cfD s.data.toList = ((St.stack s.data.toList).length : Int) - (cntUp (St.stack s.data.toList) : Int)) := by unfold cfD; rw [if_pos hf]; exact Lib.hid rfl
    have HC : Hid (fsC s.data.toList = 0) := by unfold fsC; rw [if_pos hf]; exact Lib.hid rfl
    rw [HU.out, HD.out, HC.out]
    have HF := Lib.hid hf
    have HS64 : Hid ((St.stack s.data.toList).length ≤ 64) := by
      have h1 := stack_len _ hf
      have h3 := pow_le6 (St.folds_len hf)
      exact Lib.hid (by omega)
    generalize hst : St.stack s.data.toList = st at HS64 ⊢
    have HST := Lib.hid hst
    clear hst
    clear hf
    go_enter Tryd.func21, Tryd.ntmps21
    go_wp2_with fail
    refine (specIsFolds_any s _ hs).mono ?_
    rintro e _ ⟨rfl, rfl⟩
    rw [HF.out]
    go_wp2_with fail
    refine (stack_any s _ HF.out).mono ?_
    rintro e w1 ⟨A, n, c, rfl, ho, hb⟩
    rw [HST.out] at ho
    have HL : Hid (st.length = n) := ho.rd.1
    have hn : n ≤ 64 := by have := HL.out; have := HS64.out; omega
    go_wp2_with fail
    go_loop [6, 7] (fun u i => ∃ k : Nat, k ≤ n ∧ i = .int .i64 (k : Int) ∧ ∃ q : Nat, q ≤ k ∧ u = .int .i64 (q : Int) ∧ Hid (q = cntUp (st.take k))) (fun _ i => n - (intOf i).toNat)
    case atStart => exact ⟨0, Nat.zero_le _, rfl, 0, Nat.le_refl _, rfl, Lib.hid rfl⟩
    case round =>
      obtain ⟨k, hk, rfl, q, hq, rfl, HQ⟩ := hrel
      by_cases hlt : k < n
      · obtain ⟨b, o, x, rfl, hbB, hx, hcx⟩ := ho.rd.at_ hlt
        have HX := Lib.hid (take_next st k x hx)
        clear hx
        by_cases h0 : 0 < x
        · go_wp2_with fail
          go_round
          case rel => exact ⟨k + 1, by omega, by go_num, q + 1, by omega, by go_num, Lib.hid (by rw [HX.out, cntUp_hit _ h0, HQ.out])⟩
          case measure => simp [intOf]; omega
        · go_wp2_with fail
          go_round
          case rel => exact ⟨k + 1, by omega, by go_num, q, by omega, rfl, Lib.hid (by rw [HX.out, cntUp_miss _ h0, HQ.out])⟩
          case measure => simp [intOf]; omega
      · obtain rfl : k = n := by omega
        have HE : Hid (q = cntUp st) := by
          have := HQ.out
          rw [List.take_of_length_le (Nat.le_of_eq HL.out)] at this
          exact Lib.hid this
        have e1 : IntKind.i64.wrap ((k : Int) - (q : Int)) = (k : Int) - (q : Int) := IntWalk.i64_in _ (by omega)
        go_wp2_with fail
        (try simp only [Exit.inBlock, Exit.then]); refine bodyPost_ret (results_tmp3 rfl _ _ _) rfl ?_
        exact ⟨by rw [← HE.out, HL.out]; rfl, hb⟩
  · have HU : Hid (cfU s.data.toList = 0) := by unfold cfU; rw [if_neg hf]; exact Lib.hid rfl
    have HD : Hid (cfD s.data.toList = 0) := by unfold cfD; rw [if_neg hf]; exact Lib.hid rfl
    have HC : Hid (fsC s.data.toList = 1) := by unfold fsC; rw [if_neg hf]; exact Lib.hid rfl
    rw [HU.out, HD.out, HC.out]
    have HF : Hid (St.foldsB s.data.toList = false) := Lib.hid (by simpa using hf)
    clear hf
    go_enter Tryd.func21, Tryd.ntmps21
    go_wp2_with fail
    refine (specIsFolds_any s _ hs).mono ?_
    rintro e _ ⟨rfl, rfl⟩
    rw [HF.out]
    go_wp2_with fail
    (try simp only [Exit.inBlock, Exit.then]); refine bodyPost_ret (results_tmp3 rfl _ _ _) rfl ?_
    exact ⟨rfl, Below.refl _ _⟩

set_option maxRecDepth 100000 in
set_option maxHeartbeats 4000000 in
theorem implCf_any (s : ByteArray) (w : World) (hs : s.size ≤ 1048576) :
    Calls Tryd.prog 20 #[.string s] w fun e w' => e = .returned (.tuple #[.int .i64 (cfU s.data.toList), .int .i64 (cfD s.data.toList), .int .i64 (fsC s.data.toList)]) ∧ Below w.heap.size w w' := by
  by_cases hf : St.foldsB s.data.toList = true
  · have HU : Hid (cfU s.data.toList = (cntUp (St.stack s.data.toList) : Int)) := by unfold cfU; rw [if_pos hf]; exact Lib.hid rfl
    have HD : Hid (cfD s.data.toList = ((St.stack s.data.toList).length : Int) - (cntUp (St.stack s.data.toList) : Int)) := by unfold cfD; rw [if_pos hf]; exact Lib.hid rfl
    have HC : Hid (fsC s.data.toList = 0) := by unfold fsC; rw [if_pos hf]; exact Lib.hid rfl
    have HF := Lib.hid hf
    have h6 : s.size ≤ 6 := St.folds_len hf
    clear hf
    obtain ⟨N, hN⟩ : ∃ N : Nat, N = 2 ^ s.size := ⟨_, rfl⟩
    have h64 : N ≤ 64 := by rw [hN]; exact pow_le6 h6
    have HN := Lib.hid hN
    clear hN
    refine (callsIn_wide (n := 20)).1 ?_
    refine callsIn_of_wp_marks Tryd.func20 rfl trivial ?_ rfl
    simp only [Tryd.ntmps20, List.size_toArray, List.length_cons, List.length_nil, Nat.reduceAdd, Nat.reduceSub, Array.replicate_succ, Array.replicate_zero, List.push_toArray, List.append_toArray, List.nil_append, List.cons_append]
    gi_wp2_with (refine ⟨trivial, ?_⟩; first
        | (gi_at_call 23; refine (callsIn_wide.2 (implIsFolds_any s _ hs)).mono ?_; rintro e w1 ⟨rfl, hb1⟩; rw [HF.out])
        | (gi_at_call 35; refine (callsIn_wide.2 (stackMarks_any s _)).mono ?_; rintro e w3 ⟨rfl, hw3⟩))
    have b0 := Boxed.new w1 2 (.int .i64 0)
    have b1 := Boxed.new (w1.alloc (.cells #[.int .i64 0] 2)) 2 (.int .i64 0)
    have bN := Boxed.new ((w1.alloc (.cells #[.int .i64 0] 2)).alloc (.cells #[.int .i64 0] 2)) 9 (.string s)
    simp only [World.size_alloc] at b1 bN
    have HZ := Lib.hid hb1.size
    have hB0 : Below w.heap.size w (((w1.alloc (.cells #[.int .i64 0] 2)).alloc (.cells #[.int .i64 0] 2)).alloc (.cells #[.string s] 9)) := ((hb1.alloc HZ.out _).alloc (by have := HZ.out; simp; omega) _).alloc (by have := HZ.out; simp; omega) _
    refine wpIn_rangeFunc_ownF rfl (by decide) (gf := 53) (lb := #[.pointer (some ⟨w1.heap.size + 1 + 1, 0, none⟩)]) rfl trivial (enters_of Tryd.func53 (by kernel_rfl) rfl)
      (marks_stops 19 (by decide) (w1.heap.size + 1 + 1) N s h6 HN.out _ (by simp) bN.cell)
      (fun h k => h.trans k) (Iv.put (by simp)) (Below.refl _ _) (fun _ => rfl)
      (fun pre W => Boxed W w1.heap.size 2 (.int .i64 (cntUp (pre.map (mkB s.data.toList)) : Int)) ∧ (Boxed W (w1.heap.size + 1) 2 (.int .i64 ((pre.length : Int) - (cntUp (pre.map (mkB s.data.toList)) : Int))) ∧ (Boxed W (w1.heap.size + 1 + 1) 9 (.string s) ∧ Below w.heap.size w W)))
      (fun _ _ _ => False)
      (OwnFrom.and (Go.Own.from (boxed_own w1.heap.size 2 (fun pre : List Nat => .int .i64 (cntUp (pre.map (mkB s.data.toList)) : Int))) _) (OwnFrom.and (Go.Own.from (boxed_own (w1.heap.size + 1) 2 (fun pre : List Nat => .int .i64 ((pre.length : Int) - (cntUp (pre.map (mkB s.data.toList)) : Int)))) _) (OwnFrom.and (Go.Own.from (boxed_own (w1.heap.size + 1 + 1) 9 (fun _ => .string s)) _) (ownFrom_below (Nat.le_refl _) (by have := HZ.out; simp; omega)))))
      (fun _ _ _ _ _ hs _ _ => hs)
      ⟨(b0.alloc _).alloc _, b1.alloc _, bN, hB0⟩
      (fun x => { tmps := #[.string s, undef, .int .i64 0, .int .i64 0, .int .i64 0, .pointer (some ⟨w1.heap.size, 0, none⟩), .pointer (some ⟨w1.heap.size + 1, 0, none⟩), undef, .int .i64 (mkB s.data.toList x), .string s, .bool true, .bool false, .string s, .func (.func 53) #[] #[.pointer (some ⟨w1.heap.size + 1 + 1, 0, none⟩)], .int .i64 (x : Int), .int .i64 (mkB s.data.toList x), undef, undef, undef, undef, undef, undef, undef, undef], defers := [] }) ?assign ?body ?done ?stop
    case assign =>
      intro l x W K hK
      gi_wp2
      exact hK
    case body =>
      rintro l pre x W ⟨hu, hd, hbs, hB⟩ hlen
      have hle := cntUp_le (pre.map (mkB s.data.toList))
      rw [List.length_map] at hle
      have HCAT : Hid ((pre ++ [x]).map (mkB s.data.toList) = pre.map (mkB s.data.toList) ++ [mkB s.data.toList x]) := Lib.hid (by simp)
      have HLEN : Hid (((pre ++ [x]).length : Int) = (pre.length : Int) + 1) := Lib.hid (by simp)
      refine wpIn_mono (Q := fun e _ W' => e = .normal ∧ KeepsOthers W W' ∧ Iv (w1.heap.size + 1 + 1) (w1.heap.size + 1 + 1 + 1) W W' ∧ Boxed W' w1.heap.size 2 (.int .i64 (cntUp (pre.map (mkB s.data.toList) ++ [mkB s.data.toList x]) : Int)) ∧ Boxed W' (w1.heap.size + 1) 2 (.int .i64 ((pre.length : Int) + 1 - (cntUp (pre.map (mkB s.data.toList) ++ [mkB s.data.toList x]) : Int))) ∧ Boxed W' (w1.heap.size + 1 + 1) 9 (.string s) ∧ Below w.heap.size w W') ?_ ?_
      rotate_left
      · rintro e a W' ⟨rfl, h1, h2, h3, h4, h5, h6⟩
        exact ⟨h1, h2, by show Boxed _ _ _ (.int .i64 (cntUp ((pre ++ [x]).map (mkB s.data.toList)) : Int)); rw [HCAT.out]; exact h3, by show Boxed _ _ _ (.int .i64 (((pre ++ [x]).length : Int) - (cntUp ((pre ++ [x]).map (mkB s.data.toList)) : Int))); rw [HCAT.out, HLEN.out]; exact h4, h5, h6⟩
      generalize hq : cntUp (pre.map (mkB s.data.toList)) = q at hle hu hd
      have HQ := Lib.hid hq
      clear hq
      have hc0 := hu.cell
      have hc1 := hd.cell
      have hf0 := hu.frozen
      have hf1 := hd.frozen
      have hz : w.heap.size ≤ w1.heap.size := HZ.out
      have e1 : IntKind.i64.wrap ((q : Int) + 1) = (q : Int) + 1 := IntWalk.i64_in _ (by omega)
      have e2 : IntKind.i64.wrap ((pre.length : Int) - (q : Int) + 1) = (pre.length : Int) - (q : Int) + 1 := IntWalk.i64_in _ (by omega)
      by_cases hx : 0 < mkB s.data.toList x
      · have HP : Hid (cntUp (pre.map (mkB s.data.toList) ++ [mkB s.data.toList x]) = q + 1) := Lib.hid (by rw [cntUp_hit _ hx, HQ.out])
        rw [HP.out]
        gi_wp2
        refine ⟨KeepsOthers.setCell _ _ _, iv_box hbs (hbs.other (by omega) _), ?_, ?_, hbs.other (by omega) _, hB.setCell (by dsimp only; omega) _⟩
        · exact hu.set _
        · have := hd.other (show w1.heap.size + 1 ≠ w1.heap.size by omega) (.int .i64 ((q : Int) + 1))
          rw [show (pre.length : Int) + 1 - ((q : Int) + 1) = (pre.length : Int) - (q : Int) by omega]
          exact this
      · have HP : Hid (cntUp (pre.map (mkB s.data.toList) ++ [mkB s.data.toList x]) = q) := Lib.hid (by rw [cntUp_miss _ hx, HQ.out])
        rw [HP.out]
        gi_wp2
        refine ⟨KeepsOthers.setCell _ _ _, iv_box hbs (hbs.other (by omega) _), ?_, ?_, hbs.other (by omega) _, hB.setCell (by dsimp only; omega) _⟩
        · exact hu.other (by omega) _
        · have := hd.set (.int .i64 ((pre.length : Int) - (q : Int) + 1))
          rw [show (pre.length : Int) + 1 - (q : Int) = (pre.length : Int) - (q : Int) + 1 by omega]
          exact this
    case done =>
      rintro D ys W hD rfl ⟨hu, hd, hbs, hB⟩ hK
      have hmm : (List.range N).map (mkB s.data.toList) = St.stack s.data.toList := by
        rw [← marks_map _ HF.out, toList_len, ← HN.out]
      rw [hmm] at hu hd
      rw [List.length_range] at hd
      have HD' : Hid (cfD s.data.toList = (N : Int) - (cntUp (St.stack s.data.toList) : Int)) := by
        rw [HD.out, stack_len _ HF.out, toList_len, ← HN.out]
        exact Lib.hid rfl
      have hc0 := hu.cell
      have hc1 := hd.cell
      have hbel := Lib.hid (hB.drew.trans (belowK_b (w := w) (Nat.le_refl _) W.drew D _ (.deferred none) (by have := HZ.out; simp at hD; omega) hK rfl rfl))
      clear hmm
      gi_wp2
      gi_region
      all_goals gi_wp2
      all_goals
        refine ⟨by simp, .inl ⟨_, _, rfl, run_takeDeferred hK, ?_⟩⟩
        exact ⟨_, results_tmp3 rfl _ _ _, by rw [HU.out, HD'.out, HC.out]; rfl, hbel.out⟩
    case stop =>
      rintro D c pre W _ _ h _
      exact h.elim
  · have HU : Hid (cfU s.data.toList = 0) := by unfold cfU; rw [if_neg hf]; exact Lib.hid rfl
    have HD : Hid (cfD s.data.toList = 0) := by unfold cfD; rw [if_neg hf]; exact Lib.hid rfl
    have HC : Hid (fsC s.data.toList = 1) := by unfold fsC; rw [if_neg hf]; exact Lib.hid rfl
    rw [HU.out, HD.out, HC.out]
    have HF : Hid (St.foldsB s.data.toList = false) := Lib.hid (by simpa using hf)
    clear hf
    go_enter Tryd.func20, Tryd.ntmps20
    go_wp2_with fail
    refine (implIsFolds_any s _ hs).mono ?_
    rintro e w1 ⟨rfl, hb1⟩
    rw [HF.out]
    go_wp2_with fail
    (try simp only [Exit.inBlock, Exit.then]); refine bodyPost_ret (results_tmp3 rfl _ _ _) rfl ?_
    exact ⟨rfl, hb1⟩
end Go.Proofs.YtjpfbonnohodhaaDoor
