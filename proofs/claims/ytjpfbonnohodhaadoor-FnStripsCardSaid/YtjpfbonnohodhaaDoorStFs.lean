/- Contracts of FoldStrip, the program's and the model's: both answer fsR and fsC. -/
import Derived.Test.YtjpfbonnohodhaaDoorStMarks
import Derived.Test.YtjpfbonnohodhaaDoorStFold
import Derived.Test.YtjpfbonnohodhaaDoorStIs
import Derived.Maps.AppendAt
namespace Go.Proofs.YtjpfbonnohodhaaDoor
open Go.RowKit Go.Shelf
attribute [local go_sem] Oper.semAt_some

def fsR (l : List UInt8) : List Int := if St.foldsB l = true then St.stack l else []
def fsC (l : List UInt8) : Int := if St.foldsB l = true then 0 else 1

theorem marks_map (l : List UInt8) (hf : St.foldsB l = true) : (List.range (2 ^ l.length)).map (mkB l) = St.stack l := by
  rw [← St.marks_stack_all l (St.folds_mem hf)]
  unfold St.marksOf
  apply List.map_congr_left
  intro p hp
  unfold mkB
  rw [if_pos (List.mem_range.1 hp)]
theorem stack_len (l : List UInt8) (hf : St.foldsB l = true) : (St.stack l).length = 2 ^ l.length := by
  rw [← marks_map l hf]
  simp
theorem iv_box {W W' : World} {B : Nat} {t : TypeId} {v : Value} (h : Boxed W B t v) (h' : Boxed W' B t v) : Iv B (B + 1) W W' := fun k h1 h2 => by
  obtain rfl : k = B := by omega
  exact h'.trans h.symm

set_option maxRecDepth 100000 in
set_option maxHeartbeats 2000000 in
theorem specFs_any (s : ByteArray) (w : World) (hs : s.size ≤ 1048576) :
    Calls Tryd.prog 13 #[.string s] w fun e w' => LC w (fsR s.data.toList) (fsC s.data.toList) e w' := by
  by_cases hf : St.foldsB s.data.toList = true
  · have HR : Hid (fsR s.data.toList = St.stack s.data.toList) := by unfold fsR; rw [if_pos hf]; exact Lib.hid rfl
    have HC : Hid (fsC s.data.toList = 0) := by unfold fsC; rw [if_pos hf]; exact Lib.hid rfl
    have HF := Lib.hid hf
    clear hf
    go_enter Tryd.func13, Tryd.ntmps13
    go_wp2_with fail
    refine (specIsFolds_any s _ hs).mono ?_
    rintro e _ ⟨rfl, rfl⟩
    rw [HF.out]
    go_wp2_with fail
    refine (stack_any s _ HF.out).mono ?_
    rintro e w1 ⟨A, n, c, rfl, ho, hb⟩
    have hn : n ≤ 1048576 := by
      have h1 := stack_len _ HF.out
      have h2 := ho.rd.1
      have h3 := pow_le6 (St.folds_len HF.out)
      omega
    go_wp2_with fail
    go_ret2
    exact LC.mk_ HR.out HC.out ho (Nat.le_refl _) (Nat.le_refl _) hn hb
  · have HR : Hid (fsR s.data.toList = []) := by unfold fsR; rw [if_neg hf]; exact Lib.hid rfl
    have HC : Hid (fsC s.data.toList = 1) := by unfold fsC; rw [if_neg hf]; exact Lib.hid rfl
    have HF : Hid (St.foldsB s.data.toList = false) := Lib.hid (by simpa using hf)
    clear hf
    go_enter Tryd.func13, Tryd.ntmps13
    go_wp2_with fail
    refine (specIsFolds_any s _ hs).mono ?_
    rintro e _ ⟨rfl, rfl⟩
    rw [HF.out]
    go_wp2_with fail
    go_ret2
    exact LC.nil_ HR.out HC.out (Below.refl _ _)

set_option maxRecDepth 100000 in
set_option maxHeartbeats 4000000 in
theorem implFs_any (s : ByteArray) (w : World) (hs : s.size ≤ 1048576) :
    Calls Tryd.prog 12 #[.string s] w fun e w' => LC w (fsR s.data.toList) (fsC s.data.toList) e w' := by
  by_cases hf : St.foldsB s.data.toList = true
  · have HR : Hid (fsR s.data.toList = St.stack s.data.toList) := by unfold fsR; rw [if_pos hf]; exact Lib.hid rfl
    have HC : Hid (fsC s.data.toList = 0) := by unfold fsC; rw [if_pos hf]; exact Lib.hid rfl
    have HF := Lib.hid hf
    have h6 : s.size ≤ 6 := St.folds_len hf
    clear hf
    obtain ⟨N, hN⟩ : ∃ N : Nat, N = 2 ^ s.size := ⟨_, rfl⟩
    have h64 : N ≤ 64 := by rw [hN]; exact pow_le6 h6
    have HN := Lib.hid hN
    clear hN
    obtain ⟨i0, hi, hz0, hz1, hz2⟩ := info_parts infoI
    refine (callsIn_wide (n := 20)).1 ?_
    refine callsIn_of_wp_marks Tryd.func12 rfl trivial ?_ rfl
    simp only [Tryd.ntmps12, List.size_toArray, List.length_cons, List.length_nil, Nat.reduceAdd, Nat.reduceSub, Array.replicate_succ, Array.replicate_zero, List.push_toArray, List.append_toArray, List.nil_append, List.cons_append]
    gi_wp2_with (first
      | (refine ⟨trivial, ?_⟩; first
        | (gi_at_call 23; refine (callsIn_wide.2 (implIsFolds_any s _ hs)).mono ?_; rintro e w1 ⟨rfl, hb1⟩; rw [HF.out])
        | (gi_at_call 34; refine (callsIn_wide.2 (cellCount_any s N _ h6 HN.out)).mono ?_; rintro e _ ⟨rfl, rfl⟩)
        | (gi_at_call 35; refine (callsIn_wide.2 (stackMarks_any s _)).mono ?_; rintro e w3 ⟨rfl, hw3⟩))
      | (gi_at_make; refine wpListIn_make_own w1 rfl _ _ 25 rfl w.heap.size 2 i0 (.int .i64 0) 1 Tryd.underlying25 hi hz0 hz1 .i64 .i64 _ N rfl rfl rfl (by rw [hz2]; omega) (by unfold maxLen; omega) hb1.size ?_; intro w2 hown2 hg2))
    have hb2 : Below w.heap.size w w2 := hb1.trans ((Below.refl w.heap.size w1).grown hg2 hb1.size (by simp))
    have HZ2 := Lib.hid hb2.size
    have bO := Boxed.new w2 25 (.slice (some ⟨w1.heap.size, 0, none⟩) 0 N)
    have bN := Boxed.new (w2.alloc (.cells #[.slice (some ⟨w1.heap.size, 0, none⟩) 0 N] 25)) 9 (.string s)
    rw [World.size_alloc] at bN
    have hB0 : Below w.heap.size w ((w2.alloc (.cells #[.slice (some ⟨w1.heap.size, 0, none⟩) 0 N] 25)).alloc (.cells #[.string s] 9)) := (hb2.alloc HZ2.out _).alloc (by have := HZ2.out; simp; omega) _
    have hown3 := (hown2.alloc (.cells #[.slice (some ⟨w1.heap.size, 0, none⟩) 0 N] 25)).alloc (.cells #[.string s] 9)
    clear hown2 hg2
    refine wpIn_rangeFunc_ownF rfl (by decide) (gf := 53) (lb := #[.pointer (some ⟨w2.heap.size + 1, 0, none⟩)]) rfl trivial (enters_of Tryd.func53 (by kernel_rfl) rfl)
      (marks_stops 19 (by decide) (w2.heap.size + 1) N s h6 HN.out _ (by simp) bN.cell)
      (fun h k => h.trans k) (Iv.put (by simp)) (Below.refl _ _) (fun _ => rfl)
      (fun pre W => (∃ v, Boxed W w2.heap.size 25 v ∧ W.ownsRow w.heap.size 2 1 v pre.length (pre.map fun p => Value.int .i64 (mkB s.data.toList p)) ∧ True) ∧ (Boxed W (w2.heap.size + 1) 9 (.string s) ∧ Below w.heap.size w W))
      (fun _ _ _ => False)
      (OwnFrom.and (Go.Own.from (holdsRow_own w.heap.size w2.heap.size 25 2 1 (fun pre : List Nat => pre.length) (fun pre => pre.map fun p => Value.int .i64 (mkB s.data.toList p)) (fun _ _ => True)) _) (OwnFrom.and (Go.Own.from (boxed_own (w2.heap.size + 1) 9 (fun _ => .string s)) _) (ownFrom_below (Nat.le_refl _) (by have := HZ2.out; simp; omega))))
      (fun _ _ _ _ _ hs _ _ => hs)
      ⟨⟨_, bO.alloc _, hown3, trivial⟩, bN, hB0⟩
      (fun x => { tmps := #[.string s, undef, .slice none 0 0, .int .i64 0, .pointer (some ⟨w2.heap.size, 0, none⟩), undef, .int .i64 (mkB s.data.toList x), .string s, .bool true, .bool false, .string s, .int .i64 N, .slice (some ⟨w1.heap.size, 0, none⟩) 0 N, .string s, .func (.func 53) #[] #[.pointer (some ⟨w2.heap.size + 1, 0, none⟩)], .int .i64 (x : Int), .int .i64 (mkB s.data.toList x), undef, undef, undef, undef, undef], defers := [] }) ?assign ?body ?done ?stop
    case assign =>
      intro l x W K hK
      gi_wp2
      exact hK
    case body =>
      rintro l pre x W ⟨⟨v, hv, hrow, _⟩, hbs, hB⟩ hlen
      have hc := hv.cell
      gi_wp2_with (gi_at_builtin; refine wpListIn_append_own _ rfl _ _ 25 rfl w.heap.size 2 i0 (.int .i64 0) 1 8 Tryd.underlying25 hi hz0 hz1 hz2 rfl (by decide) _ _ _ rfl (hrow.alloc _) ⟨W.heap.size, 0, none⟩ 1 1 [.int .i64 (mkB s.data.toList x)] rfl rfl (cell_one_new _ _ _) (by simp [Value.oneCell']) (by unfold maxLen; omega) (by omega) (by have := hB.size; simp; omega) ?_; intro v' w5 hown' hgrow _; obtain ⟨g', cap', rfl⟩ := ownsRow_succ hown'; obtain ⟨hv1, hv2, hr2, hk2, hb2'⟩ := hv.appended (by decide) hrow hB.size HZ2.out hown' hgrow; have hc1 := hv1.cell; have hf1 := hv1.frozen)
      have hbs1 : Boxed w5 (w2.heap.size + 1) 9 (.string s) := (hbs.alloc _).kept hgrow (hbs.not_row (by decide) hrow)
      have hbs2 := Boxed.other hbs1 (show w2.heap.size + 1 ≠ w2.heap.size by omega) (.slice (some ⟨g', 0, none⟩) (pre.length + 1) cap')
      exact ⟨hk2, iv_box hbs hbs2, ⟨_, hv2, by simpa using hr2, trivial⟩, hbs2, hB.trans hb2'⟩
    case done =>
      rintro D ys W hD rfl ⟨⟨v, hv, hrow, _⟩, hbs, hB⟩ hK
      have hc := hv.cell
      gi_wp2
      refine ⟨by simp, .inl ⟨_, _, rfl, run_takeDeferred hK, ?_⟩⟩
      have hrow' := ownsRow_putObj hrow (.deferred none) hK rfl
      have hmm : (List.range N).map (fun p => Value.int .i64 (mkB s.data.toList p)) = (St.stack s.data.toList).map I := by
        rw [← marks_map _ HF.out, List.map_map, toList_len, ← HN.out]
        rfl
      rw [hmm] at hrow'
      have hO := Own.here hrow' (by rw [List.length_range, stack_len _ HF.out, toList_len]; exact HN.out)
      obtain ⟨A, c, hv', _⟩ := hO.form
      subst hv'
      refine ⟨_, results_tmp2 rfl _ _ _, ?_⟩
      refine LC.mk_ HR.out HC.out hO (Nat.le_refl _) (Nat.le_refl _) ?_ (hB.trans (belowK_b (w := w) (Nat.le_refl _) W D _ _ (by have := HZ2.out; simp at hD; omega) hK rfl rfl))
      rw [stack_len _ HF.out, toList_len, ← HN.out]
      omega
    case stop =>
      rintro D c pre W _ _ h _
      exact h.elim
  · have HR : Hid (fsR s.data.toList = []) := by unfold fsR; rw [if_neg hf]; exact Lib.hid rfl
    have HC : Hid (fsC s.data.toList = 1) := by unfold fsC; rw [if_neg hf]; exact Lib.hid rfl
    have HF : Hid (St.foldsB s.data.toList = false) := Lib.hid (by simpa using hf)
    clear hf
    go_enter Tryd.func12, Tryd.ntmps12
    go_wp2_with fail
    refine (implIsFolds_any s _ hs).mono ?_
    rintro e w1 ⟨rfl, hb1⟩
    rw [HF.out]
    go_wp2_with fail
    go_ret2
    exact LC.nil_ HR.out HC.out hb1
end Go.Proofs.YtjpfbonnohodhaaDoor
