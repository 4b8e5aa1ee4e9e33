/- The program's search for a packing with at most m rolls. -/
import Derived.Test.YtbhkpjjedeinpaaRiCm
import Derived.Laws.EntriesVeiled
namespace Go.Proofs.Ytbhkpjjedeinpaa
open Go.RowKit Go.Maps
set_option linter.unusedVariables false

/-- What it hands back. -/
def PinP (r : Int) (s : List Int) (n m : Nat) (w : World) (e : Ending) (w' : World) : Prop :=
  ∃ (b : Bool) (A3 : Option Addr) (k3 c3 : Nat) (R : List Int), e = .returned (.tuple #[.slice A3 k3 c3, .bool b]) ∧ Own I w' w.heap.size w'.heap.size 2 (.slice A3 k3 c3) R ∧ Below w.heap.size w w' ∧ (b = true → Rl.sea r s m s.length [] = some R) ∧ (b = false → Rl.sea r s m s.length [] = none)
set_option maxRecDepth 100000 in
set_option maxHeartbeats 8000000 in
theorem pin_any (r : Int) (A : Option Addr) (n c B m : Nat) (s : List Int) (w : World) (h : Rd I w B A n s) (hB : B ≤ w.heap.size) (hT : Rl.okT r s = true) (hm : m ≤ 12) :
    Calls Try.prog 67 #[TV r A n c, .int .i64 (m : Int)] w fun e w' => PinP r s n m w e w' := by
  obtain ⟨i0, hi0, hz0, hz1, hz2⟩ := info_parts infoI
  have HL := Lib.hid h.1
  have hn12 : n ≤ 12 := by have := (Rl.okT_iff.1 hT).2.1; rw [HL.out] at this; exact this
  have hmf : ∀ (fn : Fn) (first cap : Array Value) (w : World), (Instr.makeFunc fn first cap).run Try.prog w = .ok (.func fn first cap) w := fun _ _ _ _ => rfl
  have hmm := @run_makeMap Try.prog
  have hn0 := below_newR w (.cells #[.int .i64 r, .slice A n c] 44)
  have hbt : TBx (w.alloc (.cells #[.int .i64 r, .slice A n c] 44)) w.heap.size r A n c := Blk.new _ _ rfl
  have hr0 := h.alloc hB (.cells #[.int .i64 r, .slice A n c] 44)
  have hbt1 := hbt.alloc (.cells #[.int .i64 r] 2)
  have hr1 := hr0.alloc (by simp; omega) (.cells #[.int .i64 r] 2)
  have hn1 := hn0.alloc (by simp) (.cells #[.int .i64 r] 2)
  have hrep := rep_any r m (w.heap.size + 1) 1 ((w.alloc (.cells #[.int .i64 r, .slice A n c] 44)).alloc (.cells #[.int .i64 r] 2)) hm (by simp) (by simp)
  have e0 := hbt.cell 0 (v := .int .i64 r) rfl
  go_enter Try.func67, Try.ntmps67
  go_wp2_with fail
  refine hrep.mono ?_
  rintro e w1 ⟨G, rfl, hoG, hb1⟩
  go_upto_region 2 with fail
  have hbt2 := (hbt1.below hb1 hbt1.lt).alloc (.cells #[.slice (some ⟨G, 0, none⟩) m m] 24)
  have hr2 := (hr1.below hb1 (by simp; omega)).alloc (by have := hb1.size; simp at this; omega) (.cells #[.slice (some ⟨G, 0, none⟩) m m] 24)
  have hn2 := (hn1.trans (hb1.mono (by simp; omega))).alloc (by have := hb1.size; simp at this; omega) (.cells #[.slice (some ⟨G, 0, none⟩) m m] 24)
  have hbs2 : Blk (w1.alloc (.cells #[.slice (some ⟨G, 0, none⟩) m m] 24)) w1.heap.size #[.slice (some ⟨G, 0, none⟩) m m] 24 := Blk.new _ _ rfl
  have hsp2 := hoG.blk.alloc (.cells #[.slice (some ⟨G, 0, none⟩) m m] 24)
  have hGl := hoG.lt G rfl
  have hz2w : (w1.alloc (.cells #[.slice (some ⟨G, 0, none⟩) m m] 24)).heap.size = w1.heap.size + 1 := by simp
  have hzb1 := hb1.size
  simp at hzb1 hGl
  clear hbt1 hr1 hn1 hb1 hoG hrep hbt hr0 hn0 e0
  generalize w1.alloc (.cells #[.slice (some ⟨G, 0, none⟩) m m] 24) = V2 at hbt2 hr2 hn2 hbs2 hsp2 hz2w ⊢
  have e1 := hbt2.cell 1 (v := .slice A n c) rfl
  go_upto_region 3 with (at_make; refine wpList_make_own V2 rfl _ _ 24 rfl w.heap.size 2 i0 (.int .i64 0) 1 Try.underlying24 hi0 hz0 hz1 .i64 .i64 _ n rfl rfl rfl (by rw [hz2]; omega) (by unfold maxLen; omega) (by omega) ?_; intro w3 hown3 hg3)
  have hb3 : Below V2.heap.size V2 w3 := (Below.refl _ _).grown hg3 (Nat.le_refl _) (by simp)
  have hP3 : Own I w3 w.heap.size w3.heap.size 2 (.slice (some ⟨w1.heap.size + 1, 0, none⟩) 0 n) ([] : List Int) := by
    rw [← hz2w]
    exact Own.here hown3 rfl
  have hzb3 := hb3.size
  have hPl := hP3.lt _ rfl
  have hbt4 := (hbt2.below hb3 hbt2.lt).alloc (.cells #[.slice (some ⟨w1.heap.size + 1, 0, none⟩) 0 n] 24)
  have hbs4 := (hbs2.below hb3 hbs2.lt).alloc (.cells #[.slice (some ⟨w1.heap.size + 1, 0, none⟩) 0 n] 24)
  have hsp4 := (hsp2.below hb3 hsp2.lt).alloc (.cells #[.slice (some ⟨w1.heap.size + 1, 0, none⟩) 0 n] 24)
  have hr4 := (hr2.below hb3 (by omega)).alloc (by omega) (.cells #[.slice (some ⟨w1.heap.size + 1, 0, none⟩) 0 n] 24)
  have hn4 := (hn2.trans (hb3.mono (by omega))).alloc (by omega) (.cells #[.slice (some ⟨w1.heap.size + 1, 0, none⟩) 0 n] 24)
  have hP4 := hP3.alloc (.cells #[.slice (some ⟨w1.heap.size + 1, 0, none⟩) 0 n] 24)
  have hbp4 : Blk (w3.alloc (.cells #[.slice (some ⟨w1.heap.size + 1, 0, none⟩) 0 n] 24)) w3.heap.size #[.slice (some ⟨w1.heap.size + 1, 0, none⟩) 0 n] 24 := Blk.new _ _ rfl
  have hz4 : (w3.alloc (.cells #[.slice (some ⟨w1.heap.size + 1, 0, none⟩) 0 n] 24)).heap.size = w3.heap.size + 1 := by simp
  clear hown3 hg3 hbt2 hbs2 hsp2 hr2 hn2 hP3 e1
  generalize w3.alloc (.cells #[.slice (some ⟨w1.heap.size + 1, 0, none⟩) 0 n] 24) = V4 at hbt4 hbs4 hsp4 hr4 hn4 hP4 hbp4 hz4 ⊢
  go_upto_region 4 with fail
  have hm5 := (World.ownsMap_made (H := Unit) V4 Try.prog 74 (plainElem Try.prog 4)).alloc (.cells #[.map (some (w3.heap.size + 1))] 73)
  have hb5 : Below V4.heap.size V4 ((V4.alloc (.map #[] 0)).alloc (.cells #[.map (some (w3.heap.size + 1))] 73)) := (below_newR V4 (.map #[] 0)).alloc (by simp) _
  have hbm5 : Blk ((V4.alloc (.map #[] 0)).alloc (.cells #[.map (some (w3.heap.size + 1))] 73)) (w3.heap.size + 2) #[.map (some (w3.heap.size + 1))] 73 := Blk.new _ _ (by simp; omega)
  have hz5 : ((V4.alloc (.map #[] 0)).alloc (.cells #[.map (some (w3.heap.size + 1))] 73)).heap.size = w3.heap.size + 3 := by simp; omega
  rw [hz4] at hm5
  generalize (V4.alloc (.map #[] 0)).alloc (.cells #[.map (some (w3.heap.size + 1))] 73) = V5 at hm5 hb5 hbm5 hz5 ⊢
  have hbc6 : Blk (V5.alloc (.cells #[.nilFunc] 45)) (w3.heap.size + 3) #[.nilFunc] 45 := Blk.new _ _ hz5.symm
  have hb6 : Below V4.heap.size V4 (V5.alloc (.cells #[.nilFunc] 45)) := hb5.alloc (by omega) _
  have hm6 := hm5.alloc (.cells #[.nilFunc] 45)
  have hbm6 := hbm5.alloc (.cells #[.nilFunc] 45)
  have hz6 : (V5.alloc (.cells #[.nilFunc] 45)).heap.size = w3.heap.size + 4 := by simp; omega
  go_upto_region 5 with fail
  clear hm5 hb5 hbm5
  generalize V5.alloc (.cells #[.nilFunc] 45) = V6 at hbc6 hb6 hm6 hbm6 hz6 ⊢
  have c6 := hbc6.cell 0 (v := .nilFunc) rfl
  have f6 := hbc6.free 0
  go_upto_region 6 with fail
  clear c6 f6
  have P : Plc w.heap.size w3.heap.size w.heap.size w1.heap.size (w3.heap.size + 1 + 1) (w3.heap.size + 3) G (w3.heap.size + 1) := ⟨Nat.le_refl _, by omega, by omega, by omega, by omega, by omega, by omega⟩
  have hL0 : Rl.spa r s [] m = (List.replicate m r : List Int) := by
    apply List.ext_getElem?
    intro i
    rcases Nat.lt_or_ge i m with h1 | h1
    · rw [Rl.spa_get h1, List.getElem?_replicate, if_pos h1, Rl.loads_none]
      simp
    · rw [List.getElem?_eq_none (by rw [Rl.spa_len]; omega), List.getElem?_eq_none (by simp; omega)]
  have S : CSt (V6.setCell ⟨w3.heap.size + 3, 0, none⟩ (CloP w3.heap.size w.heap.size w1.heap.size (w3.heap.size + 1 + 1) (w3.heap.size + 3))) w.heap.size w3.heap.size w.heap.size w1.heap.size (w3.heap.size + 1 + 1) (w3.heap.size + 3) G (w3.heap.size + 1) r A n c s m (some ⟨w1.heap.size + 1, 0, none⟩) 0 n [] (List.replicate m r) 0 (.map []) := by
    refine ⟨?_, ?_, ?_, ?_, ?_, ?_, ?_, ?_, ?_, ?_⟩
    · exact (hbp4.below hb6 hbp4.lt).other _ _ (show w3.heap.size ≠ w3.heap.size + 3 by omega)
    · exact (hbt4.below hb6 hbt4.lt).other _ _ (show w.heap.size ≠ w3.heap.size + 3 by omega)
    · exact (hbs4.below hb6 hbs4.lt).other _ _ (show w1.heap.size ≠ w3.heap.size + 3 by omega)
    · exact hbm6.other _ _ (show w3.heap.size + 1 + 1 ≠ w3.heap.size + 3 by omega)
    · exact hbc6.set 0 _
    · have h1 := (hP4.mono (Nat.le_refl _) (show w3.heap.size ≤ V4.heap.size by omega)).below hb6 (Nat.le_refl _)
      refine (h1.other ⟨w3.heap.size + 3, 0, none⟩ _ ?_).mono (Nat.le_refl _) (by simp; omega)
      exact Far.of_lt (show w3.heap.size + 3 ≠ w1.heap.size + 1 by omega)
    · have h1 := (hsp4.below hb6 hsp4.lt).other ⟨w3.heap.size + 3, 0, none⟩ (CloP w3.heap.size w.heap.size w1.heap.size (w3.heap.size + 1 + 1) (w3.heap.size + 3)) (show G ≠ w3.heap.size + 3 by omega)
      exact h1
    · exact Far.of_lt (by omega)
    · exact mp_of hm6 (heap_setCell_other V6 ⟨w3.heap.size + 3, 0, none⟩ (w3.heap.size + 1) _ (show w3.heap.size + 1 ≠ w3.heap.size + 3 by omega))
    · exact ((hr4.below hb6 (by omega)).more hB).keep fun x hx => World.cell?_of_block (heap_setCell_other V6 ⟨w3.heap.size + 3, 0, none⟩ x.block _ (show x.block ≠ w3.heap.size + 3 by omega))
  have hb7 := (hn4.trans (hb6.mono (by omega))).setCell (p := ⟨w3.heap.size + 3, 0, none⟩) (show w.heap.size ≤ w3.heap.size + 3 by omega) (CloP w3.heap.size w.heap.size w1.heap.size (w3.heap.size + 1 + 1) (w3.heap.size + 3))
  clear hbt4 hbs4 hsp4 hr4 hn4 hP4 hbp4 hbc6 hb6 hm6 hbm6
  generalize V6.setCell ⟨w3.heap.size + 3, 0, none⟩ (CloP w3.heap.size w.heap.size w1.heap.size (w3.heap.size + 1 + 1) (w3.heap.size + 3)) = V7 at S hb7 ⊢
  have hcl := com_any w.heap.size w3.heap.size w.heap.size w1.heap.size (w3.heap.size + 1 + 1) (w3.heap.size + 3) G (w3.heap.size + 1) P r A n c s m hT hm n [] _ _ _ _ _ _ V7 S hL0 (Rl.PreP.nil hT) (by simp [Rl.rolls]) (by omega) (Memo.zero r s m) (by have h1 := Ib_le; have h2 := Ib_mono hn12; omega)
  have e4 := S.bc.cell 0 (v := CloP w3.heap.size w.heap.size w1.heap.size (w3.heap.size + 1 + 1) (w3.heap.size + 3)) rfl
  have hcf : ∀ args W, (callFunc 73 args).run Try.prog W = .ok (.enter 73 args) W := enters_of Try.func73 (by kernel_rfl) rfl
  have hown := S.own_
  go_wp2_with fail
  refine hcl.mono ?_
  rintro e w8 ⟨b, A7, k7, c7, p7, N7, D7, rfl, S7, M7, HN7, F7, ht, hf⟩
  have hb8 := F7.below P hown hb7.size
  have HB8 := Lib.hid (hb7.trans hb8)
  have hz8 := HB8.out.size
  cases b
  · have HE := Lib.hid (hf rfl).1
    clear S7 M7 HN7 F7 ht hf hcl
    go_wp2_with fail
    go_ret2
    exact ⟨false, none, 0, 0, [], rfl, Own.nil_, HB8.out, (fun e => by cases e), fun _ => by rw [HL.out]; exact HE.out⟩
  · have HE := Lib.hid (ht rfl)
    have HO := Lib.hid S7.pk
    have e5 := S7.bp.cell 0 (v := .slice A7 k7 c7) rfl
    clear S7 M7 HN7 F7 ht hf hcl
    go_wp2_with fail
    go_ret2
    exact ⟨true, A7, k7, c7, p7, rfl, HO.out, HB8.out, (fun _ => by rw [HL.out]; exact HE.out), fun e => by cases e⟩
end Go.Proofs.Ytbhkpjjedeinpaa
