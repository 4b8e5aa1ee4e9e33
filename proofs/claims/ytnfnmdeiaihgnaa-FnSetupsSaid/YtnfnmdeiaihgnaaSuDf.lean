/- Contract of DrawFoldedSize. -/
import Derived.Test.YtnfnmdeiaihgnaaSuDv
import Derived.Deep.RegionLaw
import Derived.Deep.RegionHeld3
import Derived.BigRegion
namespace Go.Proofs.Ytnfnmdeiaihgnaa
open Go.RowKit
set_option linter.unusedVariables false
set_option linter.unusedSimpArgs false

/-- What DrawFoldedSize hands back. -/
def DfF (w : World) (e' : Ending) (w' : World) : Prop := ∃ (a b : Int) (x : Pc) (t : ByteArray) (v : Int), e' = .returned (.tuple #[.int .i64 a, .int .i64 b, x.agg, .string t, .int .i64 v]) ∧ (-1 ≤ a ∧ a ≤ 16) ∧ (-1 ≤ b ∧ b ≤ 16) ∧ x.inR ∧ t.size ≤ 7 ∧ (-1 ≤ v ∧ v ≤ 8) ∧ Below w.heap.size w w'
set_option maxRecDepth 100000 in
set_option maxHeartbeats 8000000 in
theorem DrawFz_any (N C B : Nat) (A : Option Addr) (l : List Int) (w : World) (hc : Rd U w B A N l) (hl : inByte l) (hB : B ≤ w.heap.size) (hN : N ≤ 1048576) :
    Calls Try.prog 16 #[.slice A N C] w fun e' w' => DfF w e' w' := by
  have HK0 := Lib.hid (Blk.new (w := w) (g := w.heap.size) #[.int .i64 0, .int .i64 0] 25 rfl)
  have HB0 := Lib.hid (below_newS w (.cells #[.int .i64 0, .int .i64 0] 25))
  have hc0 := hc.alloc hB (.cells #[.int .i64 0, .int .i64 0] 25)
  have hz0 : (w.alloc (.cells #[.int .i64 0, .int .i64 0] 25)).heap.size = w.heap.size + 1 := by simp
  go_enter Try.func16, Try.ntmps16
  go_wp2_with fail
  refine (l01From_ex N C B A l _ hc0 hl (by omega)).mono ?_
  rintro e w1 ⟨g, rfl, hg, hs1, hb1⟩
  have hc1 := hc0.below hb1 (by omega)
  have z1 := hb1.size
  have hg1 := hs1.lt
  have k1 := HK0.out.below hb1 HK0.out.lt
  have HB1 := Lib.hid (HB0.out.trans (hb1.mono (by omega)))
  clear hb1
  go_wp2_with fail
  refine (drawZ_any g N C B A l w1 ⟨hs1, hc1, by omega⟩ hl hN).mono ?_
  rintro e w2 ⟨a, b, x, t, rfl, ha, hb, hx, ht, hs2, hq2⟩
  have z2 := hq2.size
  have HR := Lib.hid hx
  have HS3 := Lib.hid (hs2.alloc (.cells #[.int .i64 x.w, .int .i64 x.h] 25))
  have HX := Lib.hid (Blk.new (w := w2) (g := w2.heap.size) #[.int .i64 x.w, .int .i64 x.h] 25 rfl)
  have HK3 := Lib.hid ((k1.moveG hq2 (by omega)).alloc (.cells #[.int .i64 x.w, .int .i64 x.h] 25))
  have HB3 := Lib.hid ((HB1.out.trans (hq2.below (show w.heap.size ≤ g by omega) (by omega))).alloc (show w.heap.size ≤ w2.heap.size by omega) (.cells #[.int .i64 x.w, .int .i64 x.h] 25))
  have yt : IntKind.i64.wrap ((t.size : Int) + 1) = (t.size : Int) + 1 := IntWalk.i64_in _ (by omega)
  clear hs1 hs2 hq2 k1 hx hc0 hc1
  go_wp2_with fail
  refine wp_region_held_drew (S := (fun V => TwoG V w2.heap.size (.int .i64 x.w) (.int .i64 x.h))) (by kernel_rfl) HX.out.drewG.twoG (fun hHeld => ?_)
  refine wpAnyH_take (i := 0) (oi := ⟨some 21, _, _, _, _, _⟩) (v := ?_) rfl (by kernel_rfl) (by kernel_rfl) (by kernel_rfl) (fun _ _ _ h => h) (Or.inl ⟨by kernel_rfl, ?_⟩) (by assumption) ?_
  rotate_left
  · (intro w hSw; obtain ⟨s0, s1⟩ := hSw; go_simp; first | done | with_reducible rfl)
  refine wpAnyH_take (i := 1) (oi := ⟨some 22, _, _, _, _, _⟩) (v := ?_) rfl (by kernel_rfl) (by kernel_rfl) (by kernel_rfl) (fun _ _ _ h => h) (Or.inl ⟨by kernel_rfl, ?_⟩) (by assumption) ?_
  rotate_left
  · (intro w hSw; obtain ⟨s0, s1⟩ := hSw; go_simp; first | done | with_reducible rfl)
  refine wpAnyH_take (i := 2) (oi := ⟨some 23, _, _, _, _, _⟩) (v := ?_) rfl (by kernel_rfl) (by kernel_rfl) (by kernel_rfl) (fun _ _ _ h => h) (Or.inl ⟨by kernel_rfl, ?_⟩) (by assumption) ?_
  rotate_left
  · (intro w hSw; obtain ⟨s0, s1⟩ := hSw; go_simp; first | done | with_reducible rfl)
  refine wpAnyH_take (i := 3) (oi := ⟨some 24, _, _, _, _, _⟩) (v := ?_) rfl (by kernel_rfl) (by kernel_rfl) (by kernel_rfl) (fun _ _ _ h => h) (Or.inl ⟨by kernel_rfl, ?_⟩) (by assumption) ?_
  rotate_left
  · (intro w hSw; obtain ⟨s0, s1⟩ := hSw; go_simp; first | done | with_reducible rfl)
  refine wpAnyH_take (i := 4) (oi := ⟨some 25, _, _, _, _, _⟩) (v := ?_) rfl (by kernel_rfl) (by kernel_rfl) (by kernel_rfl) (fun _ _ _ h => h) (Or.inl ⟨by kernel_rfl, ?_⟩) (by assumption) ?_
  rotate_left
  · (intro w hSw; obtain ⟨s0, s1⟩ := hSw; go_simp; first | done | with_reducible rfl)
  refine wpAnyH_take (i := 5) (oi := ⟨some 26, _, _, _, _, _⟩) (v := ?_) rfl (by kernel_rfl) (by kernel_rfl) (by kernel_rfl) (fun _ _ _ h => h) (Or.inl ⟨by kernel_rfl, ?_⟩) (by assumption) ?_
  rotate_left
  · (intro w hSw; obtain ⟨s0, s1⟩ := hSw; go_simp; first | done | with_reducible rfl)
  refine wpAnyH_take (i := 6) (oi := ⟨some 27, _, _, _, _, _⟩) (v := ?_) rfl (by kernel_rfl) (by kernel_rfl) (by kernel_rfl) (fun _ _ _ h => h) (Or.inl ⟨by kernel_rfl, ?_⟩) (by assumption) ?_
  rotate_left
  · (intro w hSw; obtain ⟨s0, s1⟩ := hSw; go_simp; first | done | with_reducible rfl)
  refine wpAnyH_take (i := 7) (oi := ⟨some 28, _, _, _, _, _⟩) (v := ?_) rfl (by kernel_rfl) (by kernel_rfl) (by kernel_rfl) (fun _ _ _ h => h) (Or.inl ⟨by kernel_rfl, ?_⟩) (by assumption) ?_
  rotate_left
  · (intro w hSw; obtain ⟨s0, s1⟩ := hSw; go_simp; first | done | with_reducible rfl)
  refine wpAnyH_take (i := 9) (oi := ⟨some 30, _, _, _, _, _⟩) (v := ?_) rfl (by kernel_rfl) (by kernel_rfl) (by kernel_rfl) (fun _ _ _ h => h) (Or.inl ⟨by kernel_rfl, ?_⟩) (by assumption) ?_
  rotate_left
  · (intro w hSw; obtain ⟨s0, s1⟩ := hSw; go_simp; first | done | with_reducible rfl)
  refine wpAnyH_ready (rs := [8]) (by kernel_rfl) (by simp) ?_
  refine AllReadyH.cons rfl (fun K hK => ?_) AllReadyH.nil
  rw [if_pos (by kernel_rfl)]
  go_simp
  refine (nextG_ex g N C B A l ((t.size : Int) + 1) _ HS3.out.drew hl hN (by omega) (by omega)).mono ?_
  rintro e w3 ⟨v, rfl, hv, hs3, hq3⟩
  have hX3 := HX.out.drewG.moveG hq3 (by omega)
  have hk3 := HK3.out.drewG.moveG hq3 (by omega)
  have HQ3 := Lib.hid (HB3.out.trans ((Q.drewN _ 1).below _ |>.trans (hq3.below (show w.heap.size ≤ g by omega) (by simp; omega))))
  have z3 : g < w3.heap.size := hs3.lt
  refine hK.out _ _ hX3.twoG (fun hHeld2 => ?_)
  refine wpAnyH_ready (rs := [10]) (by kernel_rfl) (by simp) ?_
  refine AllReadyH.cons rfl (fun K hK => ?_) AllReadyH.nil
  rw [if_pos (by kernel_rfl)]
  go_simp
  refine (nextG_ex g N C B A l 20 _ hs3 hl hN (by decide) (by decide)).mono ?_
  rintro e w4 ⟨u, rfl, hu, hs4, hq4⟩
  have hX4 := hX3.moveG hq4 (by omega)
  have hk4 := hk3.moveG hq4 (by omega)
  have HQ4 := Lib.hid (HQ3.out.trans (hq4.below (show w.heap.size ≤ g by omega) (by omega)))
  have t1 : u.tdiv 19 = u / 19 := Int.tdiv_eq_ediv_of_nonneg (by omega)
  have t2 : IntKind.i64.wrap (u / 19) = u / 19 := IntWalk.i64_in _ (by omega)
  have t3 : IntKind.i64.wrap (v - u / 19) = v - u / 19 := IntWalk.i64_in _ (by omega)
  refine hK.out _ _ hX4.twoG (fun hHeld3 => ?_)
  refine wpAnyH_take (i := 11) (oi := ⟨some 32, _, _, _, _, _⟩) (v := ?_) rfl (by kernel_rfl) (by kernel_rfl) (by kernel_rfl) (fun _ _ _ h => h) (Or.inl ⟨by kernel_rfl, ?_⟩) (by assumption) ?_
  rotate_left
  · (intro w hSw; obtain ⟨s0, s1⟩ := hSw; go_simp; first | done | with_reducible rfl)
  refine wpAnyH_take (i := 12) (oi := ⟨some 33, _, _, _, _, _⟩) (v := ?_) rfl (by kernel_rfl) (by kernel_rfl) (by kernel_rfl) (fun _ _ _ h => h) (Or.inl ⟨by kernel_rfl, ?_⟩) (by assumption) ?_
  rotate_left
  · (intro w hSw; obtain ⟨s0, s1⟩ := hSw; go_simp; first | done | with_reducible rfl)
  refine wpAnyH_take (i := 13) (oi := ⟨some 2, _, _, _, _, _⟩) (v := ?_) rfl (by kernel_rfl) (by kernel_rfl) (by kernel_rfl) (fun _ _ _ h => h) (Or.inl ⟨by kernel_rfl, ?_⟩) (by assumption) ?_
  rotate_left
  · (intro w hSw; obtain ⟨s0, s1⟩ := hSw; go_simp; first | done | with_reducible rfl)
  refine wpAnyH_take (i := 14) (oi := ⟨some 3, _, _, _, _, _⟩) (v := ?_) rfl (by kernel_rfl) (by kernel_rfl) (by kernel_rfl) (fun _ _ _ h => h) (Or.inl ⟨by kernel_rfl, ?_⟩) (by assumption) ?_
  rotate_left
  · (intro w hSw; obtain ⟨s0, s1⟩ := hSw; go_simp; first | done | with_reducible rfl)
  have q0 := hk4.cell 0 (v := .int .i64 0) rfl
  have q1 := hk4.cell 1 (v := .int .i64 0) rfl
  have p0 := hk4.free 0
  have p1 := hk4.free 1
  have k3 := Blk.set (Blk.set hk4 0 (.int .i64 x.w)) 1 (.int .i64 x.h)
  have g0 := k3.cell 0 (v := .int .i64 x.w) rfl
  have g1 := k3.cell 1 (v := .int .i64 x.h) rfl
  have HE := Lib.hid (show DfF w (.returned (.tuple #[.int .i64 a, .int .i64 b, x.agg, .string t, .int .i64 (v - u / 19)])) ((w4.setCell ⟨w.heap.size, 0, none⟩ (.int .i64 x.w)).setCell ⟨w.heap.size, 1, none⟩ (.int .i64 x.h)) from ⟨a, b, x, t, _, rfl, ha, hb, HR.out, ht, by omega, below_setS (below_setS HQ4.out _ (Nat.le_refl _)) _ (Nat.le_refl _)⟩)
  refine wpAnyH_ready (rs := [15]) (by kernel_rfl) (by simp) ?_
  refine AllReadyH.cons rfl (fun K hK => ?_) AllReadyH.nil
  rw [if_pos (by kernel_rfl)]
  go_simp
  refine hK.out _ _ (by exact keepPutG (by omega) hX4.twoG) (fun hHeld4 => ?_)
  refine wpAnyH_take (i := 16) (oi := ⟨some 5, _, _, _, _, _⟩) (v := ?_) rfl (by kernel_rfl) (by kernel_rfl) (by kernel_rfl) (fun _ _ _ h => h) (Or.inl ⟨by kernel_rfl, ?_⟩) (by assumption) ?_
  rotate_left
  · (intro w hSw; obtain ⟨s0, s1⟩ := hSw; go_simp; first | done | with_reducible rfl)
  refine wpAnyH_take (i := 17) (oi := ⟨some 6, _, _, _, _, _⟩) (v := ?_) rfl (by kernel_rfl) (by kernel_rfl) (by kernel_rfl) (fun _ _ _ h => h) (Or.inl ⟨by kernel_rfl, ?_⟩) (by assumption) ?_
  rotate_left
  · (intro w hSw; obtain ⟨s0, s1⟩ := hSw; go_simp; first | done | with_reducible rfl)
  refine wpAnyH_done (by kernel_rfl) ?_ _
  try dsimp only
  simp only [Exit.then, Exit.inBlock, go_sem, List.setIfInBounds_toArray, List.set_cons_succ, List.set_cons_zero]
  go_wp2_with fail
  try simp only [Exit.inBlock, Exit.then]
  exact bodyPost_ret (v := .tuple #[.int .i64 a, .int .i64 b, x.agg, .string t, .int .i64 (v - u / 19)]) (by simp [results, Try.results16, go_sem, g0, g1]) rfl HE.out
end Go.Proofs.Ytnfnmdeiaihgnaa
