/- The two parts of a piece. -/
import Derived.Test.YtbhofhobnbhhhaaDoorGuCc
import Derived.Deep.RegionLaw
namespace Go.Proofs.YtbhofhobnbhhhaaDoor
open Go.RowKit
set_option linter.unusedVariables false

theorem cell_other9 {w : World} {g1 o1 g2 o2 : Nat} {v : Value} (h : g1 ≠ g2) : (w.setCell ⟨g2, o2, none⟩ v).cell? ⟨g1, o1, none⟩ = w.cell? ⟨g1, o1, none⟩ :=
  World.cell?_of_block (heap_setCell_other w ⟨g2, o2, none⟩ g1 v h)
theorem Blk.drew9 {w : World} {g : Nat} {cs : Array Value} {t : TypeId} (h : Blk w g cs t) : Blk w.drew g cs t := h
theorem below_set9 {B : Nat} {w W : World} {b : Addr} {v : Value} (h : Below B w W) (hb : B ≤ b.block) : Below B w (W.setCell b v) :=
  ⟨h.os, h.tape, h.output, by have := h.size; simpa using this, fun k hk => (heap_setCell_other W b k v (by omega)).trans (h.block k hk)⟩
/-- Behind 'first, second := p, p': two boxes more, with the cells c1 and c2. -/
structure PaM (w : World) (i : Int) (a : Bool) (t : Int) (G1 G2 : Nat) (c1 c2 : Array Value) (W : World) : Prop where
  c : Blk W (w.heap.size + 1) #[.int .i64 i, .bool a, .int .i64 t] 76
  r1 : Blk W (w.heap.size + 1 + 1) #[.int .i64 0, .int .i64 0] 67
  r2 : Blk W (w.heap.size + 1 + 1 + 1) #[.int .i64 0, .int .i64 0] 67
  e1 : Blk W G1 c1 67
  e2 : Blk W G2 c2 67
  g1 : w.heap.size + 4 ≤ G1
  g2 : w.heap.size + 4 ≤ G2
  ne : G1 ≠ G2
  b : Below w.heap.size w W
section
variable {w W W' : World} {i t : Int} {a : Bool} {G1 G2 : Nat} {c1 c2 : Array Value}
theorem PaM.below (h : PaM w i a t G1 G2 c1 c2 W) (hb : Below W.heap.size W W') : PaM w i a t G1 G2 c1 c2 W' :=
  ⟨h.c.below hb h.c.lt, h.r1.below hb h.r1.lt, h.r2.below hb h.r2.lt, h.e1.below hb h.e1.lt, h.e2.below hb h.e2.lt, h.g1, h.g2, h.ne, h.b.trans (hb.mono h.b.size)⟩
theorem PaM.drew (h : PaM w i a t G1 G2 c1 c2 W) : PaM w i a t G1 G2 c1 c2 W.drew := h.below (below_drewN' (Below.refl _ _) 1)
theorem PaM.set1 (h : PaM w i a t G1 G2 c1 c2 W) (k : Nat) (v : Value) : PaM w i a t G1 G2 (c1.setIfInBounds k v) c2 (W.setCell ⟨G1, k, none⟩ v) := by
  have h1 := h.g1
  have h2 := h.g2
  exact ⟨h.c.other _ _ (show _ ≠ G1 by omega), h.r1.other _ _ (show _ ≠ G1 by omega), h.r2.other _ _ (show _ ≠ G1 by omega), h.e1.set k v, h.e2.other _ _ (Ne.symm h.ne), h.g1, h.g2, h.ne, below_set9 h.b (show _ ≤ G1 by omega)⟩
theorem PaM.set2 (h : PaM w i a t G1 G2 c1 c2 W) (k : Nat) (v : Value) : PaM w i a t G1 G2 c1 (c2.setIfInBounds k v) (W.setCell ⟨G2, k, none⟩ v) := by
  have h1 := h.g1
  have h2 := h.g2
  exact ⟨h.c.other _ _ (show _ ≠ G2 by omega), h.r1.other _ _ (show _ ≠ G2 by omega), h.r2.other _ _ (show _ ≠ G2 by omega), h.e1.other _ _ h.ne, h.e2.set k v, h.g1, h.g2, h.ne, below_set9 h.b (show _ ≤ G2 by omega)⟩
theorem PaM.mk_ (w : World) (p : Pc) (i : Int) (a : Bool) (t : Int) : PaM w i a t (w.heap.size + 1 + 1 + 1 + 1) (w.heap.size + 1 + 1 + 1 + 1 + 1) #[.int .i64 p.w, .int .i64 p.h] #[.int .i64 p.w, .int .i64 p.h] ((((((w.alloc (.cells #[.int .i64 p.w, .int .i64 p.h] 67)).alloc (.cells #[.int .i64 i, .bool a, .int .i64 t] 76)).alloc (.cells #[.int .i64 0, .int .i64 0] 67)).alloc (.cells #[.int .i64 0, .int .i64 0] 67)).alloc (.cells #[.int .i64 p.w, .int .i64 p.h] 67)).alloc (.cells #[.int .i64 p.w, .int .i64 p.h] 67)).drew ∧
    PaM w i a t (w.heap.size + 1 + 1 + 1 + 1 + 1) (w.heap.size + 1 + 1 + 1 + 1) #[.int .i64 p.w, .int .i64 p.h] #[.int .i64 p.w, .int .i64 p.h] ((((((w.alloc (.cells #[.int .i64 p.w, .int .i64 p.h] 67)).alloc (.cells #[.int .i64 i, .bool a, .int .i64 t] 76)).alloc (.cells #[.int .i64 0, .int .i64 0] 67)).alloc (.cells #[.int .i64 0, .int .i64 0] 67)).alloc (.cells #[.int .i64 p.w, .int .i64 p.h] 67)).alloc (.cells #[.int .i64 p.w, .int .i64 p.h] 67)).drew := by
  have bc := ((((Blk.new (w := (w.alloc (.cells #[.int .i64 p.w, .int .i64 p.h] 67))) (g := w.heap.size + 1) #[.int .i64 i, .bool a, .int .i64 t] 76 (by simp)).alloc (.cells #[.int .i64 0, .int .i64 0] 67)).alloc (.cells #[.int .i64 0, .int .i64 0] 67)).alloc (.cells #[.int .i64 p.w, .int .i64 p.h] 67)).alloc (.cells #[.int .i64 p.w, .int .i64 p.h] 67)
  have b1 := (((Blk.new (w := ((w.alloc (.cells #[.int .i64 p.w, .int .i64 p.h] 67)).alloc (.cells #[.int .i64 i, .bool a, .int .i64 t] 76))) (g := w.heap.size + 1 + 1) #[.int .i64 0, .int .i64 0] 67 (by simp)).alloc (.cells #[.int .i64 0, .int .i64 0] 67)).alloc (.cells #[.int .i64 p.w, .int .i64 p.h] 67)).alloc (.cells #[.int .i64 p.w, .int .i64 p.h] 67)
  have b2 := ((Blk.new (w := (((w.alloc (.cells #[.int .i64 p.w, .int .i64 p.h] 67)).alloc (.cells #[.int .i64 i, .bool a, .int .i64 t] 76)).alloc (.cells #[.int .i64 0, .int .i64 0] 67))) (g := w.heap.size + 1 + 1 + 1) #[.int .i64 0, .int .i64 0] 67 (by simp)).alloc (.cells #[.int .i64 p.w, .int .i64 p.h] 67)).alloc (.cells #[.int .i64 p.w, .int .i64 p.h] 67)
  have b3 := (Blk.new (w := ((((w.alloc (.cells #[.int .i64 p.w, .int .i64 p.h] 67)).alloc (.cells #[.int .i64 i, .bool a, .int .i64 t] 76)).alloc (.cells #[.int .i64 0, .int .i64 0] 67)).alloc (.cells #[.int .i64 0, .int .i64 0] 67))) (g := w.heap.size + 1 + 1 + 1 + 1) #[.int .i64 p.w, .int .i64 p.h] 67 (by simp)).alloc (.cells #[.int .i64 p.w, .int .i64 p.h] 67)
  have b4 := Blk.new (w := ((((w.alloc (.cells #[.int .i64 p.w, .int .i64 p.h] 67)).alloc (.cells #[.int .i64 i, .bool a, .int .i64 t] 76)).alloc (.cells #[.int .i64 0, .int .i64 0] 67)).alloc (.cells #[.int .i64 0, .int .i64 0] 67)).alloc (.cells #[.int .i64 p.w, .int .i64 p.h] 67)) (g := w.heap.size + 1 + 1 + 1 + 1 + 1) #[.int .i64 p.w, .int .i64 p.h] 67 (by simp)
  have hb : Below w.heap.size w ((((((w.alloc (.cells #[.int .i64 p.w, .int .i64 p.h] 67)).alloc (.cells #[.int .i64 i, .bool a, .int .i64 t] 76)).alloc (.cells #[.int .i64 0, .int .i64 0] 67)).alloc (.cells #[.int .i64 0, .int .i64 0] 67)).alloc (.cells #[.int .i64 p.w, .int .i64 p.h] 67)).alloc (.cells #[.int .i64 p.w, .int .i64 p.h] 67)) := (((((below_new9 w _).alloc (by simp) _).alloc (by simp; omega) _).alloc (by simp; omega) _).alloc (by simp; omega) _).alloc (by simp; omega) _
  exact ⟨⟨bc, b1, b2, b3, b4, by omega, by omega, by omega, below_drewN' hb 1⟩, ⟨bc, b1, b2, b4, b3, by omega, by omega, by omega, below_drewN' hb 1⟩⟩
end

set_option maxRecDepth 100000 in
set_option maxHeartbeats 4000000 in
theorem parts_any (p : Pc) (i : Int) (a : Bool) (t : Int) (w : World) (hp : Gu.okP p = true) (h1 : 1 ≤ t) (h2 : t < Gu.side p ⟨i, a, t⟩) :
    Calls Tryd.prog 78 #[p.agg, .agg #[.int .i64 i, .bool a, .int .i64 t]] w fun e w' => e = .returned (.tuple #[(Gu.fst p ⟨i, a, t⟩).agg, (Gu.snd p ⟨i, a, t⟩).agg]) ∧ Below w.heap.size w w' := by
  have hpp := Gu.okP_iff.1 hp
  go_enter Tryd.func78, Tryd.ntmps78
  go_wp2_with fail
  rename_i K hK0
  have hP : ∀ (G1 G2 : Nat) (W : World), PaM w i a t G1 G2 #[.int .i64 p.w, .int .i64 p.h] #[.int .i64 p.w, .int .i64 p.h] W → K { tmps := #[p.agg, .agg #[.int .i64 i, .bool a, .int .i64 t], .pointer (some ⟨w.heap.size, 0, none⟩), .pointer (some ⟨w.heap.size + 1, 0, none⟩), .pointer (some ⟨w.heap.size + 1 + 1, 0, none⟩), .pointer (some ⟨w.heap.size + 1 + 1 + 1, 0, none⟩), .pointer (some ⟨G1, 0, none⟩), .pointer (some ⟨G2, 0, none⟩), p.agg, p.agg, undef, undef, undef, undef, undef, undef, undef, undef, undef, undef, undef, undef, undef, undef, undef], defers := [] } W := by
    intro G1 G2 W M
    apply hK0
    clear hK0
    cases a
    · have c0 := M.c.cell 0 (v := .int .i64 i) rfl
      have c1 := M.c.cell 1 (v := .bool false) rfl
      have c2 := M.c.cell 2 (v := .int .i64 t) rfl
      have lc := M.c.lt
      have l1 := M.e1.lt
      have l2 := M.e2.lt
      have hg1 := M.g1
      have hg2 := M.g2
      have ew : IntKind.i64.wrap (p.w - t) = p.w - t := IntWalk.i64_in _ (by simp [Gu.side] at h2; omega)
      have HM := Lib.hid M
      clear M
      go_wp2_with fail
      go_region_held3 (fun V => V.cell? ⟨w.heap.size + 1, 0, none⟩ = some (.int .i64 i) ∧ V.cell? ⟨w.heap.size + 1, 1, none⟩ = some (.bool false) ∧ V.cell? ⟨w.heap.size + 1, 2, none⟩ = some (.int .i64 t))
        (first | go_keep | (refine ⟨?_, ?_, ?_⟩ <;> (first | go_keep | (rw [hbk.cell (by first | omega | (simp; omega) | simp)]; first | assumption | go_keep) | (rw [cell_other9 (by omega)]; first | assumption | go_keep))))
        (first
          | (go_at_call 93; with_reducible refine (divided_any G1 i false t _).mono ?_; rintro e' w5 ⟨rfl, hbk⟩; have q0 := (HM.out.drew.e1.below hbk HM.out.drew.e1.lt).cell 0 (v := .int .i64 p.w) rfl; have q1 := (HM.out.drew.e1.below hbk HM.out.drew.e1.lt).cell 1 (v := .int .i64 p.h) rfl; have u0 := (HM.out.drew.e1.below hbk HM.out.drew.e1.lt).free 0))
      have N1 := Lib.hid ((HM.out.drew.below hbk).set1 0 (.int .i64 t))
      clear c0 c1 c2 q0 q1 u0 hbk HM
      generalize w5.setCell ⟨G1, 0, none⟩ (.int .i64 t) = W6 at N1 ⊢
      have c0 := N1.out.c.cell 0 (v := .int .i64 i) rfl
      have c1 := N1.out.c.cell 1 (v := .bool false) rfl
      have c2 := N1.out.c.cell 2 (v := .int .i64 t) rfl
      have lc := N1.out.c.lt
      have l1 := N1.out.e1.lt
      have l2 := N1.out.e2.lt
      go_wp2_with fail
      rename_i K2 hK2
      have hP2 : ∀ W8 : World, PaM w i false t G1 G2 #[.int .i64 t, .int .i64 p.h] #[.int .i64 (p.w - t), .int .i64 p.h] W8 → K2 { tmps := #[p.agg, .agg #[.int .i64 i, .bool false, .int .i64 t], .pointer (some ⟨w.heap.size, 0, none⟩), .pointer (some ⟨w.heap.size + 1, 0, none⟩), .pointer (some ⟨w.heap.size + 1 + 1, 0, none⟩), .pointer (some ⟨w.heap.size + 1 + 1 + 1, 0, none⟩), .pointer (some ⟨G1, 0, none⟩), .pointer (some ⟨G2, 0, none⟩), p.agg, p.agg, .agg #[.int .i64 i, .bool false, .int .i64 t], .pointer (some ⟨G1, 0, none⟩), .pointer (some ⟨w.heap.size + 1, 2, none⟩), .int .i64 t, .pointer (some ⟨G1, 0, none⟩), .agg #[.int .i64 i, .bool false, .int .i64 t], .pointer (some ⟨G2, 0, none⟩), .pointer (some ⟨G2, 0, none⟩), .int .i64 p.w, .pointer (some ⟨w.heap.size + 1, 2, none⟩), .int .i64 t, .int .i64 (p.w - t), .pointer (some ⟨G2, 0, none⟩), undef, undef], defers := [] } W8 := by
        intro W8 N2_
        apply hK2
        have N2 := Lib.hid N2_
        clear hK2 N1 N2_ c0 c1 c2
        have a0 := N2.out.e1.cell 0 (v := .int .i64 t) rfl
        have a1 := N2.out.e1.cell 1 (v := .int .i64 p.h) rfl
        have b0 := N2.out.e2.cell 0 (v := .int .i64 (p.w - t)) rfl
        have b1 := N2.out.e2.cell 1 (v := .int .i64 p.h) rfl
        have u0 := N2.out.r1.free 0
        have u1 := N2.out.r1.free 1
        have u2 := N2.out.r2.free 0
        have u3 := N2.out.r2.free 1
        have s0 := N2.out.r1.cell 0 (v := .int .i64 0) rfl
        have s1 := N2.out.r1.cell 1 (v := .int .i64 0) rfl
        have s2 := N2.out.r2.cell 0 (v := .int .i64 0) rfl
        have s3 := N2.out.r2.cell 1 (v := .int .i64 0) rfl
        have n1 : G1 ≠ w.heap.size + 1 + 1 := by omega
        have n2 : G1 ≠ w.heap.size + 1 + 1 + 1 := by omega
        have n3 : G2 ≠ w.heap.size + 1 + 1 := by omega
        have n4 : G2 ≠ w.heap.size + 1 + 1 + 1 := by omega
        have R1 := Lib.hid (Blk.drew9 ((((N2.out.r1.set 0 (.int .i64 t)).set 1 (.int .i64 p.h)).other ⟨w.heap.size + 1 + 1 + 1, 0, none⟩ (.int .i64 (p.w - t)) (by simp)).other ⟨w.heap.size + 1 + 1 + 1, 1, none⟩ (.int .i64 p.h) (by simp)))
        have R2 := Lib.hid (Blk.drew9 ((((N2.out.r2.other ⟨w.heap.size + 1 + 1, 0, none⟩ (.int .i64 t) (by simp)).other ⟨w.heap.size + 1 + 1, 1, none⟩ (.int .i64 p.h) (by simp)).set 0 (.int .i64 (p.w - t))).set 1 (.int .i64 p.h)))
        have HBB := Lib.hid (below_drewN' (below_set9 (b := ⟨w.heap.size + 1 + 1 + 1, 1, none⟩) (v := .int .i64 p.h) (below_set9 (b := ⟨w.heap.size + 1 + 1 + 1, 0, none⟩) (v := .int .i64 (p.w - t)) (below_set9 (b := ⟨w.heap.size + 1 + 1, 1, none⟩) (v := .int .i64 p.h) (below_set9 (b := ⟨w.heap.size + 1 + 1, 0, none⟩) (v := .int .i64 t) N2.out.b (show _ ≤ w.heap.size + 1 + 1 by omega)) (show _ ≤ w.heap.size + 1 + 1 by omega)) (show _ ≤ w.heap.size + 1 + 1 + 1 by omega)) (show _ ≤ w.heap.size + 1 + 1 + 1 by omega)) 1)
        go_wp2_with fail
        rename_i K4 hK4
        go_region_law (fail)
        all_goals
          apply hK4
          clear hK4
          have x0 := R1.out.cell 0 (v := .int .i64 t) rfl
          have x1 := R1.out.cell 1 (v := .int .i64 p.h) rfl
          have x2 := R2.out.cell 0 (v := .int .i64 (p.w - t)) rfl
          have x3 := R2.out.cell 1 (v := .int .i64 p.h) rfl
          go_wp2_with fail
          exact bodyPost_ret (v := .tuple #[.agg #[.int .i64 t, .int .i64 p.h], .agg #[.int .i64 (p.w - t), .int .i64 p.h]]) (by simp [results, Tryd.results78, go_sem, x0, x1, x2, x3]) rfl ⟨rfl, HBB.out⟩
      clear hK2
      go_region_law (go_simp; go_at_call 93; refine (divided_any G2 i false t _).mono ?_; rintro e' w7 ⟨rfl, hbk⟩; have N7 := N1.out.drew.below hbk; have q0 := N7.e2.cell 0 (v := .int .i64 p.w) rfl; have q1 := N7.e2.cell 1 (v := .int .i64 p.h) rfl; have u0 := N7.e2.free 0; have d0 := N7.c.cell 0 (v := .int .i64 i) rfl; have d1 := N7.c.cell 1 (v := .bool false) rfl; have d2 := N7.c.cell 2 (v := .int .i64 t) rfl)
      all_goals exact hP2 _ ((N1.out.drew.below hbk).set2 0 (.int .i64 (p.w - t)))
    · have c0 := M.c.cell 0 (v := .int .i64 i) rfl
      have c1 := M.c.cell 1 (v := .bool true) rfl
      have c2 := M.c.cell 2 (v := .int .i64 t) rfl
      have lc := M.c.lt
      have l1 := M.e1.lt
      have l2 := M.e2.lt
      have hg1 := M.g1
      have hg2 := M.g2
      have ew : IntKind.i64.wrap (p.h - t) = p.h - t := IntWalk.i64_in _ (by simp [Gu.side] at h2; omega)
      have HM := Lib.hid M
      clear M
      go_wp2_with fail
      go_region_held3 (fun V => V.cell? ⟨w.heap.size + 1, 0, none⟩ = some (.int .i64 i) ∧ V.cell? ⟨w.heap.size + 1, 1, none⟩ = some (.bool true) ∧ V.cell? ⟨w.heap.size + 1, 2, none⟩ = some (.int .i64 t))
        (first | go_keep | (refine ⟨?_, ?_, ?_⟩ <;> (first | go_keep | (rw [hbk.cell (by first | omega | (simp; omega) | simp)]; first | assumption | go_keep) | (rw [cell_other9 (by omega)]; first | assumption | go_keep))))
        (first
          | (go_at_call 93; with_reducible refine (divided_any G1 i true t _).mono ?_; rintro e' w5 ⟨rfl, hbk⟩; have q0 := (HM.out.drew.e1.below hbk HM.out.drew.e1.lt).cell 0 (v := .int .i64 p.w) rfl; have q1 := (HM.out.drew.e1.below hbk HM.out.drew.e1.lt).cell 1 (v := .int .i64 p.h) rfl; have u0 := (HM.out.drew.e1.below hbk HM.out.drew.e1.lt).free 1))
      have N1 := Lib.hid ((HM.out.drew.below hbk).set1 1 (.int .i64 t))
      clear c0 c1 c2 q0 q1 u0 hbk HM
      generalize w5.setCell ⟨G1, 1, none⟩ (.int .i64 t) = W6 at N1 ⊢
      have c0 := N1.out.c.cell 0 (v := .int .i64 i) rfl
      have c1 := N1.out.c.cell 1 (v := .bool true) rfl
      have c2 := N1.out.c.cell 2 (v := .int .i64 t) rfl
      have lc := N1.out.c.lt
      have l1 := N1.out.e1.lt
      have l2 := N1.out.e2.lt
      go_wp2_with fail
      rename_i K2 hK2
      have hP2 : ∀ W8 : World, PaM w i true t G1 G2 #[.int .i64 p.w, .int .i64 t] #[.int .i64 p.w, .int .i64 (p.h - t)] W8 → K2 { tmps := #[p.agg, .agg #[.int .i64 i, .bool true, .int .i64 t], .pointer (some ⟨w.heap.size, 0, none⟩), .pointer (some ⟨w.heap.size + 1, 0, none⟩), .pointer (some ⟨w.heap.size + 1 + 1, 0, none⟩), .pointer (some ⟨w.heap.size + 1 + 1 + 1, 0, none⟩), .pointer (some ⟨G1, 0, none⟩), .pointer (some ⟨G2, 0, none⟩), p.agg, p.agg, .agg #[.int .i64 i, .bool true, .int .i64 t], .pointer (some ⟨G1, 1, none⟩), .pointer (some ⟨w.heap.size + 1, 2, none⟩), .int .i64 t, .pointer (some ⟨G1, 1, none⟩), .agg #[.int .i64 i, .bool true, .int .i64 t], .pointer (some ⟨G2, 1, none⟩), .pointer (some ⟨G2, 1, none⟩), .int .i64 p.h, .pointer (some ⟨w.heap.size + 1, 2, none⟩), .int .i64 t, .int .i64 (p.h - t), .pointer (some ⟨G2, 1, none⟩), undef, undef], defers := [] } W8 := by
        intro W8 N2_
        apply hK2
        have N2 := Lib.hid N2_
        clear hK2 N1 N2_ c0 c1 c2
        have a0 := N2.out.e1.cell 0 (v := .int .i64 p.w) rfl
        have a1 := N2.out.e1.cell 1 (v := .int .i64 t) rfl
        have b0 := N2.out.e2.cell 0 (v := .int .i64 p.w) rfl
        have b1 := N2.out.e2.cell 1 (v := .int .i64 (p.h - t)) rfl
        have u0 := N2.out.r1.free 0
        have u1 := N2.out.r1.free 1
        have u2 := N2.out.r2.free 0
        have u3 := N2.out.r2.free 1
        have s0 := N2.out.r1.cell 0 (v := .int .i64 0) rfl
        have s1 := N2.out.r1.cell 1 (v := .int .i64 0) rfl
        have s2 := N2.out.r2.cell 0 (v := .int .i64 0) rfl
        have s3 := N2.out.r2.cell 1 (v := .int .i64 0) rfl
        have n1 : G1 ≠ w.heap.size + 1 + 1 := by omega
        have n2 : G1 ≠ w.heap.size + 1 + 1 + 1 := by omega
        have n3 : G2 ≠ w.heap.size + 1 + 1 := by omega
        have n4 : G2 ≠ w.heap.size + 1 + 1 + 1 := by omega
        have R1 := Lib.hid (Blk.drew9 ((((N2.out.r1.set 0 (.int .i64 p.w)).set 1 (.int .i64 t)).other ⟨w.heap.size + 1 + 1 + 1, 0, none⟩ (.int .i64 p.w) (by simp)).other ⟨w.heap.size + 1 + 1 + 1, 1, none⟩ (.int .i64 (p.h - t)) (by simp)))
        have R2 := Lib.hid (Blk.drew9 ((((N2.out.r2.other ⟨w.heap.size + 1 + 1, 0, none⟩ (.int .i64 p.w) (by simp)).other ⟨w.heap.size + 1 + 1, 1, none⟩ (.int .i64 t) (by simp)).set 0 (.int .i64 p.w)).set 1 (.int .i64 (p.h - t))))
        have HBB := Lib.hid (below_drewN' (below_set9 (b := ⟨w.heap.size + 1 + 1 + 1, 1, none⟩) (v := .int .i64 (p.h - t)) (below_set9 (b := ⟨w.heap.size + 1 + 1 + 1, 0, none⟩) (v := .int .i64 p.w) (below_set9 (b := ⟨w.heap.size + 1 + 1, 1, none⟩) (v := .int .i64 t) (below_set9 (b := ⟨w.heap.size + 1 + 1, 0, none⟩) (v := .int .i64 p.w) N2.out.b (show _ ≤ w.heap.size + 1 + 1 by omega)) (show _ ≤ w.heap.size + 1 + 1 by omega)) (show _ ≤ w.heap.size + 1 + 1 + 1 by omega)) (show _ ≤ w.heap.size + 1 + 1 + 1 by omega)) 1)
        go_wp2_with fail
        rename_i K4 hK4
        go_region_law (fail)
        all_goals
          apply hK4
          clear hK4
          have x0 := R1.out.cell 0 (v := .int .i64 p.w) rfl
          have x1 := R1.out.cell 1 (v := .int .i64 t) rfl
          have x2 := R2.out.cell 0 (v := .int .i64 p.w) rfl
          have x3 := R2.out.cell 1 (v := .int .i64 (p.h - t)) rfl
          go_wp2_with fail
          exact bodyPost_ret (v := .tuple #[.agg #[.int .i64 p.w, .int .i64 t], .agg #[.int .i64 p.w, .int .i64 (p.h - t)]]) (by simp [results, Tryd.results78, go_sem, x0, x1, x2, x3]) rfl ⟨rfl, HBB.out⟩
      clear hK2
      go_region_law (go_simp; go_at_call 93; refine (divided_any G2 i true t _).mono ?_; rintro e' w7 ⟨rfl, hbk⟩; have N7 := N1.out.drew.below hbk; have q0 := N7.e2.cell 0 (v := .int .i64 p.w) rfl; have q1 := N7.e2.cell 1 (v := .int .i64 p.h) rfl; have u0 := N7.e2.free 1; have d0 := N7.c.cell 0 (v := .int .i64 i) rfl; have d1 := N7.c.cell 1 (v := .bool true) rfl; have d2 := N7.c.cell 2 (v := .int .i64 t) rfl)
      all_goals exact hP2 _ ((N1.out.drew.below hbk).set2 1 (.int .i64 (p.h - t)))
  clear hK0
  go_region_law (fail)
  all_goals first | exact hP _ _ _ (PaM.mk_ w p i a t).1 | exact hP _ _ _ (PaM.mk_ w p i a t).2
end Go.Proofs.YtbhofhobnbhhhaaDoor
