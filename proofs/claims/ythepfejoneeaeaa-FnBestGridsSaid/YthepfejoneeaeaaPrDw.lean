/- Contracts of the draws of a trim, and of a press sheet with a trim: whatever numbers, and what the call leaves as it was. -/
import Derived.Test.YthepfejoneeaeaaSrc
import Derived.Test.YthepfejoneeaeaaSgDo
import Derived.Test.YthepfejoneeaeaaPrLs
namespace Go.Proofs.Ythepfejoneeaeaa
open Go.RowKit

theorem only_above {w w' : World} {lo hi k i : Nat} (h : Only lo hi w w') (u : Value) (hk : w.heap.size ≤ k) : Only lo hi w (w'.setCell ⟨k, i, none⟩ u) :=
  ⟨h.os, h.tape, h.output, by simpa using h.size, fun j hj hne => (heap_setCell_other w' ⟨k, i, none⟩ j u (fun e => by have e' : j = k := e; omega)).trans (h.block j hj hne)⟩
theorem only_put4 {w w' : World} {lo hi k : Nat} (h : Only lo hi w w') (hk : w.heap.size ≤ k) (v0 v1 v2 v3 : Value) : Only lo hi w (put4w w' k v0 v1 v2 v3) :=
  only_above (only_above (only_above (only_above h _ hk) _ hk) _ hk) _ hk
theorem Src.above {w : World} {g N C k i : Nat} {A : Option Addr} (h : Src w g A N C) (u : Value) (hk : g ≠ k) : Src (w.setCell ⟨k, i, none⟩ u) g A N C := by
  obtain ⟨a, s, h1, h2⟩ := h
  exact ⟨a, s, (heap_setCell_other w ⟨k, i, none⟩ g u hk).trans h1, h2⟩
theorem Src.put4 {w : World} {g N C k : Nat} {A : Option Addr} (h : Src w g A N C) (hk : g ≠ k) (v0 v1 v2 v3 : Value) : Src (put4w w k v0 v1 v2 v3) g A N C :=
  (((h.above _ hk).above _ hk).above _ hk).above _ hk
def DrTm (w : World) (g N C : Nat) (A : Option Addr) (e' : Ending) (w' : World) : Prop := ∃ c d e f, e' = .returned (TV c d e f) ∧ Src w' g A N C ∧ Only g (g + 1) w w'
theorem DrTm.mk_ {w w' : World} {g N C : Nat} {A : Option Addr} {c d e f : Int} (hs : Src w' g A N C) (ho : Only g (g + 1) w w') : DrTm w g N C A (.returned (TV c d e f)) w' := ⟨c, d, e, f, rfl, hs, ho⟩
def DrPT (w : World) (g N C : Nat) (A : Option Addr) (e' : Ending) (w' : World) : Prop := ∃ a b q r c d e f, e' = .returned (.tuple #[PV a b q r, TV c d e f]) ∧ Src w' g A N C ∧ Only g (g + 1) w w'
theorem DrPT.mk_ {w w' : World} {g N C : Nat} {A : Option Addr} {a b q : Int} {r : Bool} {c d e f : Int} (hs : Src w' g A N C) (ho : Only g (g + 1) w w') : DrPT w g N C A (.returned (.tuple #[PV a b q r, TV c d e f])) w' := ⟨a, b, q, r, c, d, e, f, rfl, hs, ho⟩

set_option maxRecDepth 100000 in
set_option maxHeartbeats 8000000 in
theorem drawTm_any (g N C B : Nat) (A : Option Addr) (l : List Int) (w : World) (hs : Src w g A N C) (hc : Rd U w B A N l) (hl : inByte l) (hB : B ≤ g) (hN : N ≤ 1048576) :
    Calls Try.prog 52 #[.pointer (some ⟨g, 0, none⟩)] w fun e' w' => DrTm w g N C A e' w' := by
  have hlt := hs.lt
  go_enter Try.func52, Try.ntmps52
  go_wp2_with fail
  generalize hW : w.alloc (.cells #[.int .i64 0, .int .i64 0, .int .i64 0, .int .i64 0] 27) = w0
  have hb0 : Below w.heap.size w w0 := by rw [← hW]; exact (below_new w (.cells #[.int .i64 0, .int .i64 0, .int .i64 0, .int .i64 0] 27))
  have z0 : w0.heap.size = w.heap.size + 1 := by rw [← hW]; simp
  have b0_0 : Blk w0 (w.heap.size) #[.int .i64 0, .int .i64 0, .int .i64 0, .int .i64 0] 27 := by rw [← hW]; exact (Blk.new (w := w) (g := w.heap.size) #[.int .i64 0, .int .i64 0, .int .i64 0, .int .i64 0] 27 (by simp))
  have hs0 := hs.below hb0 hlt
  have hc0 := hc.below hb0 (by omega)
  have ho0 := Only.of_below hb0 g (g + 1)
  clear hs hc
  have hl0 := hs0.lt
  clear hW hb0
  refine (l01Next_any g N C B A l _ _ hs0 hc0 hl hB hN (by omega)).mono ?_
  rintro e' w1 ⟨v, rfl, v0, v1, _, hs1, hq1⟩
  have z1 := hq1.size
  have hc1 := hc0.only hq1 (by omega) (by omega)
  have ho1 := ho0.trans hq1
  have b1_0 := b0_0.only hq1 (.inr (by omega))
  have hl1 := hs1.lt
  clear hs0 hc0 ho0 hq1 b0_0
  have v2 : v < 1400 := v1 (by decide)
  clear v1
  have y1 : IntKind.i64.wrap (800 + v) = 800 + v := IntWalk.i64_in _ (by omega)
  go_wp2_with fail
  refine (l01Next_any g N C B A l _ _ hs1 hc1 hl hB hN (by omega)).mono ?_
  rintro e' w2 ⟨u, rfl, u0, u1, _, hs2, hq2⟩
  have z2 := hq2.size
  have hc2 := hc1.only hq2 (by omega) (by omega)
  have ho2 := ho1.trans hq2
  have b2_0 := b1_0.only hq2 (.inr (by omega))
  have hl2 := hs2.lt
  clear hs1 hc1 ho1 hq2 b1_0
  have u2 : u < 1900 := u1 (by decide)
  clear u1
  have y2 : IntKind.i64.wrap (1000 + u) = 1000 + u := IntWalk.i64_in _ (by omega)
  go_wp2_with fail
  refine (pick_lit g N C B A l [0, 30, 50] _ _ w2 rfl rfl hs2 hc2 hl hB hN (by simp) (by simp)).mono ?_
  rintro e' w3 ⟨x, rfl, hx, hs3, hq3⟩
  have z3 := hq3.size
  have hc3 := hc2.only hq3 (by omega) (by omega)
  have ho3 := ho2.trans hq3
  have b3_0 := b2_0.only hq3 (.inr (by omega))
  have hl3 := hs3.lt
  clear hs2 hc2 ho2 hq3 b2_0
  clear hx
  go_wp2_with fail
  refine (pick_lit g N C B A l [0, 60, 100] _ _ w3 rfl rfl hs3 hc3 hl hB hN (by simp) (by simp)).mono ?_
  rintro e' w4 ⟨y, rfl, hy, hs4, hq4⟩
  have z4 := hq4.size
  have hc4 := hc3.only hq4 (by omega) (by omega)
  have ho4 := ho3.trans hq4
  have b4_0 := b3_0.only hq4 (.inr (by omega))
  have hl4 := hs4.lt
  clear hs3 hc3 ho3 hq4 b3_0
  clear hy
  go_wp2_with fail
  generalize hW : w4.alloc (.cells #[.int .i64 (800 + v), .int .i64 (1000 + u), .int .i64 x, .int .i64 y] 27) = w5
  have hb5 : Below w4.heap.size w4 w5 := by rw [← hW]; exact (below_new w4 (.cells #[.int .i64 (800 + v), .int .i64 (1000 + u), .int .i64 x, .int .i64 y] 27))
  have z5 : w5.heap.size = w4.heap.size + 1 := by rw [← hW]; simp
  have b5_0 := b4_0.below hb5 b4_0.lt
  have b5_1 : Blk w5 (w4.heap.size) #[.int .i64 (800 + v), .int .i64 (1000 + u), .int .i64 x, .int .i64 y] 27 := by rw [← hW]; exact (Blk.new (w := w4) (g := w4.heap.size) #[.int .i64 (800 + v), .int .i64 (1000 + u), .int .i64 x, .int .i64 y] 27 (by simp))
  have hs5 := hs4.below hb5 hs4.lt
  have hc5 := hc4.below hb5 (by omega)
  have ho5 := ho4.then_below hb5 ho4.size
  clear hs4 hc4 ho4
  clear b4_0
  have hl5 := hs5.lt
  clear hW hb5
  refine (l01Next_any g N C B A l _ _ hs5 hc5 hl hB hN (by omega)).mono ?_
  rintro e' w6 ⟨s, rfl, s0, s1, _, hs6, hq6⟩
  have z6 := hq6.size
  have hc6 := hc5.only hq6 (by omega) (by omega)
  have ho6 := ho5.trans hq6
  have b6_0 := b5_0.only hq6 (.inr (by omega))
  have b6_1 := b5_1.only hq6 (.inr (by omega))
  have hl6 := hs6.lt
  clear hs5 hc5 ho5 hq6 b5_0 b5_1
  have s2 : s < 40 := s1 (by decide)
  clear s1
  by_cases s_0 : s = 0
  · subst s_0
    go_wp2_with fail
    refine (pick_lit g N C B A l [0, 1, 20000, 20001] _ _ w6 rfl rfl hs6 hc6 hl hB hN (by simp) (by simp)).mono ?_
    rintro e' w7 ⟨x9, rfl, hx9, hs7, hq7⟩
    have z7 := hq7.size
    have hc7 := hc6.only hq7 (by omega) (by omega)
    have ho7 := ho6.trans hq7
    have b7_0 := b6_0.only hq7 (.inr (by omega))
    have b7_1 := b6_1.only hq7 (.inr (by omega))
    have hl7 := hs7.lt
    clear hs6 hc6 ho6 hq7 b6_0 b6_1
    clear hx9
    have hne : w.heap.size ≠ w4.heap.size := by omega
    have f0 := b7_1.cell 0 (v := .int .i64 (800 + v)) rfl
    have f1 := b7_1.free 0
    have bT := b7_1.set 0 (.int .i64 x9)
    have bR := b7_0.other ⟨w4.heap.size, 0, none⟩ (.int .i64 x9) hne
    have c0 := bT.cell 0 (v := .int .i64 x9) rfl
    have c1 := bT.cell 1 (v := .int .i64 (1000 + u)) rfl
    have c2 := bT.cell 2 (v := .int .i64 x) rfl
    have c3 := bT.cell 3 (v := .int .i64 y) rfl
    have r0 := bR.cell 0 (v := .int .i64 0) rfl
    have r1 := bR.cell 1 (v := .int .i64 0) rfl
    have r2 := bR.cell 2 (v := .int .i64 0) rfl
    have r3 := bR.cell 3 (v := .int .i64 0) rfl
    have p0 := bR.free 0
    have p1 := bR.free 1
    have p2 := bR.free 2
    have p3 := bR.free 3
    have S4 := Lib.hid (bR.put4 (.int .i64 x9) (.int .i64 (1000 + u)) (.int .i64 x) (.int .i64 y))
    go_wp2_with fail
    have d0 := S4.out.cell 0 (v := .int .i64 x9) rfl
    have d1 := S4.out.cell 1 (v := .int .i64 (1000 + u)) rfl
    have d2 := S4.out.cell 2 (v := .int .i64 x) rfl
    have d3 := S4.out.cell 3 (v := .int .i64 y) rfl
    exact bodyPost_ret (v := .agg #[.int .i64 x9, .int .i64 (1000 + u), .int .i64 x, .int .i64 y]) (by simp [results, Try.results52, go_sem, d0, d1, d2, d3]) rfl (DrTm.mk_ ((hs7.above _ (by omega)).put4 (by omega) _ _ _ _) (only_put4 (only_above ho7 _ (by omega)) (Nat.le_refl _) _ _ _ _))
  have s_0' : (s == 0) = false := by simpa using s_0
  by_cases s_1 : s = 1
  · subst s_1
    go_wp2_with fail
    refine (pick_lit g N C B A l [-1, 20000, 20001] _ _ w6 rfl rfl hs6 hc6 hl hB hN (by simp) (by simp)).mono ?_
    rintro e' w7 ⟨x9, rfl, hx9, hs7, hq7⟩
    have z7 := hq7.size
    have hc7 := hc6.only hq7 (by omega) (by omega)
    have ho7 := ho6.trans hq7
    have b7_0 := b6_0.only hq7 (.inr (by omega))
    have b7_1 := b6_1.only hq7 (.inr (by omega))
    have hl7 := hs7.lt
    clear hs6 hc6 ho6 hq7 b6_0 b6_1
    clear hx9
    have hne : w.heap.size ≠ w4.heap.size := by omega
    have f0 := b7_1.cell 2 (v := .int .i64 x) rfl
    have f1 := b7_1.free 2
    have bT := b7_1.set 2 (.int .i64 x9)
    have bR := b7_0.other ⟨w4.heap.size, 2, none⟩ (.int .i64 x9) hne
    have c0 := bT.cell 0 (v := .int .i64 (800 + v)) rfl
    have c1 := bT.cell 1 (v := .int .i64 (1000 + u)) rfl
    have c2 := bT.cell 2 (v := .int .i64 x9) rfl
    have c3 := bT.cell 3 (v := .int .i64 y) rfl
    have r0 := bR.cell 0 (v := .int .i64 0) rfl
    have r1 := bR.cell 1 (v := .int .i64 0) rfl
    have r2 := bR.cell 2 (v := .int .i64 0) rfl
    have r3 := bR.cell 3 (v := .int .i64 0) rfl
    have p0 := bR.free 0
    have p1 := bR.free 1
    have p2 := bR.free 2
    have p3 := bR.free 3
    have S4 := Lib.hid (bR.put4 (.int .i64 (800 + v)) (.int .i64 (1000 + u)) (.int .i64 x9) (.int .i64 y))
    go_wp2_with fail
    have d0 := S4.out.cell 0 (v := .int .i64 (800 + v)) rfl
    have d1 := S4.out.cell 1 (v := .int .i64 (1000 + u)) rfl
    have d2 := S4.out.cell 2 (v := .int .i64 x9) rfl
    have d3 := S4.out.cell 3 (v := .int .i64 y) rfl
    exact bodyPost_ret (v := .agg #[.int .i64 (800 + v), .int .i64 (1000 + u), .int .i64 x9, .int .i64 y]) (by simp [results, Try.results52, go_sem, d0, d1, d2, d3]) rfl (DrTm.mk_ ((hs7.above _ (by omega)).put4 (by omega) _ _ _ _) (only_put4 (only_above ho7 _ (by omega)) (Nat.le_refl _) _ _ _ _))
  have s_1' : (s == 1) = false := by simpa using s_1
  by_cases s_2 : s = 2
  · subst s_2
    go_wp2_with fail
    refine (pick_lit g N C B A l [-1, 20000, 20001] _ _ w6 rfl rfl hs6 hc6 hl hB hN (by simp) (by simp)).mono ?_
    rintro e' w7 ⟨x9, rfl, hx9, hs7, hq7⟩
    have z7 := hq7.size
    have hc7 := hc6.only hq7 (by omega) (by omega)
    have ho7 := ho6.trans hq7
    have b7_0 := b6_0.only hq7 (.inr (by omega))
    have b7_1 := b6_1.only hq7 (.inr (by omega))
    have hl7 := hs7.lt
    clear hs6 hc6 ho6 hq7 b6_0 b6_1
    clear hx9
    have hne : w.heap.size ≠ w4.heap.size := by omega
    have f0 := b7_1.cell 3 (v := .int .i64 y) rfl
    have f1 := b7_1.free 3
    have bT := b7_1.set 3 (.int .i64 x9)
    have bR := b7_0.other ⟨w4.heap.size, 3, none⟩ (.int .i64 x9) hne
    have c0 := bT.cell 0 (v := .int .i64 (800 + v)) rfl
    have c1 := bT.cell 1 (v := .int .i64 (1000 + u)) rfl
    have c2 := bT.cell 2 (v := .int .i64 x) rfl
    have c3 := bT.cell 3 (v := .int .i64 x9) rfl
    have r0 := bR.cell 0 (v := .int .i64 0) rfl
    have r1 := bR.cell 1 (v := .int .i64 0) rfl
    have r2 := bR.cell 2 (v := .int .i64 0) rfl
    have r3 := bR.cell 3 (v := .int .i64 0) rfl
    have p0 := bR.free 0
    have p1 := bR.free 1
    have p2 := bR.free 2
    have p3 := bR.free 3
    have S4 := Lib.hid (bR.put4 (.int .i64 (800 + v)) (.int .i64 (1000 + u)) (.int .i64 x) (.int .i64 x9))
    go_wp2_with fail
    have d0 := S4.out.cell 0 (v := .int .i64 (800 + v)) rfl
    have d1 := S4.out.cell 1 (v := .int .i64 (1000 + u)) rfl
    have d2 := S4.out.cell 2 (v := .int .i64 x) rfl
    have d3 := S4.out.cell 3 (v := .int .i64 x9) rfl
    exact bodyPost_ret (v := .agg #[.int .i64 (800 + v), .int .i64 (1000 + u), .int .i64 x, .int .i64 x9]) (by simp [results, Try.results52, go_sem, d0, d1, d2, d3]) rfl (DrTm.mk_ ((hs7.above _ (by omega)).put4 (by omega) _ _ _ _) (only_put4 (only_above ho7 _ (by omega)) (Nat.le_refl _) _ _ _ _))
  have s_2' : (s == 2) = false := by simpa using s_2
  have c0 := b6_1.cell 0 (v := .int .i64 (800 + v)) rfl
  have c1 := b6_1.cell 1 (v := .int .i64 (1000 + u)) rfl
  have c2 := b6_1.cell 2 (v := .int .i64 x) rfl
  have c3 := b6_1.cell 3 (v := .int .i64 y) rfl
  have r0 := b6_0.cell 0 (v := .int .i64 0) rfl
  have r1 := b6_0.cell 1 (v := .int .i64 0) rfl
  have r2 := b6_0.cell 2 (v := .int .i64 0) rfl
  have r3 := b6_0.cell 3 (v := .int .i64 0) rfl
  have p0 := b6_0.free 0
  have p1 := b6_0.free 1
  have p2 := b6_0.free 2
  have p3 := b6_0.free 3
  have S4 := Lib.hid (b6_0.put4 (.int .i64 (800 + v)) (.int .i64 (1000 + u)) (.int .i64 x) (.int .i64 y))
  go_wp2_with fail
  have d0 := S4.out.cell 0 (v := .int .i64 (800 + v)) rfl
  have d1 := S4.out.cell 1 (v := .int .i64 (1000 + u)) rfl
  have d2 := S4.out.cell 2 (v := .int .i64 x) rfl
  have d3 := S4.out.cell 3 (v := .int .i64 y) rfl
  exact bodyPost_ret (v := .agg #[.int .i64 (800 + v), .int .i64 (1000 + u), .int .i64 x, .int .i64 y]) (by simp [results, Try.results52, go_sem, d0, d1, d2, d3]) rfl (DrTm.mk_ (hs6.put4 (by omega) _ _ _ _) (only_put4 ho6 (Nat.le_refl _) _ _ _ _))
end Go.Proofs.Ythepfejoneeaeaa
