/- Contract of the draw of a press sheet with a trim, out of a source. -/
import Derived.Test.YthepfejoneeaeaaPrDw
namespace Go.Proofs.Ythepfejoneeaeaa
open Go.RowKit

theorem Blk.keep4 {w : World} {k g : Nat} {cs : Array Value} {t : TypeId} (h : Blk w k cs t) (hne : k ≠ g) (v0 v1 v2 v3 : Value) : Blk (put4w w g v0 v1 v2 v3) k cs t :=
  (((h.other ⟨g, 0, none⟩ v0 hne).other ⟨g, 1, none⟩ v1 hne).other ⟨g, 2, none⟩ v2 hne).other ⟨g, 3, none⟩ v3 hne
theorem Blk.drew_ {w : World} {k : Nat} {cs : Array Value} {t : TypeId} (h : Blk w k cs t) : Blk w.drew k cs t := h
/-- Four cells of one block. -/
abbrev FourV (V : World) (g : Nat) (v0 v1 v2 v3 : Value) : Prop := V.cell? ⟨g, 0, none⟩ = some v0 ∧ V.cell? ⟨g, 1, none⟩ = some v1 ∧ V.cell? ⟨g, 2, none⟩ = some v2 ∧ V.cell? ⟨g, 3, none⟩ = some v3
theorem Blk.four {w : World} {k : Nat} {v0 v1 v2 v3 : Value} {t : TypeId} (h : Blk w k #[v0, v1, v2, v3] t) : FourV w k v0 v1 v2 v3 := ⟨h.cell 0 rfl, h.cell 1 rfl, h.cell 2 rfl, h.cell 3 rfl⟩

set_option maxRecDepth 100000 in
set_option maxHeartbeats 8000000 in
theorem draw8_any (g N C B : Nat) (A : Option Addr) (l : List Int) (w : World) (hs : Src w g A N C) (hc : Rd U w B A N l) (hl : inByte l) (hB : B ≤ g) (hN : N ≤ 1048576) :
    Calls Try.prog 38 #[.pointer (some ⟨g, 0, none⟩)] w fun e' w' => DrPT w g N C A e' w' := by
  have hlt := hs.lt
  go_enter Try.func38, Try.ntmps38
  go_wp2_with fail
  generalize hW : (w.alloc (.cells #[.int .i64 0, .int .i64 0, .int .i64 0, .bool false] 25)).alloc (.cells #[.int .i64 0, .int .i64 0, .int .i64 0, .int .i64 0] 27) = w0
  have hb0 : Below w.heap.size w w0 := by rw [← hW]; exact ((below_new w (.cells #[.int .i64 0, .int .i64 0, .int .i64 0, .bool false] 25)).alloc (by simp <;> omega) (.cells #[.int .i64 0, .int .i64 0, .int .i64 0, .int .i64 0] 27))
  have z0 : w0.heap.size = w.heap.size + 2 := by rw [← hW]; simp
  have b0_0 : Blk w0 (w.heap.size) #[.int .i64 0, .int .i64 0, .int .i64 0, .bool false] 25 := by rw [← hW]; exact ((Blk.new (w := w) (g := w.heap.size) #[.int .i64 0, .int .i64 0, .int .i64 0, .bool false] 25 (by simp)).alloc (.cells #[.int .i64 0, .int .i64 0, .int .i64 0, .int .i64 0] 27))
  have b0_1 : Blk w0 (w.heap.size + 1) #[.int .i64 0, .int .i64 0, .int .i64 0, .int .i64 0] 27 := by rw [← hW]; exact (Blk.new (w := (w.alloc (.cells #[.int .i64 0, .int .i64 0, .int .i64 0, .bool false] 25))) (g := w.heap.size + 1) #[.int .i64 0, .int .i64 0, .int .i64 0, .int .i64 0] 27 (by simp))
  have hs0 := hs.below hb0 hlt
  have hc0 := hc.below hb0 (by omega)
  have ho0 := Only.of_below hb0 g (g + 1)
  clear hs hc
  have hl0 := hs0.lt
  clear hW hb0
  refine (l01Next_any g N C B A l _ _ hs0 hc0 hl hB hN (by omega)).mono ?_
  rintro e' w1 ⟨v, rfl, v0, v1, _, hs1, hq1⟩
  have z1 := hq1.size
  have hc1 := hc0.only hq1 (by omega) (by omega)
  have ho1 := ho0.trans hq1
  have b1_0 := b0_0.only hq1 (.inr (by omega))
  have b1_1 := b0_1.only hq1 (.inr (by omega))
  have hl1 := hs1.lt
  clear hs0 hc0 ho0 hq1 b0_0 b0_1
  have v2 : v < 7000 := v1 (by decide)
  clear v1
  have y1 : IntKind.i64.wrap (3000 + v) = 3000 + v := IntWalk.i64_in _ (by omega)
  go_wp2_with fail
  refine (l01Next_any g N C B A l _ _ hs1 hc1 hl hB hN (by omega)).mono ?_
  rintro e' w2 ⟨u, rfl, u0, u1, _, hs2, hq2⟩
  have z2 := hq2.size
  have hc2 := hc1.only hq2 (by omega) (by omega)
  have ho2 := ho1.trans hq2
  have b2_0 := b1_0.only hq2 (.inr (by omega))
  have b2_1 := b1_1.only hq2 (.inr (by omega))
  have hl2 := hs2.lt
  clear hs1 hc1 ho1 hq2 b1_0 b1_1
  have u2 : u < 7000 := u1 (by decide)
  clear u1
  have y2 : IntKind.i64.wrap (3000 + u) = 3000 + u := IntWalk.i64_in _ (by omega)
  have y3 : IntKind.i64.wrap (3000 + u - 1) = 3000 + u - 1 := IntWalk.i64_in _ (by omega)
  go_wp2_with fail
  refine (pick_lit g N C B A l [0, 100, 150] _ _ w2 rfl rfl hs2 hc2 hl hB hN (by simp) (by simp)).mono ?_
  rintro e' w3 ⟨x, rfl, hx, hs3, hq3⟩
  have z3 := hq3.size
  have hc3 := hc2.only hq3 (by omega) (by omega)
  have ho3 := ho2.trans hq3
  have b3_0 := b2_0.only hq3 (.inr (by omega))
  have b3_1 := b2_1.only hq3 (.inr (by omega))
  have hl3 := hs3.lt
  clear hs2 hc2 ho2 hq3 b2_0 b2_1
  clear hx
  go_wp2_with fail
  refine (l01Next_any g N C B A l _ _ hs3 hc3 hl hB hN (by omega)).mono ?_
  rintro e' w4 ⟨y, rfl, y0, y1, _, hs4, hq4⟩
  have z4 := hq4.size
  have hc4 := hc3.only hq4 (by omega) (by omega)
  have ho4 := ho3.trans hq4
  have b4_0 := b3_0.only hq4 (.inr (by omega))
  have b4_1 := b3_1.only hq4 (.inr (by omega))
  have hl4 := hs4.lt
  clear hs3 hc3 ho3 hq4 b3_0 b3_1
  have y2 : y < 2 := y1 (by decide)
  clear y1
  obtain ⟨rb, hrb⟩ : ∃ rb : Bool, (y == 0) = rb := ⟨_, rfl⟩
  have hrb2 : decide (y = 0) = rb := by rw [← hrb]; rfl
  go_wp2_with fail
  generalize hW : w4.alloc (.cells #[.int .i64 (3000 + v), .int .i64 (3000 + u), .int .i64 x, .bool rb] 25) = w5
  have hb5 : Below w4.heap.size w4 w5 := by rw [← hW]; exact (below_new w4 (.cells #[.int .i64 (3000 + v), .int .i64 (3000 + u), .int .i64 x, .bool rb] 25))
  have z5 : w5.heap.size = w4.heap.size + 1 := by rw [← hW]; simp
  have b5_0 := b4_0.below hb5 b4_0.lt
  have b5_1 := b4_1.below hb5 b4_1.lt
  have b5_2 : Blk w5 (w4.heap.size) #[.int .i64 (3000 + v), .int .i64 (3000 + u), .int .i64 x, .bool rb] 25 := by rw [← hW]; exact (Blk.new (w := w4) (g := w4.heap.size) #[.int .i64 (3000 + v), .int .i64 (3000 + u), .int .i64 x, .bool rb] 25 (by simp))
  have hs5 := hs4.below hb5 hs4.lt
  have hc5 := hc4.below hb5 (by omega)
  have ho5 := ho4.then_below hb5 ho4.size
  clear hs4 hc4 ho4
  clear b4_0
  clear b4_1
  have hl5 := hs5.lt
  clear hW hb5
  refine (l01Next_any g N C B A l _ _ hs5 hc5 hl hB hN (by omega)).mono ?_
  rintro e' w6 ⟨s, rfl, s0, s1, _, hs6, hq6⟩
  have z6 := hq6.size
  have hc6 := hc5.only hq6 (by omega) (by omega)
  have ho6 := ho5.trans hq6
  have b6_0 := b5_0.only hq6 (.inr (by omega))
  have b6_1 := b5_1.only hq6 (.inr (by omega))
  have b6_2 := b5_2.only hq6 (.inr (by omega))
  have hl6 := hs6.lt
  clear hs5 hc5 ho5 hq6 b5_0 b5_1 b5_2
  have s2 : s < 40 := s1 (by decide)
  clear s1
  by_cases s_0 : s = 0
  · subst s_0
    go_wp2_with fail
    refine (pick_lit g N C B A l [0, 1, 20000, 20001] _ _ w6 rfl rfl hs6 hc6 hl hB hN (by simp) (by simp)).mono ?_
    rintro e' w7 ⟨x9, rfl, hx9, hs7, hq7⟩
    have z7 := hq7.size
    have hc7 := hc6.only hq7 (by omega) (by omega)
    have ho7 := ho6.trans hq7
    have b7_0 := b6_0.only hq7 (.inr (by omega))
    have b7_1 := b6_1.only hq7 (.inr (by omega))
    have b7_2 := b6_2.only hq7 (.inr (by omega))
    have hl7 := hs7.lt
    clear hs6 hc6 ho6 hq7 b6_0 b6_1 b6_2
    clear hx9
    have f0 := b7_2.cell 1 (v := .int .i64 (3000 + u)) rfl
    have f1 := b7_2.free 1
    go_wp2_with fail
    generalize hV : w7.setCell ⟨w4.heap.size, 1, none⟩ (.int .i64 x9) = w20
    have b20_2 : Blk w20 (w4.heap.size) #[.int .i64 (3000 + v), .int .i64 x9, .int .i64 x, .bool rb] 25 := by rw [← hV]; exact b7_2.set 1 (.int .i64 x9)
    have b20_0 : Blk w20 w.heap.size #[.int .i64 0, .int .i64 0, .int .i64 0, .bool false] 25 := by rw [← hV]; exact b7_0.other _ _ (show w.heap.size ≠ w4.heap.size by omega)
    have b20_1 : Blk w20 (w.heap.size + 1) #[.int .i64 0, .int .i64 0, .int .i64 0, .int .i64 0] 27 := by rw [← hV]; exact b7_1.other _ _ (show w.heap.size + 1 ≠ w4.heap.size by omega)
    have hs20 : Src w20 g A N C := by rw [← hV]; exact hs7.above _ (by omega)
    have ho20 : Only g (g + 1) w w20 := by rw [← hV]; exact only_above ho7 _ (by omega)
    have hc20 : Rd U w20 B A N l := by rw [← hV]; exact hc7.only (only_set (Only.refl (w4.heap.size) (w4.heap.size + 1) w7) _ (Nat.le_refl _) (Nat.lt_succ_self _)) (by omega) (by omega)
    have z20 : w20.heap.size = w7.heap.size := by rw [← hV]; simp
    clear hV f0 f1 hs7 hc7 ho7 b7_0 b7_1 b7_2
    have HC : Calls Try.prog 52 #[.pointer (some ⟨g, 0, none⟩)] w20.drew fun e' w' => ∃ c d e f, e' = .returned (TV c d e f) ∧ Src w' g A N C ∧ Only g (g + 1) w20.drew w' := drawTm_any g N C B A l w20.drew (hs20.q (Q.drewN _ 1)) (hc20.drewN 1) hl hB hN
    have hSa : FourV w20.drew (w4.heap.size) (.int .i64 (3000 + v)) (.int .i64 x9) (.int .i64 x) (.bool rb) := b20_2.drew_.four
    obtain ⟨c0_, c1_, c2_, c3_⟩ := b20_2.four
    have hk20 := hs20.lt
    go_region_held3 (fun V => V.cell? ⟨w4.heap.size, 0, none⟩ = some (.int .i64 (3000 + v)) ∧ V.cell? ⟨w4.heap.size, 1, none⟩ = some (.int .i64 x9) ∧ V.cell? ⟨w4.heap.size, 2, none⟩ = some (.int .i64 x) ∧ V.cell? ⟨w4.heap.size, 3, none⟩ = some (.bool rb))
      (first | with_reducible exact hSa | with_reducible exact hSb | with_reducible exact hSc | with_reducible exact hSd | go_keep)
      (first
        | (go_at_call 52; with_reducible refine HC.mono ?_; rintro e' w21 ⟨c9, d9, e9, f9, rfl, hs21, hq21⟩; have bP := b20_2.drew_.only hq21 (.inr (by omega)); have bR := b20_0.drew_.only hq21 (.inr (by omega)); have bQ := b20_1.drew_.only hq21 (.inr (by omega)); have hSb : FourV w21 (w4.heap.size) (.int .i64 (3000 + v)) (.int .i64 x9) (.int .i64 x) (.bool rb) := bP.four; have bQ2 := bQ.keep4 (show w.heap.size + 1 ≠ w.heap.size by omega) (.int .i64 (3000 + v)) (.int .i64 x9) (.int .i64 x) (.bool rb); have hSc : FourV (put4w w21 w.heap.size (.int .i64 (3000 + v)) (.int .i64 x9) (.int .i64 x) (.bool rb)) (w4.heap.size) (.int .i64 (3000 + v)) (.int .i64 x9) (.int .i64 x) (.bool rb) := (bP.keep4 (show w4.heap.size ≠ w.heap.size by omega) _ _ _ _).four; have hSd : FourV (put4w (put4w w21 w.heap.size (.int .i64 (3000 + v)) (.int .i64 x9) (.int .i64 x) (.bool rb)) (w.heap.size + 1) (.int .i64 c9) (.int .i64 d9) (.int .i64 e9) (.int .i64 f9)) (w4.heap.size) (.int .i64 (3000 + v)) (.int .i64 x9) (.int .i64 x) (.bool rb) := ((bP.keep4 (show w4.heap.size ≠ w.heap.size by omega) _ _ _ _).keep4 (show w4.heap.size ≠ w.heap.size + 1 by omega) _ _ _ _).four; obtain ⟨x0, x1, x2, x3⟩ := bR.four; have p0 := bR.free 0; have p1 := bR.free 1; have p2 := bR.free 2; have p3 := bR.free 3; obtain ⟨q0, q1, q2, q3⟩ := bQ2.four; have r0 := bQ2.free 0; have r1 := bQ2.free 1; have r2 := bQ2.free 2; have r3 := bQ2.free 3))
    have S4 := Lib.hid ((bR.put4 (.int .i64 (3000 + v)) (.int .i64 x9) (.int .i64 x) (.bool rb)).keep4 (show w.heap.size ≠ w.heap.size + 1 by omega) (.int .i64 c9) (.int .i64 d9) (.int .i64 e9) (.int .i64 f9))
    have S5 := Lib.hid (bQ2.put4 (.int .i64 c9) (.int .i64 d9) (.int .i64 e9) (.int .i64 f9))
    go_wp2_with fail
    obtain ⟨d0, d1, d2, d3⟩ := S4.out.four
    obtain ⟨g0, g1, g2, g3⟩ := S5.out.four
    have ho21 := (show Only g (g + 1) w w20.drew from ho20.drewN 1).trans hq21
    exact bodyPost_ret (v := .tuple #[.agg #[.int .i64 (3000 + v), .int .i64 x9, .int .i64 x, .bool rb], TV c9 d9 e9 f9]) (by simp [results, Try.results38, go_sem, d0, d1, d2, d3, g0, g1, g2, g3]) rfl (DrPT.mk_ ((hs21.put4 (by omega) _ _ _ _).put4 (by omega) _ _ _ _) (only_put4 (only_put4 ho21 (Nat.le_refl _) _ _ _ _) (by omega) _ _ _ _))
  have s_0' : (s == 0) = false := by simpa using s_0
  by_cases s_1 : s = 1
  · subst s_1
    have h1_ := b6_2.cell 1 (v := .int .i64 (3000 + u)) rfl
    go_wp2_with fail
    refine (pick_lit g N C B A l [-1, 3000 + u - 1, 3000 + u] _ _ w6 rfl rfl hs6 hc6 hl hB hN (by simp) (by simp)).mono ?_
    rintro e' w7 ⟨x9, rfl, hx9, hs7, hq7⟩
    have z7 := hq7.size
    have hc7 := hc6.only hq7 (by omega) (by omega)
    have ho7 := ho6.trans hq7
    have b7_0 := b6_0.only hq7 (.inr (by omega))
    have b7_1 := b6_1.only hq7 (.inr (by omega))
    have b7_2 := b6_2.only hq7 (.inr (by omega))
    have hl7 := hs7.lt
    clear hs6 hc6 ho6 hq7 b6_0 b6_1 b6_2
    clear hx9
    clear h1_
    have f0 := b7_2.cell 2 (v := .int .i64 x) rfl
    have f1 := b7_2.free 2
    go_wp2_with fail
    generalize hV : w7.setCell ⟨w4.heap.size, 2, none⟩ (.int .i64 x9) = w20
    have b20_2 : Blk w20 (w4.heap.size) #[.int .i64 (3000 + v), .int .i64 (3000 + u), .int .i64 x9, .bool rb] 25 := by rw [← hV]; exact b7_2.set 2 (.int .i64 x9)
    have b20_0 : Blk w20 w.heap.size #[.int .i64 0, .int .i64 0, .int .i64 0, .bool false] 25 := by rw [← hV]; exact b7_0.other _ _ (show w.heap.size ≠ w4.heap.size by omega)
    have b20_1 : Blk w20 (w.heap.size + 1) #[.int .i64 0, .int .i64 0, .int .i64 0, .int .i64 0] 27 := by rw [← hV]; exact b7_1.other _ _ (show w.heap.size + 1 ≠ w4.heap.size by omega)
    have hs20 : Src w20 g A N C := by rw [← hV]; exact hs7.above _ (by omega)
    have ho20 : Only g (g + 1) w w20 := by rw [← hV]; exact only_above ho7 _ (by omega)
    have hc20 : Rd U w20 B A N l := by rw [← hV]; exact hc7.only (only_set (Only.refl (w4.heap.size) (w4.heap.size + 1) w7) _ (Nat.le_refl _) (Nat.lt_succ_self _)) (by omega) (by omega)
    have z20 : w20.heap.size = w7.heap.size := by rw [← hV]; simp
    clear hV f0 f1 hs7 hc7 ho7 b7_0 b7_1 b7_2
    have HC : Calls Try.prog 52 #[.pointer (some ⟨g, 0, none⟩)] w20.drew fun e' w' => ∃ c d e f, e' = .returned (TV c d e f) ∧ Src w' g A N C ∧ Only g (g + 1) w20.drew w' := drawTm_any g N C B A l w20.drew (hs20.q (Q.drewN _ 1)) (hc20.drewN 1) hl hB hN
    have hSa : FourV w20.drew (w4.heap.size) (.int .i64 (3000 + v)) (.int .i64 (3000 + u)) (.int .i64 x9) (.bool rb) := b20_2.drew_.four
    obtain ⟨c0_, c1_, c2_, c3_⟩ := b20_2.four
    have hk20 := hs20.lt
    go_region_held3 (fun V => V.cell? ⟨w4.heap.size, 0, none⟩ = some (.int .i64 (3000 + v)) ∧ V.cell? ⟨w4.heap.size, 1, none⟩ = some (.int .i64 (3000 + u)) ∧ V.cell? ⟨w4.heap.size, 2, none⟩ = some (.int .i64 x9) ∧ V.cell? ⟨w4.heap.size, 3, none⟩ = some (.bool rb))
      (first | with_reducible exact hSa | with_reducible exact hSb | with_reducible exact hSc | with_reducible exact hSd | go_keep)
      (first
        | (go_at_call 52; with_reducible refine HC.mono ?_; rintro e' w21 ⟨c9, d9, e9, f9, rfl, hs21, hq21⟩; have bP := b20_2.drew_.only hq21 (.inr (by omega)); have bR := b20_0.drew_.only hq21 (.inr (by omega)); have bQ := b20_1.drew_.only hq21 (.inr (by omega)); have hSb : FourV w21 (w4.heap.size) (.int .i64 (3000 + v)) (.int .i64 (3000 + u)) (.int .i64 x9) (.bool rb) := bP.four; have bQ2 := bQ.keep4 (show w.heap.size + 1 ≠ w.heap.size by omega) (.int .i64 (3000 + v)) (.int .i64 (3000 + u)) (.int .i64 x9) (.bool rb); have hSc : FourV (put4w w21 w.heap.size (.int .i64 (3000 + v)) (.int .i64 (3000 + u)) (.int .i64 x9) (.bool rb)) (w4.heap.size) (.int .i64 (3000 + v)) (.int .i64 (3000 + u)) (.int .i64 x9) (.bool rb) := (bP.keep4 (show w4.heap.size ≠ w.heap.size by omega) _ _ _ _).four; have hSd : FourV (put4w (put4w w21 w.heap.size (.int .i64 (3000 + v)) (.int .i64 (3000 + u)) (.int .i64 x9) (.bool rb)) (w.heap.size + 1) (.int .i64 c9) (.int .i64 d9) (.int .i64 e9) (.int .i64 f9)) (w4.heap.size) (.int .i64 (3000 + v)) (.int .i64 (3000 + u)) (.int .i64 x9) (.bool rb) := ((bP.keep4 (show w4.heap.size ≠ w.heap.size by omega) _ _ _ _).keep4 (show w4.heap.size ≠ w.heap.size + 1 by omega) _ _ _ _).four; obtain ⟨x0, x1, x2, x3⟩ := bR.four; have p0 := bR.free 0; have p1 := bR.free 1; have p2 := bR.free 2; have p3 := bR.free 3; obtain ⟨q0, q1, q2, q3⟩ := bQ2.four; have r0 := bQ2.free 0; have r1 := bQ2.free 1; have r2 := bQ2.free 2; have r3 := bQ2.free 3))
    have S4 := Lib.hid ((bR.put4 (.int .i64 (3000 + v)) (.int .i64 (3000 + u)) (.int .i64 x9) (.bool rb)).keep4 (show w.heap.size ≠ w.heap.size + 1 by omega) (.int .i64 c9) (.int .i64 d9) (.int .i64 e9) (.int .i64 f9))
    have S5 := Lib.hid (bQ2.put4 (.int .i64 c9) (.int .i64 d9) (.int .i64 e9) (.int .i64 f9))
    go_wp2_with fail
    obtain ⟨d0, d1, d2, d3⟩ := S4.out.four
    obtain ⟨g0, g1, g2, g3⟩ := S5.out.four
    have ho21 := (show Only g (g + 1) w w20.drew from ho20.drewN 1).trans hq21
    exact bodyPost_ret (v := .tuple #[.agg #[.int .i64 (3000 + v), .int .i64 (3000 + u), .int .i64 x9, .bool rb], TV c9 d9 e9 f9]) (by simp [results, Try.results38, go_sem, d0, d1, d2, d3, g0, g1, g2, g3]) rfl (DrPT.mk_ ((hs21.put4 (by omega) _ _ _ _).put4 (by omega) _ _ _ _) (only_put4 (only_put4 ho21 (Nat.le_refl _) _ _ _ _) (by omega) _ _ _ _))
  have s_1' : (s == 1) = false := by simpa using s_1
  by_cases s_2 : s = 2
  · subst s_2
    go_wp2_with fail
    refine (pick_lit g N C B A l [1, 0, 900] _ _ w6 rfl rfl hs6 hc6 hl hB hN (by simp) (by simp)).mono ?_
    rintro e' w7 ⟨x9, rfl, hx9, hs7, hq7⟩
    have z7 := hq7.size
    have hc7 := hc6.only hq7 (by omega) (by omega)
    have ho7 := ho6.trans hq7
    have b7_0 := b6_0.only hq7 (.inr (by omega))
    have b7_1 := b6_1.only hq7 (.inr (by omega))
    have b7_2 := b6_2.only hq7 (.inr (by omega))
    have hl7 := hs7.lt
    clear hs6 hc6 ho6 hq7 b6_0 b6_1 b6_2
    clear hx9
    have f0 := b7_2.cell 0 (v := .int .i64 (3000 + v)) rfl
    have f1 := b7_2.free 0
    go_wp2_with fail
    generalize hV : w7.setCell ⟨w4.heap.size, 0, none⟩ (.int .i64 x9) = w20
    have b20_2 : Blk w20 (w4.heap.size) #[.int .i64 x9, .int .i64 (3000 + u), .int .i64 x, .bool rb] 25 := by rw [← hV]; exact b7_2.set 0 (.int .i64 x9)
    have b20_0 : Blk w20 w.heap.size #[.int .i64 0, .int .i64 0, .int .i64 0, .bool false] 25 := by rw [← hV]; exact b7_0.other _ _ (show w.heap.size ≠ w4.heap.size by omega)
    have b20_1 : Blk w20 (w.heap.size + 1) #[.int .i64 0, .int .i64 0, .int .i64 0, .int .i64 0] 27 := by rw [← hV]; exact b7_1.other _ _ (show w.heap.size + 1 ≠ w4.heap.size by omega)
    have hs20 : Src w20 g A N C := by rw [← hV]; exact hs7.above _ (by omega)
    have ho20 : Only g (g + 1) w w20 := by rw [← hV]; exact only_above ho7 _ (by omega)
    have hc20 : Rd U w20 B A N l := by rw [← hV]; exact hc7.only (only_set (Only.refl (w4.heap.size) (w4.heap.size + 1) w7) _ (Nat.le_refl _) (Nat.lt_succ_self _)) (by omega) (by omega)
    have z20 : w20.heap.size = w7.heap.size := by rw [← hV]; simp
    clear hV f0 f1 hs7 hc7 ho7 b7_0 b7_1 b7_2
    have HC : Calls Try.prog 52 #[.pointer (some ⟨g, 0, none⟩)] w20.drew fun e' w' => ∃ c d e f, e' = .returned (TV c d e f) ∧ Src w' g A N C ∧ Only g (g + 1) w20.drew w' := drawTm_any g N C B A l w20.drew (hs20.q (Q.drewN _ 1)) (hc20.drewN 1) hl hB hN
    have hSa : FourV w20.drew (w4.heap.size) (.int .i64 x9) (.int .i64 (3000 + u)) (.int .i64 x) (.bool rb) := b20_2.drew_.four
    obtain ⟨c0_, c1_, c2_, c3_⟩ := b20_2.four
    have hk20 := hs20.lt
    go_region_held3 (fun V => V.cell? ⟨w4.heap.size, 0, none⟩ = some (.int .i64 x9) ∧ V.cell? ⟨w4.heap.size, 1, none⟩ = some (.int .i64 (3000 + u)) ∧ V.cell? ⟨w4.heap.size, 2, none⟩ = some (.int .i64 x) ∧ V.cell? ⟨w4.heap.size, 3, none⟩ = some (.bool rb))
      (first | with_reducible exact hSa | with_reducible exact hSb | with_reducible exact hSc | with_reducible exact hSd | go_keep)
      (first
        | (go_at_call 52; with_reducible refine HC.mono ?_; rintro e' w21 ⟨c9, d9, e9, f9, rfl, hs21, hq21⟩; have bP := b20_2.drew_.only hq21 (.inr (by omega)); have bR := b20_0.drew_.only hq21 (.inr (by omega)); have bQ := b20_1.drew_.only hq21 (.inr (by omega)); have hSb : FourV w21 (w4.heap.size) (.int .i64 x9) (.int .i64 (3000 + u)) (.int .i64 x) (.bool rb) := bP.four; have bQ2 := bQ.keep4 (show w.heap.size + 1 ≠ w.heap.size by omega) (.int .i64 x9) (.int .i64 (3000 + u)) (.int .i64 x) (.bool rb); have hSc : FourV (put4w w21 w.heap.size (.int .i64 x9) (.int .i64 (3000 + u)) (.int .i64 x) (.bool rb)) (w4.heap.size) (.int .i64 x9) (.int .i64 (3000 + u)) (.int .i64 x) (.bool rb) := (bP.keep4 (show w4.heap.size ≠ w.heap.size by omega) _ _ _ _).four; have hSd : FourV (put4w (put4w w21 w.heap.size (.int .i64 x9) (.int .i64 (3000 + u)) (.int .i64 x) (.bool rb)) (w.heap.size + 1) (.int .i64 c9) (.int .i64 d9) (.int .i64 e9) (.int .i64 f9)) (w4.heap.size) (.int .i64 x9) (.int .i64 (3000 + u)) (.int .i64 x) (.bool rb) := ((bP.keep4 (show w4.heap.size ≠ w.heap.size by omega) _ _ _ _).keep4 (show w4.heap.size ≠ w.heap.size + 1 by omega) _ _ _ _).four; obtain ⟨x0, x1, x2, x3⟩ := bR.four; have p0 := bR.free 0; have p1 := bR.free 1; have p2 := bR.free 2; have p3 := bR.free 3; obtain ⟨q0, q1, q2, q3⟩ := bQ2.four; have r0 := bQ2.free 0; have r1 := bQ2.free 1; have r2 := bQ2.free 2; have r3 := bQ2.free 3))
    have S4 := Lib.hid ((bR.put4 (.int .i64 x9) (.int .i64 (3000 + u)) (.int .i64 x) (.bool rb)).keep4 (show w.heap.size ≠ w.heap.size + 1 by omega) (.int .i64 c9) (.int .i64 d9) (.int .i64 e9) (.int .i64 f9))
    have S5 := Lib.hid (bQ2.put4 (.int .i64 c9) (.int .i64 d9) (.int .i64 e9) (.int .i64 f9))
    go_wp2_with fail
    obtain ⟨d0, d1, d2, d3⟩ := S4.out.four
    obtain ⟨g0, g1, g2, g3⟩ := S5.out.four
    have ho21 := (show Only g (g + 1) w w20.drew from ho20.drewN 1).trans hq21
    exact bodyPost_ret (v := .tuple #[.agg #[.int .i64 x9, .int .i64 (3000 + u), .int .i64 x, .bool rb], TV c9 d9 e9 f9]) (by simp [results, Try.results38, go_sem, d0, d1, d2, d3, g0, g1, g2, g3]) rfl (DrPT.mk_ ((hs21.put4 (by omega) _ _ _ _).put4 (by omega) _ _ _ _) (only_put4 (only_put4 ho21 (Nat.le_refl _) _ _ _ _) (by omega) _ _ _ _))
  have s_2' : (s == 2) = false := by simpa using s_2
  go_wp2_with fail
  have b20_0 := b6_0
  have b20_1 := b6_1
  have b20_2 := b6_2
  have hs20 := hs6
  have ho20 := ho6
  have hc20 := hc6
  have z20 : w6.heap.size = w6.heap.size := rfl
  have HC : Calls Try.prog 52 #[.pointer (some ⟨g, 0, none⟩)] w6.drew fun e' w' => ∃ c d e f, e' = .returned (TV c d e f) ∧ Src w' g A N C ∧ Only g (g + 1) w6.drew w' := drawTm_any g N C B A l w6.drew (hs20.q (Q.drewN _ 1)) (hc20.drewN 1) hl hB hN
  have hSa : FourV w6.drew (w4.heap.size) (.int .i64 (3000 + v)) (.int .i64 (3000 + u)) (.int .i64 x) (.bool rb) := b20_2.drew_.four
  obtain ⟨c0_, c1_, c2_, c3_⟩ := b20_2.four
  have hk20 := hs20.lt
  go_region_held3 (fun V => V.cell? ⟨w4.heap.size, 0, none⟩ = some (.int .i64 (3000 + v)) ∧ V.cell? ⟨w4.heap.size, 1, none⟩ = some (.int .i64 (3000 + u)) ∧ V.cell? ⟨w4.heap.size, 2, none⟩ = some (.int .i64 x) ∧ V.cell? ⟨w4.heap.size, 3, none⟩ = some (.bool rb))
    (first | with_reducible exact hSa | with_reducible exact hSb | with_reducible exact hSc | with_reducible exact hSd | go_keep)
    (first
      | (go_at_call 52; with_reducible refine HC.mono ?_; rintro e' w21 ⟨c9, d9, e9, f9, rfl, hs21, hq21⟩; have bP := b20_2.drew_.only hq21 (.inr (by omega)); have bR := b20_0.drew_.only hq21 (.inr (by omega)); have bQ := b20_1.drew_.only hq21 (.inr (by omega)); have hSb : FourV w21 (w4.heap.size) (.int .i64 (3000 + v)) (.int .i64 (3000 + u)) (.int .i64 x) (.bool rb) := bP.four; have bQ2 := bQ.keep4 (show w.heap.size + 1 ≠ w.heap.size by omega) (.int .i64 (3000 + v)) (.int .i64 (3000 + u)) (.int .i64 x) (.bool rb); have hSc : FourV (put4w w21 w.heap.size (.int .i64 (3000 + v)) (.int .i64 (3000 + u)) (.int .i64 x) (.bool rb)) (w4.heap.size) (.int .i64 (3000 + v)) (.int .i64 (3000 + u)) (.int .i64 x) (.bool rb) := (bP.keep4 (show w4.heap.size ≠ w.heap.size by omega) _ _ _ _).four; have hSd : FourV (put4w (put4w w21 w.heap.size (.int .i64 (3000 + v)) (.int .i64 (3000 + u)) (.int .i64 x) (.bool rb)) (w.heap.size + 1) (.int .i64 c9) (.int .i64 d9) (.int .i64 e9) (.int .i64 f9)) (w4.heap.size) (.int .i64 (3000 + v)) (.int .i64 (3000 + u)) (.int .i64 x) (.bool rb) := ((bP.keep4 (show w4.heap.size ≠ w.heap.size by omega) _ _ _ _).keep4 (show w4.heap.size ≠ w.heap.size + 1 by omega) _ _ _ _).four; obtain ⟨x0, x1, x2, x3⟩ := bR.four; have p0 := bR.free 0; have p1 := bR.free 1; have p2 := bR.free 2; have p3 := bR.free 3; obtain ⟨q0, q1, q2, q3⟩ := bQ2.four; have r0 := bQ2.free 0; have r1 := bQ2.free 1; have r2 := bQ2.free 2; have r3 := bQ2.free 3))
  have S4 := Lib.hid ((bR.put4 (.int .i64 (3000 + v)) (.int .i64 (3000 + u)) (.int .i64 x) (.bool rb)).keep4 (show w.heap.size ≠ w.heap.size + 1 by omega) (.int .i64 c9) (.int .i64 d9) (.int .i64 e9) (.int .i64 f9))
  have S5 := Lib.hid (bQ2.put4 (.int .i64 c9) (.int .i64 d9) (.int .i64 e9) (.int .i64 f9))
  go_wp2_with fail
  obtain ⟨d0, d1, d2, d3⟩ := S4.out.four
  obtain ⟨g0, g1, g2, g3⟩ := S5.out.four
  have ho21 := (show Only g (g + 1) w w6.drew from ho20.drewN 1).trans hq21
  exact bodyPost_ret (v := .tuple #[.agg #[.int .i64 (3000 + v), .int .i64 (3000 + u), .int .i64 x, .bool rb], TV c9 d9 e9 f9]) (by simp [results, Try.results38, go_sem, d0, d1, d2, d3, g0, g1, g2, g3]) rfl (DrPT.mk_ ((hs21.put4 (by omega) _ _ _ _).put4 (by omega) _ _ _ _) (only_put4 (only_put4 ho21 (Nat.le_refl _) _ _ _ _) (by omega) _ _ _ _))
end Go.Proofs.Ythepfejoneeaeaa
