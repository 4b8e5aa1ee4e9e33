/- Contract of the draw of a trim, of two numbers of pages and of a grip. -/
import Derived.Test.YthepfejoneeaeaaPrDx
namespace Go.Proofs.Ythepfejoneeaeaa
open Go.RowKit

set_option maxRecDepth 100000 in
set_option maxHeartbeats 8000000 in
theorem DrawLs_any (N C B : Nat) (A : Option Addr) (l : List Int) (w : World) (hc : Rd U w B A N l) (hl : inByte l) (hB : B ≤ w.heap.size) (hN : N ≤ 1048576) :
    Calls Try.prog 31 #[.slice A N C] w fun e' w' => DT3 w e' w' := by
  go_enter Try.func31, Try.ntmps31
  go_wp2_with fail
  generalize hW : w.alloc (.cells #[.int .i64 0, .int .i64 0, .int .i64 0, .int .i64 0] 27) = w0
  have hb0 : Below w.heap.size w w0 := by rw [← hW]; exact (below_new w (.cells #[.int .i64 0, .int .i64 0, .int .i64 0, .int .i64 0] 27))
  have z0 : w0.heap.size = w.heap.size + 1 := by rw [← hW]; simp
  have b0_0 : Blk w0 (w.heap.size) #[.int .i64 0, .int .i64 0, .int .i64 0, .int .i64 0] 27 := by rw [← hW]; exact (Blk.new (w := w) (g := w.heap.size) #[.int .i64 0, .int .i64 0, .int .i64 0, .int .i64 0] 27 (by simp))
  have hc0 := hc.below hb0 hB
  clear hW
  refine (l01From_ex N C B A l _ hc0 hl (by omega)).mono ?_
  rintro e' w1 ⟨g, rfl, hg, hs1, hb1⟩
  have z1 := hb1.size
  have hc1 := hc0.below hb1 (by omega)
  have hBg : B ≤ g := by omega
  have b1_0 := b0_0.below hb1 b0_0.lt
  clear hc0 b0_0
  have hB1 := hb0.trans (hb1.mono (by omega))
  clear hb0 hb1
  go_wp2_with fail
  refine (drawTm_any g N C B A l _ hs1 hc1 hl hBg hN).mono ?_
  rintro e' w2 ⟨c, d, e, f, rfl, hs2, hq2⟩
  have z2 := hq2.size
  have hl2 := hs2.lt
  have b2_0 := b1_0.only hq2 (.inl (by omega))
  have hc2 := hc1.only hq2 (by omega) (by omega)
  have hB2 := hB1.trans (hq2.below (B := w.heap.size) (by omega) (by omega))
  have hk2 : SrcC w2 g N C B A l := ⟨hs2, hc2, hBg⟩
  clear hs1 hc1 hs2 hc2 hB1 hq2 b1_0
  go_wp2_with fail
  generalize hW : w2.alloc (.cells #[.int .i64 c, .int .i64 d, .int .i64 e, .int .i64 f] 27) = w3
  have hb3 : Below w2.heap.size w2 w3 := by rw [← hW]; exact below_new w2 _
  have z3 : w3.heap.size = w2.heap.size + 1 := by rw [← hW]; simp
  have hk3 : SrcC w3 g N C B A l := by rw [← hW]; exact hk2.alloc _
  have k3 : Blk w3 w2.heap.size #[.int .i64 c, .int .i64 d, .int .i64 e, .int .i64 f] 27 := by rw [← hW]; exact Blk.new _ _ rfl
  have b3 := b2_0.below hb3 (by omega)
  have hB3 := hB2.trans (hb3.mono (by omega))
  clear hW hb3 hB2 b2_0 hk2
  have hne0 : w2.heap.size ≠ g := by omega
  have hne2 : w.heap.size ≠ g := by omega
  refine (next_ex g N C B A l 12 _ hk3 hl hN (by decide) (by decide)).mono ?_
  rintro e' w4 ⟨v, rfl, ⟨v_0, v_1⟩, hk4, hq4⟩
  have z4 := hq4.size
  have hl4 := hk4.lt
  have k4 := Blk.move k3 hq4 hne0
  have b4 := Blk.move b3 hq4 hne2
  have hB4 := hB3.trans (hq4.below (B := w.heap.size) (by omega) (by omega))
  clear hk3 k3 b3 hB3 hq4
  have hk4d := hk4.drew
  have hSa : FourV w4.drew w2.heap.size (.int .i64 c) (.int .i64 d) (.int .i64 e) (.int .i64 f) := k4.drew_.four
  obtain ⟨c0_, c1_, c2_, c3_⟩ := k4.four
  have hwg : w.heap.size ≤ g := by omega
  have hw24 : w2.heap.size < w4.heap.size := by omega
  by_cases hv : v = 0
  · subst hv
    go_wp2_with fail
    go_region_held3 (fun V => V.cell? ⟨w2.heap.size, 0, none⟩ = some (.int .i64 c) ∧ V.cell? ⟨w2.heap.size, 1, none⟩ = some (.int .i64 d) ∧ V.cell? ⟨w2.heap.size, 2, none⟩ = some (.int .i64 e) ∧ V.cell? ⟨w2.heap.size, 3, none⟩ = some (.int .i64 f))
      (first | with_reducible exact hSa | with_reducible exact hS5 | with_reducible exact hS6 | with_reducible exact hS7 | with_reducible exact hSc | (with_reducible refine Blk.four (t := 27) ?_; repeat' (first | with_reducible assumption | with_reducible refine Blk.drew_ ?_ | with_reducible refine Blk.alloc ?_ _)) | go_keep)
      (first
        | (go_at_call 53; with_reducible refine (pick_ex g N C B _ 4 A l [-1, 0, 20000, 20001] #[.int .i64 (-1), .int .i64 0, .int .i64 20000, .int .i64 20001] _ ?_ hl hN ?_ rfl rfl (by decide) (by decide) ?_).mono ?_; (focus ((repeat' (first | with_reducible assumption | with_reducible refine SrcC.alloc ?_ _ | with_reducible refine SrcC.drew ?_)); done)); (focus ((repeat' (first | with_reducible assumption | omega | (with_reducible refine Blk.new _ _ ?_ <;> (simp; done)) | with_reducible refine Blk.alloc ?_ _ | with_reducible refine Blk.drew_ ?_ | with_reducible refine mv6 _ _ _ ?_ ?_ | with_reducible refine mv5 _ _ _ ?_ ?_)); done)); (focus (omega; done)); rintro e' w7 ⟨x2, rfl, hk7, hq7⟩; have mv7 := fun (q_ : Nat) (cs_ : Array Value) (t_ : TypeId) (h1_ : q_ ≠ g) (h2_ : Blk _ q_ cs_ t_) => Blk.move h2_ hq7 h1_; have k7 := mv7 w2.heap.size #[.int .i64 c, .int .i64 d, .int .i64 e, .int .i64 f] 27 hne0 (by repeat' (first | with_reducible assumption | with_reducible refine Blk.drew_ ?_ | with_reducible refine Blk.alloc ?_ _)); have b7 := mv7 w.heap.size #[.int .i64 0, .int .i64 0, .int .i64 0, .int .i64 0] 27 hne2 (by repeat' (first | with_reducible assumption | with_reducible refine Blk.drew_ ?_ | with_reducible refine Blk.alloc ?_ _)); have hS7 : FourV w7 w2.heap.size (.int .i64 c) (.int .i64 d) (.int .i64 e) (.int .i64 f) := k7.four; have z7 := hq7.size; have hl7 := hk7.lt; obtain ⟨x0_, x1_, x2_, x3_⟩ := b7.four; have p0 := b7.free 0; have p1 := b7.free 1; have p2 := b7.free 2; have p3 := b7.free 3; have hSc : FourV (put4w w7 w.heap.size (.int .i64 c) (.int .i64 d) (.int .i64 e) (.int .i64 f)) w2.heap.size (.int .i64 c) (.int .i64 d) (.int .i64 e) (.int .i64 f) := (k7.keep4 (show w2.heap.size ≠ w.heap.size by omega) _ _ _ _).four)
        | (go_at_call 53; with_reducible refine (pick_ex g N C B _ 3 A l [0, 1, 2] #[.int .i64 0, .int .i64 1, .int .i64 2] _ ?_ hl hN ?_ rfl rfl (by decide) (by decide) ?_).mono ?_; (focus ((repeat' (first | with_reducible assumption | with_reducible refine SrcC.alloc ?_ _ | with_reducible refine SrcC.drew ?_)); done)); (focus ((repeat' (first | with_reducible assumption | omega | (with_reducible refine Blk.new _ _ ?_ <;> (simp; done)) | with_reducible refine Blk.alloc ?_ _ | with_reducible refine Blk.drew_ ?_ | with_reducible refine mv5 _ _ _ ?_ ?_)); done)); (focus (omega; done)); rintro e' w6 ⟨x1, rfl, hk6, hq6⟩; have mv6 := fun (q_ : Nat) (cs_ : Array Value) (t_ : TypeId) (h1_ : q_ ≠ g) (h2_ : Blk _ q_ cs_ t_) => Blk.move h2_ hq6 h1_; have k6 := mv6 w2.heap.size #[.int .i64 c, .int .i64 d, .int .i64 e, .int .i64 f] 27 hne0 (by repeat' (first | with_reducible assumption | with_reducible refine Blk.drew_ ?_ | with_reducible refine Blk.alloc ?_ _)); have b6 := mv6 w.heap.size #[.int .i64 0, .int .i64 0, .int .i64 0, .int .i64 0] 27 hne2 (by repeat' (first | with_reducible assumption | with_reducible refine Blk.drew_ ?_ | with_reducible refine Blk.alloc ?_ _)); have hS6 : FourV w6 w2.heap.size (.int .i64 c) (.int .i64 d) (.int .i64 e) (.int .i64 f) := k6.four; have z6 := hq6.size; have hl6 := hk6.lt)
        | (go_at_call 53; with_reducible refine (pick_ex g N C B _ 4 A l [0, 1, 20000, 20001] #[.int .i64 0, .int .i64 1, .int .i64 20000, .int .i64 20001] _ ?_ hl hN ?_ rfl rfl (by decide) (by decide) ?_).mono ?_; (focus ((repeat' (first | with_reducible assumption | with_reducible refine SrcC.alloc ?_ _ | with_reducible refine SrcC.drew ?_)); done)); (focus ((repeat' (first | with_reducible assumption | omega | (with_reducible refine Blk.new _ _ ?_ <;> (simp; done)) | with_reducible refine Blk.alloc ?_ _ | with_reducible refine Blk.drew_ ?_)); done)); (focus (omega; done)); rintro e' w5 ⟨x0, rfl, hk5, hq5⟩; have mv5 := fun (q_ : Nat) (cs_ : Array Value) (t_ : TypeId) (h1_ : q_ ≠ g) (h2_ : Blk _ q_ cs_ t_) => Blk.move h2_ hq5 h1_; have k5 := mv5 w2.heap.size #[.int .i64 c, .int .i64 d, .int .i64 e, .int .i64 f] 27 hne0 (by repeat' (first | with_reducible assumption | with_reducible refine Blk.drew_ ?_ | with_reducible refine Blk.alloc ?_ _)); have b5 := mv5 w.heap.size #[.int .i64 0, .int .i64 0, .int .i64 0, .int .i64 0] 27 hne2 (by repeat' (first | with_reducible assumption | with_reducible refine Blk.drew_ ?_ | with_reducible refine Blk.alloc ?_ _)); have hS5 : FourV w5 w2.heap.size (.int .i64 c) (.int .i64 d) (.int .i64 e) (.int .i64 f) := k5.four; have z5 := hq5.size; have hl5 := hk5.lt))
    all_goals
      have hqq : Only g (g + 1) w4 w7 := (by repeat' (first | with_reducible exact Only.refl _ _ _ | with_reducible refine Only.trans ?_ hq7 | with_reducible refine Only.trans ?_ hq6 | with_reducible refine Only.trans ?_ hq5 | with_reducible refine Only.then_alloc ?_ _ | with_reducible refine Only.drew ?_))
      have hBB := hB4.trans (hqq.below (B := w.heap.size) (by omega) (by omega))
      have S4 := Lib.hid (b7.put4 (.int .i64 c) (.int .i64 d) (.int .i64 e) (.int .i64 f))
      go_wp2_with fail
      obtain ⟨d0, d1, d2, d3⟩ := S4.out.four
      exact bodyPost_ret (v := .tuple #[TV c d e f, .int .i64 x0, .int .i64 x1, .int .i64 x2]) (by simp [results, Try.results31, go_sem, d0, d1, d2, d3]) rfl (DT3.mk_ (below_put4 hBB (Nat.le_refl _) _ _ _ _))
  · have hv' : (v == 0) = false := by simpa using hv
    go_wp2_with fail
    go_region_held3 (fun V => V.cell? ⟨w2.heap.size, 0, none⟩ = some (.int .i64 c) ∧ V.cell? ⟨w2.heap.size, 1, none⟩ = some (.int .i64 d) ∧ V.cell? ⟨w2.heap.size, 2, none⟩ = some (.int .i64 e) ∧ V.cell? ⟨w2.heap.size, 3, none⟩ = some (.int .i64 f))
      (first | with_reducible exact hSa | with_reducible exact hS5 | with_reducible exact hS6 | with_reducible exact hS7 | with_reducible exact hSc | (with_reducible refine Blk.four (t := 27) ?_; repeat' (first | with_reducible assumption | with_reducible refine Blk.drew_ ?_ | with_reducible refine Blk.alloc ?_ _)) | go_keep)
      (first
        | (go_at_call 43; with_reducible refine (next_ex g N C B A l 200 _ hk6 hl hN (by decide) (by decide)).mono ?_; rintro e' w7 ⟨x2, rfl, ⟨x2_0, x2_1⟩, hk7, hq7⟩; have e2_ : IntKind.i64.wrap (1 + x2) = 1 + x2 := IntWalk.i64_in _ (by omega); have mv7 := fun (q_ : Nat) (cs_ : Array Value) (t_ : TypeId) (h1_ : q_ ≠ g) (h2_ : Blk _ q_ cs_ t_) => Blk.move h2_ hq7 h1_; have k7 := mv7 w2.heap.size #[.int .i64 c, .int .i64 d, .int .i64 e, .int .i64 f] 27 hne0 (by repeat' (first | with_reducible assumption | with_reducible refine Blk.drew_ ?_ | with_reducible refine Blk.alloc ?_ _)); have b7 := mv7 w.heap.size #[.int .i64 0, .int .i64 0, .int .i64 0, .int .i64 0] 27 hne2 (by repeat' (first | with_reducible assumption | with_reducible refine Blk.drew_ ?_ | with_reducible refine Blk.alloc ?_ _)); have hS7 : FourV w7 w2.heap.size (.int .i64 c) (.int .i64 d) (.int .i64 e) (.int .i64 f) := k7.four; have z7 := hq7.size; have hl7 := hk7.lt; obtain ⟨x0_, x1_, x2_, x3_⟩ := b7.four; have p0 := b7.free 0; have p1 := b7.free 1; have p2 := b7.free 2; have p3 := b7.free 3; have hSc : FourV (put4w w7 w.heap.size (.int .i64 c) (.int .i64 d) (.int .i64 e) (.int .i64 f)) w2.heap.size (.int .i64 c) (.int .i64 d) (.int .i64 e) (.int .i64 f) := (k7.keep4 (show w2.heap.size ≠ w.heap.size by omega) _ _ _ _).four)
        | (go_at_call 43; with_reducible refine (next_ex g N C B A l 8 _ hk5 hl hN (by decide) (by decide)).mono ?_; rintro e' w6 ⟨x1, rfl, ⟨x1_0, x1_1⟩, hk6, hq6⟩; have e1_ : IntKind.i64.wrap (1 + x1) = 1 + x1 := IntWalk.i64_in _ (by omega); have mv6 := fun (q_ : Nat) (cs_ : Array Value) (t_ : TypeId) (h1_ : q_ ≠ g) (h2_ : Blk _ q_ cs_ t_) => Blk.move h2_ hq6 h1_; have k6 := mv6 w2.heap.size #[.int .i64 c, .int .i64 d, .int .i64 e, .int .i64 f] 27 hne0 (by repeat' (first | with_reducible assumption | with_reducible refine Blk.drew_ ?_ | with_reducible refine Blk.alloc ?_ _)); have b6 := mv6 w.heap.size #[.int .i64 0, .int .i64 0, .int .i64 0, .int .i64 0] 27 hne2 (by repeat' (first | with_reducible assumption | with_reducible refine Blk.drew_ ?_ | with_reducible refine Blk.alloc ?_ _)); have hS6 : FourV w6 w2.heap.size (.int .i64 c) (.int .i64 d) (.int .i64 e) (.int .i64 f) := k6.four; have z6 := hq6.size; have hl6 := hk6.lt)
        | (go_at_call 43; with_reducible refine (next_ex g N C B A l 8 _ hk4d hl hN (by decide) (by decide)).mono ?_; rintro e' w5 ⟨x0, rfl, ⟨x0_0, x0_1⟩, hk5, hq5⟩; have e0_ : IntKind.i64.wrap (1 + x0) = 1 + x0 := IntWalk.i64_in _ (by omega); have mv5 := fun (q_ : Nat) (cs_ : Array Value) (t_ : TypeId) (h1_ : q_ ≠ g) (h2_ : Blk _ q_ cs_ t_) => Blk.move h2_ hq5 h1_; have k5 := mv5 w2.heap.size #[.int .i64 c, .int .i64 d, .int .i64 e, .int .i64 f] 27 hne0 (by repeat' (first | with_reducible assumption | with_reducible refine Blk.drew_ ?_ | with_reducible refine Blk.alloc ?_ _)); have b5 := mv5 w.heap.size #[.int .i64 0, .int .i64 0, .int .i64 0, .int .i64 0] 27 hne2 (by repeat' (first | with_reducible assumption | with_reducible refine Blk.drew_ ?_ | with_reducible refine Blk.alloc ?_ _)); have hS5 : FourV w5 w2.heap.size (.int .i64 c) (.int .i64 d) (.int .i64 e) (.int .i64 f) := k5.four; have z5 := hq5.size; have hl5 := hk5.lt))
    have hqq : Only g (g + 1) w4 w7 := (show Only g (g + 1) w4 w4.drew from (Only.refl _ _ _).drewN 1).trans (hq5.trans (hq6.trans hq7))
    have hBB := hB4.trans (hqq.below (B := w.heap.size) (by omega) (by omega))
    have S4 := Lib.hid (b7.put4 (.int .i64 c) (.int .i64 d) (.int .i64 e) (.int .i64 f))
    go_wp2_with fail
    obtain ⟨d0, d1, d2, d3⟩ := S4.out.four
    exact bodyPost_ret (v := .tuple #[TV c d e f, .int .i64 (1 + x0), .int .i64 (1 + x1), .int .i64 x2]) (by simp [results, Try.results31, go_sem, d0, d1, d2, d3]) rfl (DT3.mk_ (below_put4 hBB (Nat.le_refl _) _ _ _ _))
end Go.Proofs.Ythepfejoneeaeaa
