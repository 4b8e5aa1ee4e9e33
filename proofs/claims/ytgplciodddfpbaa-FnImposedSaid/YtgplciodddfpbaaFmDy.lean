/- Contracts of the draws of a form and a shift, and of a sheet and a scheme. -/
import Derived.Test.YtgplciodddfpbaaFmDx
import Derived.Deep.RegionHeld3
namespace Go.Proofs.Ytgplciodddfpbaa
open Go.RowKit

set_option maxRecDepth 100000 in
set_option maxHeartbeats 4000000 in
theorem DrawSh_any (N C B : Nat) (A : Option Addr) (l : List Int) (w : World) (hc : Rd U w B A N l) (hl : inByte l) (hB : B ≤ w.heap.size) (hN : N ≤ 1048576) :
    Calls Try.prog 13 #[.slice A N C] w fun e w' => DrY w e w' := by
  go_enter Try.func13, Try.ntmps13
  go_wp2_with fail
  generalize hW : w.alloc (.cells (Fv.cs fv0) 28) = W0
  have bR : FBx W0 w.heap.size fv0 := by rw [← hW]; exact Blk.new _ _ rfl
  have hb0 : Below w.heap.size w W0 := by rw [← hW]; exact below_alloc _ _
  have z0 : W0.heap.size = w.heap.size + 1 := by rw [← hW]; simp
  have hc0 := hc.below hb0 (by omega)
  clear hW hc
  refine (l01From_ex N C B A l _ hc0 hl (by omega)).mono ?_
  rintro e w1 ⟨g, rfl, hg, hs1, hb1⟩
  have z1 := hb1.size
  have hlt := hs1.lt
  have bR1 := bR.below hb1 (by omega)
  have hc1 := hc0.below hb1 (by omega)
  go_wp2_with fail
  refine (draw5_any g N C B A l _ hs1 hc1 hl (by omega) hN).mono ?_
  rintro e w2 ⟨f, F, G, H, t, rfl, ha, ht, hn, hr, hsf, hs2, ho2⟩
  have z2 := ho2.size
  have bR2 := bR1.only ho2 (.inl (by omega))
  have hc2 := hc1.below (ho2.below (Nat.le_refl g) (by omega)) (by omega)
  have HB := Lib.hid ((hb0.trans (hb1.mono (by omega))).trans (ho2.below (by omega) (by omega)))
  obtain ⟨f0, f1, A1, n1, c1, A2, n2, c2, A3, n3, c3⟩ := f
  simp only at ha hn
  have bE := FBx.new w2 ⟨f0, f1, A1, n1, c1, A2, n2, c2, A3, n3, c3⟩
  have hb3 := below_alloc w2 (.cells (Fv.cs ⟨f0, f1, A1, n1, c1, A2, n2, c2, A3, n3, c3⟩) 28)
  have bR3 := bR2.alloc (.cells (Fv.cs ⟨f0, f1, A1, n1, c1, A2, n2, c2, A3, n3, c3⟩) 28)
  have hsf3 := hsf.alloc (.cells (Fv.cs ⟨f0, f1, A1, n1, c1, A2, n2, c2, A3, n3, c3⟩) 28)
  have hs3 := hs2.below hb3 hs2.lt
  have hc3 := hc2.below hb3 (by omega)
  have hlt2 := hs2.lt
  clear hs1 hb1 hb0 hc0 hc1 bR bR1 bR2 hsf hs2 hc2 ho2
  have HNN := Lib.hid hn
  have HAA := Lib.hid ha
  have HRR := Lib.hid hr
  clear hn ha hr
  go_wp2_with fail
  generalize hV : w2.alloc (.cells (Fv.cs ⟨f0, f1, A1, n1, c1, A2, n2, c2, A3, n3, c3⟩) 28) = v3 at bE hb3 bR3 hsf3 hs3 hc3 ⊢
  have zv : v3.heap.size = w2.heap.size + 1 := by rw [← hV]; simp
  clear hV
  refine (l01Next_any g N C B A l _ _ hs3 hc3 hl (by omega) hN (by omega)).mono ?_
  rintro e w4 ⟨z, rfl, _, _, _, hs4, ho4⟩
  have z4 := ho4.size
  have bE4 := bE.only ho4 (.inr (by omega))
  have bR4 := bR3.only ho4 (.inl (by omega))
  have hsf4 := hsf3.only ho4 (.inr (by omega))
  have hc4 := hc3.below (ho4.below (Nat.le_refl g) (by omega)) (by omega)
  have HB4 := Lib.hid ((HB.out.trans (hb3.mono (by omega))).trans (ho4.below (B := w.heap.size) (by omega) (by omega)))
  have hlt4 := hs4.lt
  clear bE bR3 hsf3 hc3 hs3 ho4 hb3 HB
  have hno : ∀ V, Only w.heap.size (g + 1) w4 V → V.cell? ⟨w2.heap.size, 0, none⟩ = some (.int .i64 f0) ∧ V.cell? ⟨w2.heap.size, 1, none⟩ = some (.int .i64 f1) ∧ V.cell? ⟨w2.heap.size, 2, none⟩ = some (.slice A1 n1 c1) ∧ V.cell? ⟨w2.heap.size, 3, none⟩ = some (.slice A2 n2 c2) ∧ V.cell? ⟨w2.heap.size, 4, none⟩ = some (.slice A3 n3 c3) := fun V hV => by
    have h5 := (bE4.only hV (.inr (by omega))).lcell
    exact ⟨h5.k0, h5.k1, h5.k2, h5.k3, h5.k4⟩
  have hS0 := hno w4.drew ((Only.refl w.heap.size (g + 1) w4).drew)
  have bRk : ∀ V, Only g (g + 1) w4 V → FBx V w.heap.size fv0 := fun V hV => bR4.only hV (.inl (by omega))
  have HEND : ∀ (y : Int) V, -1000000001 ≤ y → y ≤ 1000000001 → Only g (g + 1) w4 V → Hid (DrY w (.returned (.tuple #[Fv.v ⟨f0, f1, A1, n1, c1, A2, n2, c2, A3, n3, c3⟩, .int .i64 y])) (put5w V w.heap.size ⟨f0, f1, A1, n1, c1, A2, n2, c2, A3, n3, c3⟩)) := fun y V y0 y1 hV => Lib.hid ⟨⟨f0, f1, A1, n1, c1, A2, n2, c2, A3, n3, c3⟩, F, G, H, y, rfl, HAA.out, HNN.out, HRR.out, ⟨by omega, by omega⟩, ((hsf4.only hV (.inr (by omega))).put5 ⟨f0, f1, A1, n1, c1, A2, n2, c2, A3, n3, c3⟩ (.inl (by omega))).mono (by omega) (by have := hV.size; simp; omega), below_put5 (HB4.out.trans (hV.below (by omega) (by omega))) ⟨f0, f1, A1, n1, c1, A2, n2, c2, A3, n3, c3⟩ (Nat.le_refl _)⟩
  have hwl : w.heap.size < g := by omega
  have hwg : w.heap.size + 1 ≤ g + 1 := by omega
  by_cases hz : z = 0
  · subst hz
    have hal : Only g (g + 1) w4 (w4.alloc (.cells #[.int .i64 (-1000000000), .int .i64 1000000000, .int .i64 (-1000000001), .int .i64 1000000001] 2)).drew := (Only.of_below (below_alloc w4 _) g (g + 1)).drew
    have hS1 := hno _ (only_wide hal (Nat.le_of_lt hwl) (Nat.le_refl _))
    have hpk : Calls Try.prog 54 #[.pointer (some ⟨g, 0, none⟩), .slice (some ⟨w4.heap.size, 0, none⟩) 4 4] (w4.alloc (.cells #[.int .i64 (-1000000000), .int .i64 1000000000, .int .i64 (-1000000001), .int .i64 1000000001] 2)).drew fun e w' => ∃ r, e = .returned (.int .i64 r) ∧ (-1000000001 ≤ r ∧ r ≤ 1000000001) ∧ Only g (g + 1) w4 w' :=
      (pick_lit g N C B A l [-1000000000, 1000000000, -1000000001, 1000000001] 4 _ w4.drew rfl rfl (hs4.q (Q.drewN w4 1)) (hc4.drewN 1) hl (by omega) hN (by omega) (by omega)).mono fun e w' ⟨r, h1, h2, _, h4⟩ => ⟨r, h1, by simp at h2; omega, only_undrew h4⟩
    clear hs4 hc4 bE4 hsf4
    go_wp2_with fail
    go_region_held3 (fun V => V.cell? ⟨w2.heap.size, 0, none⟩ = some (.int .i64 f0) ∧ V.cell? ⟨w2.heap.size, 1, none⟩ = some (.int .i64 f1) ∧ V.cell? ⟨w2.heap.size, 2, none⟩ = some (.slice A1 n1 c1) ∧ V.cell? ⟨w2.heap.size, 3, none⟩ = some (.slice A2 n2 c2) ∧ V.cell? ⟨w2.heap.size, 4, none⟩ = some (.slice A3 n3 c3))
      (first | with_reducible exact hS0 | with_reducible exact hS1 | with_reducible exact hS6 | with_reducible exact hS5 | go_keep)
      (first
        | (go_at_call 54; with_reducible refine hpk.mono ?_; rintro e w5 ⟨v, rfl, ⟨v0, v1⟩, ho5⟩; have hS5 := hno _ (only_wide ho5 (Nat.le_of_lt hwl) (Nat.le_refl _)); have hS6 := hno _ ((only_wide ho5 (Nat.le_of_lt hwl) (Nat.le_refl _)).trans (only_wide (only_put5 w5 ⟨f0, f1, A1, n1, c1, A2, n2, c2, A3, n3, c3⟩ (g := w.heap.size)) (Nat.le_refl _) hwg)); have bR5 := bRk _ ho5; obtain ⟨x1, x2, x3, x4, x5⟩ := bR5.lcell; simp only at x1 x2 x3 x4 x5; obtain ⟨y0, y1, y2, y3, y4⟩ := bR5.freeF))
    have HE := HEND v w5 v0 v1 ho5
    have HS4 := bR5.put5 ⟨f0, f1, A1, n1, c1, A2, n2, c2, A3, n3, c3⟩
    obtain ⟨e0, e1, e2, e3, e4⟩ := HS4.lcell
    simp only at e0 e1 e2 e3 e4
    clear HEND hpk hno hS0 hS1 hS5 hS6 bRk
    go_wp2_with fail
    exact bodyPost_ret (v := .tuple #[Fv.v ⟨f0, f1, A1, n1, c1, A2, n2, c2, A3, n3, c3⟩, .int .i64 v]) (by simp [results, Try.results13, go_sem, e0, e1, e2, e3, e4]) rfl HE.out
  · have hBz : (z == 0) = false := beq_eq_false_iff_ne.2 hz
    have hnx : Calls Try.prog 53 #[.pointer (some ⟨g, 0, none⟩), .int .i64 60] w4.drew fun e w' => ∃ v, e = .returned (.int .i64 v) ∧ 0 ≤ v ∧ v < 60 ∧ Only g (g + 1) w4 w' :=
      (l01Next_any g N C B A l 60 w4.drew (hs4.q (Q.drewN w4 1)) (hc4.drewN 1) hl (by omega) hN (by omega)).mono fun e w' ⟨v, h1, h2, h3, _, _, h5⟩ => ⟨v, h1, h2, h3 (by omega), only_undrew h5⟩
    have hZ1 : ∀ y : Int, 0 ≤ y → y < 60 → IntKind.i64.wrap (y - 20) = y - 20 := fun y y0 y1 => IntWalk.i64_in _ (by omega)
    clear hs4 hc4 bE4 hsf4
    go_wp2_with fail
    go_region_held3 (fun V => V.cell? ⟨w2.heap.size, 0, none⟩ = some (.int .i64 f0) ∧ V.cell? ⟨w2.heap.size, 1, none⟩ = some (.int .i64 f1) ∧ V.cell? ⟨w2.heap.size, 2, none⟩ = some (.slice A1 n1 c1) ∧ V.cell? ⟨w2.heap.size, 3, none⟩ = some (.slice A2 n2 c2) ∧ V.cell? ⟨w2.heap.size, 4, none⟩ = some (.slice A3 n3 c3))
      (first | with_reducible exact hS0 | with_reducible exact hS6 | with_reducible exact hS5 | go_keep)
      (first
        | (go_at_call 53; with_reducible refine hnx.mono ?_; rintro e w5 ⟨v, rfl, v0, v1, ho5⟩; have hS5 := hno _ (only_wide ho5 (Nat.le_of_lt hwl) (Nat.le_refl _)); have hS6 := hno _ ((only_wide ho5 (Nat.le_of_lt hwl) (Nat.le_refl _)).trans (only_wide (only_put5 w5 ⟨f0, f1, A1, n1, c1, A2, n2, c2, A3, n3, c3⟩ (g := w.heap.size)) (Nat.le_refl _) hwg)); have wv1 := hZ1 v v0 v1; have bR5 := bRk _ ho5; obtain ⟨x1, x2, x3, x4, x5⟩ := bR5.lcell; simp only at x1 x2 x3 x4 x5; obtain ⟨y0, y1, y2, y3, y4⟩ := bR5.freeF))
    have HE := HEND (v - 20) w5 (by omega) (by omega) ho5
    have HS4 := bR5.put5 ⟨f0, f1, A1, n1, c1, A2, n2, c2, A3, n3, c3⟩
    obtain ⟨e0, e1, e2, e3, e4⟩ := HS4.lcell
    simp only at e0 e1 e2 e3 e4
    clear HEND hnx hno hS0 hS5 hS6 bRk
    go_wp2_with fail
    exact bodyPost_ret (v := .tuple #[Fv.v ⟨f0, f1, A1, n1, c1, A2, n2, c2, A3, n3, c3⟩, .int .i64 (v - 20)]) (by simp [results, Try.results13, go_sem, e0, e1, e2, e3, e4]) rfl HE.out
set_option maxRecDepth 100000 in
theorem DrawIm_any (N C B : Nat) (A : Option Addr) (l : List Int) (w : World) (hc : Rd U w B A N l) (hl : inByte l) (hB : B ≤ w.heap.size) (hN : N ≤ 1048576) :
    Calls Try.prog 10 #[.slice A N C] w fun e w' => DrT w e w' := by
  go_enter Try.func10, Try.ntmps10
  go_wp2_with fail
  refine (l01From_ex N C B A l _ hc hl hB).mono ?_
  rintro e w1 ⟨g, rfl, hg, hs1, hb1⟩
  have hz1 := hb1.size
  have hlt := hs1.lt
  go_wp2_with fail
  refine (draw_any g N C B A l _ hs1 (hc.below hb1 hB) hl (by omega) hN).mono ?_
  rintro e w2 ⟨a, b, t, rfl, a1, a2, b1, b2, ht, hs2, ho2⟩
  have HB : Hid (DrT w (.returned (.tuple #[.int .i64 a, .int .i64 b, .string t])) w2) := Lib.hid ⟨a, b, t, rfl, a1, a2, b1, b2, ht, hb1.trans (ho2.below hg hz1)⟩
  clear ht hs2 ho2 hs1 hb1
  go_wp2_with fail
  go_ret3
  exact HB.out
end Go.Proofs.Ytgplciodddfpbaa
