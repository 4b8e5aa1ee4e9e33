/- Contracts of the draws of the laws of chapter 5. -/
import Derived.Test.YtgplciodddfpbaaFmDw
import Derived.Deep.RegionHeld3
namespace Go.Proofs.Ytgplciodddfpbaa
open Go.RowKit

/-- What the draw of a form alone gives. -/
def DrF (w : World) (e : Ending) (w' : World) : Prop :=
  ∃ (f : Fv) (F G H : List Int), e = .returned f.v ∧ (-1 ≤ f.a ∧ f.a ≤ 16 ∧ -1 ≤ f.b ∧ f.b ≤ 16) ∧ (1 ≤ f.n1 ∧ f.n1 ≤ 64 ∧ f.n2 = f.n1 ∧ f.n3 ≤ 65) ∧ (Fm.near F ∧ Fm.near G ∧ Fm.near H) ∧ SF w' w.heap.size w'.heap.size f F G H ∧ Below w.heap.size w w'
/-- What the draw of a form and a number gives. -/
def DrY (w : World) (e : Ending) (w' : World) : Prop :=
  ∃ (f : Fv) (F G H : List Int) (y : Int), e = .returned (.tuple #[f.v, .int .i64 y]) ∧ (-1 ≤ f.a ∧ f.a ≤ 16 ∧ -1 ≤ f.b ∧ f.b ≤ 16) ∧ (1 ≤ f.n1 ∧ f.n1 ≤ 64 ∧ f.n2 = f.n1 ∧ f.n3 ≤ 65) ∧ (Fm.near F ∧ Fm.near G ∧ Fm.near H) ∧ (-1000000001 ≤ y ∧ y ≤ 1000000400) ∧ SF w' w.heap.size w'.heap.size f F G H ∧ Below w.heap.size w w'
set_option maxRecDepth 100000 in
set_option maxHeartbeats 4000000 in
theorem DrawIs_any (N C B : Nat) (A : Option Addr) (l : List Int) (w : World) (hc : Rd U w B A N l) (hl : inByte l) (hB : B ≤ w.heap.size) (hN : N ≤ 1048576) :
    Calls Try.prog 77 #[.slice A N C] w fun e w' => DrF w e w' := by
  go_enter Try.func77, Try.ntmps77
  go_wp2_with fail
  generalize hW : w.alloc (.cells (Fv.cs fv0) 28) = W0
  have bR : FBx W0 w.heap.size fv0 := by rw [← hW]; exact Blk.new _ _ rfl
  have hb0 : Below w.heap.size w W0 := by rw [← hW]; exact below_alloc _ _
  have z0 : W0.heap.size = w.heap.size + 1 := by rw [← hW]; simp
  have hc0 := hc.below hb0 (by omega)
  clear hW hc
  refine (l01From_ex N C B A l _ hc0 hl (by omega)).mono ?_
  rintro e w1 ⟨g, rfl, hg, hs1, hb1⟩
  have z1 := hb1.size
  have hlt := hs1.lt
  have bR1 := bR.below hb1 (by omega)
  go_wp2_with fail
  refine (draw5_any g N C B A l _ hs1 (hc0.below hb1 (by omega)) hl (by omega) hN).mono ?_
  rintro e w2 ⟨f, F, G, H, t, rfl, ha, ht, hn, hr, hsf, hs2, ho2⟩
  have z2 := ho2.size
  have bR2 := bR1.only ho2 (.inl (by omega))
  have HB := Lib.hid ((hb0.trans (hb1.mono (by omega))).trans (ho2.below (by omega) (by omega)))
  obtain ⟨f0, f1, A1, n1, c1, A2, n2, c2, A3, n3, c3⟩ := f
  simp only at ha hn
  have bE := FBx.new w2 ⟨f0, f1, A1, n1, c1, A2, n2, c2, A3, n3, c3⟩
  have bR3 := bR2.alloc (.cells (Fv.cs ⟨f0, f1, A1, n1, c1, A2, n2, c2, A3, n3, c3⟩) 28)
  obtain ⟨j0, j1, j2, j3, j4⟩ := bE.lcell
  obtain ⟨x0, x1, x2, x3, x4⟩ := bR3.lcell
  simp only at j0 j1 j2 j3 j4 x0 x1 x2 x3 x4
  obtain ⟨y0, y1, y2, y3, y4⟩ := bR3.freeF
  have HS4 := Lib.hid (bR3.put5 ⟨f0, f1, A1, n1, c1, A2, n2, c2, A3, n3, c3⟩)
  have HSF := Lib.hid hsf
  have HEND : Hid (DrF w (.returned (Fv.v ⟨f0, f1, A1, n1, c1, A2, n2, c2, A3, n3, c3⟩)) (put5w (w2.alloc (.cells (Fv.cs ⟨f0, f1, A1, n1, c1, A2, n2, c2, A3, n3, c3⟩) 28)) w.heap.size ⟨f0, f1, A1, n1, c1, A2, n2, c2, A3, n3, c3⟩)) := Lib.hid ⟨⟨f0, f1, A1, n1, c1, A2, n2, c2, A3, n3, c3⟩, F, G, H, rfl, ha, hn, hr, ((HSF.out.alloc (.cells (Fv.cs ⟨f0, f1, A1, n1, c1, A2, n2, c2, A3, n3, c3⟩) 28)).put5 ⟨f0, f1, A1, n1, c1, A2, n2, c2, A3, n3, c3⟩ (.inl (by omega))).mono (by omega) (by simp), below_put5 (HB.out.alloc (by omega) (.cells (Fv.cs ⟨f0, f1, A1, n1, c1, A2, n2, c2, A3, n3, c3⟩) 28)) ⟨f0, f1, A1, n1, c1, A2, n2, c2, A3, n3, c3⟩ (Nat.le_refl _)⟩
  clear hn ha
  clear hsf hr ht hs2 ho2 hs1 hb1 hb0 hc0 bR bR1 bR2 bE bR3
  go_wp2_with fail
  obtain ⟨e0, e1, e2, e3, e4⟩ := HS4.out.lcell
  simp only at e0 e1 e2 e3 e4
  exact bodyPost_ret (v := Fv.v ⟨f0, f1, A1, n1, c1, A2, n2, c2, A3, n3, c3⟩) (by simp [results, Try.results77, go_sem, e0, e1, e2, e3, e4]) rfl HEND.out
set_option maxRecDepth 100000 in
set_option maxHeartbeats 4000000 in
theorem DrawTn_any (N C B : Nat) (A : Option Addr) (l : List Int) (w : World) (hc : Rd U w B A N l) (hl : inByte l) (hB : B ≤ w.heap.size) (hN : N ≤ 1048576) :
    Calls Try.prog 33 #[.slice A N C] w fun e w' => DrF w e w' := by
  go_enter Try.func33, Try.ntmps33
  go_wp2_with fail
  generalize hW : w.alloc (.cells (Fv.cs fv0) 28) = W0
  have bR : FBx W0 w.heap.size fv0 := by rw [← hW]; exact Blk.new _ _ rfl
  have hb0 : Below w.heap.size w W0 := by rw [← hW]; exact below_alloc _ _
  have z0 : W0.heap.size = w.heap.size + 1 := by rw [← hW]; simp
  have hc0 := hc.below hb0 (by omega)
  clear hW hc
  refine (DrawIs_any N C B A l _ hc0 hl (by omega) hN).mono ?_
  rintro e w2 ⟨f, F, G, H, rfl, ha, hn, hr, hsf, hb2⟩
  have z2 := hb2.size
  have bR2 := bR.below hb2 (by omega)
  have HB := Lib.hid (hb0.trans (hb2.mono (by omega)))
  obtain ⟨f0, f1, A1, n1, c1, A2, n2, c2, A3, n3, c3⟩ := f
  simp only at ha hn
  obtain ⟨x0, x1, x2, x3, x4⟩ := bR2.lcell
  simp only at x0 x1 x2 x3 x4
  obtain ⟨y0, y1, y2, y3, y4⟩ := bR2.freeF
  have HS4 := Lib.hid (bR2.put5 ⟨f0, f1, A1, n1, c1, A2, n2, c2, A3, n3, c3⟩)
  have HSF := Lib.hid hsf
  have HEND : Hid (DrF w (.returned (Fv.v ⟨f0, f1, A1, n1, c1, A2, n2, c2, A3, n3, c3⟩)) (put5w w2 w.heap.size ⟨f0, f1, A1, n1, c1, A2, n2, c2, A3, n3, c3⟩)) := Lib.hid ⟨⟨f0, f1, A1, n1, c1, A2, n2, c2, A3, n3, c3⟩, F, G, H, rfl, ha, hn, hr, (HSF.out.put5 ⟨f0, f1, A1, n1, c1, A2, n2, c2, A3, n3, c3⟩ (.inl (by omega))).mono (by omega) (by simp), below_put5 HB.out ⟨f0, f1, A1, n1, c1, A2, n2, c2, A3, n3, c3⟩ (Nat.le_refl _)⟩
  clear hn ha
  clear hsf hr hb2 hb0 hc0 bR bR2
  go_wp2_with fail
  obtain ⟨e0, e1, e2, e3, e4⟩ := HS4.out.lcell
  simp only at e0 e1 e2 e3 e4
  exact bodyPost_ret (v := Fv.v ⟨f0, f1, A1, n1, c1, A2, n2, c2, A3, n3, c3⟩) (by simp [results, Try.results33, go_sem, e0, e1, e2, e3, e4]) rfl HEND.out
set_option maxRecDepth 100000 in
set_option maxHeartbeats 4000000 in
theorem DrawPl_any (N C B : Nat) (A : Option Addr) (l : List Int) (w : World) (hc : Rd U w B A N l) (hl : inByte l) (hB : B ≤ w.heap.size) (hN : N ≤ 1048576) :
    Calls Try.prog 30 #[.slice A N C] w fun e w' => DrY w e w' := by
  go_enter Try.func30, Try.ntmps30
  go_wp2_with fail
  generalize hW : w.alloc (.cells (Fv.cs fv0) 28) = W0
  have bR : FBx W0 w.heap.size fv0 := by rw [← hW]; exact Blk.new _ _ rfl
  have hb0 : Below w.heap.size w W0 := by rw [← hW]; exact below_alloc _ _
  have z0 : W0.heap.size = w.heap.size + 1 := by rw [← hW]; simp
  have hc0 := hc.below hb0 (by omega)
  clear hW hc
  refine (l01From_ex N C B A l _ hc0 hl (by omega)).mono ?_
  rintro e w1 ⟨g, rfl, hg, hs1, hb1⟩
  have z1 := hb1.size
  have hlt := hs1.lt
  have bR1 := bR.below hb1 (by omega)
  have hc1 := hc0.below hb1 (by omega)
  go_wp2_with fail
  refine (draw5_any g N C B A l _ hs1 hc1 hl (by omega) hN).mono ?_
  rintro e w2 ⟨f, F, G, H, t, rfl, ha, ht, hn, hr, hsf, hs2, ho2⟩
  have z2 := ho2.size
  have bR2 := bR1.only ho2 (.inl (by omega))
  have hc2 := hc1.below (ho2.below (Nat.le_refl g) (by omega)) (by omega)
  have HB := Lib.hid ((hb0.trans (hb1.mono (by omega))).trans (ho2.below (by omega) (by omega)))
  obtain ⟨f0, f1, A1, n1, c1, A2, n2, c2, A3, n3, c3⟩ := f
  simp only at ha hn
  have bE := FBx.new w2 ⟨f0, f1, A1, n1, c1, A2, n2, c2, A3, n3, c3⟩
  have hb3 := below_alloc w2 (.cells (Fv.cs ⟨f0, f1, A1, n1, c1, A2, n2, c2, A3, n3, c3⟩) 28)
  have bR3 := bR2.alloc (.cells (Fv.cs ⟨f0, f1, A1, n1, c1, A2, n2, c2, A3, n3, c3⟩) 28)
  have hsf3 := hsf.alloc (.cells (Fv.cs ⟨f0, f1, A1, n1, c1, A2, n2, c2, A3, n3, c3⟩) 28)
  have hs3 := hs2.below hb3 hs2.lt
  have hc3 := hc2.below hb3 (by omega)
  have hlt2 := hs2.lt
  clear hs1 hb1 hb0 hc0 hc1 bR bR1 bR2 hsf hs2 hc2 ho2
  have hgz : w2.heap.size ≠ w.heap.size := by omega
  generalize hV : w2.alloc (.cells (Fv.cs ⟨f0, f1, A1, n1, c1, A2, n2, c2, A3, n3, c3⟩) 28) = v3 at bE hb3 bR3 hsf3 hs3 hc3
  have zv : v3.heap.size = w2.heap.size + 1 := by rw [← hV]; simp
  obtain ⟨b, o, x0, hA, hbl, hx0, hc0⟩ := hsf3.o1.rd.at_ (k := 0) (show 0 < n1 by omega)
  simp only at hA
  subst hA
  have bx := hr.1.at_ hx0
  obtain ⟨j0, j1, j2, j3, j4⟩ := bE.lcell
  simp only at j0 j1 j2 j3 j4
  have hnb : (0 : Int) < (n1 : Int) := by omega
  have hnb' : 0 < n1 := by omega
  have hbb : g + 1 ≤ b ∧ b < v3.heap.size := by
    obtain ⟨g', _, hg', h1, _, h3, _⟩ := hsf3.o1.at_ (k := 0) (show 0 < n1 by omega)
    injection hg' with hg'
    injection hg' with hg' _ _
    subst hg'
    exact ⟨h1, h3⟩
  obtain ⟨hbg, hbz⟩ := hbb
  have hno : ∀ V, Only w.heap.size (g + 1) v3 V → V.cell? ⟨w2.heap.size, 0, none⟩ = some (.int .i64 f0) ∧ V.cell? ⟨w2.heap.size, 1, none⟩ = some (.int .i64 f1) ∧ V.cell? ⟨w2.heap.size, 2, none⟩ = some (.slice (some ⟨b, o, none⟩) n1 c1) ∧ V.cell? ⟨w2.heap.size, 3, none⟩ = some (.slice A2 n2 c2) ∧ V.cell? ⟨w2.heap.size, 4, none⟩ = some (.slice A3 n3 c3) ∧ V.cell? ⟨b, o, none⟩ = some (I x0) := fun V hV => by
    have h5 := (bE.only hV (.inr (by omega))).lcell
    exact ⟨h5.k0, h5.k1, h5.k2, h5.k3, h5.k4, (World.cell?_of_block (hV.block b hbz (by omega))).trans hc0⟩
  have hS0 := hno v3.drew ((Only.refl w.heap.size (g + 1) v3).drew)
  have hnx : Calls Try.prog 53 #[.pointer (some ⟨g, 0, none⟩), .int .i64 40] v3.drew fun e w' => ∃ v, e = .returned (.int .i64 v) ∧ 0 ≤ v ∧ v < 40 ∧ Src w' g A N C ∧ Only g (g + 1) v3 w' :=
    (l01Next_any g N C B A l 40 v3.drew (hs3.q (Q.drewN v3 1)) (hc3.drewN 1) hl (by omega) hN (by omega)).mono fun e w' ⟨v, h1, h2, h3, _, h4, h5⟩ => ⟨v, h1, h2, h3 (by omega), h4, only_undrew h5⟩
  have bRk : ∀ V, Only g (g + 1) v3 V → FBx V w.heap.size fv0 := fun V hV => bR3.only hV (.inl (by omega))
  have HEND : ∀ (y : Int) V, 0 ≤ y → y < 40 → Only g (g + 1) v3 V → Hid (DrY w (.returned (.tuple #[Fv.v ⟨f0, f1, some ⟨b, o, none⟩, n1, c1, A2, n2, c2, A3, n3, c3⟩, .int .i64 (x0 + y - 20)])) (put5w V w.heap.size ⟨f0, f1, some ⟨b, o, none⟩, n1, c1, A2, n2, c2, A3, n3, c3⟩)) := fun y V y0 y1 hV => Lib.hid ⟨⟨f0, f1, some ⟨b, o, none⟩, n1, c1, A2, n2, c2, A3, n3, c3⟩, F, G, H, x0 + y - 20, rfl, ha, hn, hr, ⟨by omega, by omega⟩, ((hsf3.only hV (.inr (by omega))).put5 ⟨f0, f1, some ⟨b, o, none⟩, n1, c1, A2, n2, c2, A3, n3, c3⟩ (.inl (by omega))).mono (by omega) (by have := hV.size; simp; omega), below_put5 (((HB.out.trans (hb3.mono (by omega)))).trans (hV.below (by omega) (by omega))) ⟨f0, f1, some ⟨b, o, none⟩, n1, c1, A2, n2, c2, A3, n3, c3⟩ (Nat.le_refl _)⟩
  have hZ1 : ∀ y : Int, 0 ≤ y → y < 40 → IntKind.i64.wrap (x0 + y) = x0 + y ∧ IntKind.i64.wrap (x0 + y - 20) = x0 + y - 20 := fun y y0 y1 => ⟨IntWalk.i64_in _ (by omega), IntWalk.i64_in _ (by omega)⟩
  have hwl : w.heap.size < g := by omega
  clear hn ha hr HB bR3 hsf3
  subst hV
  go_wp2_with fail
  go_region_held3 (fun V => V.cell? ⟨w2.heap.size, 0, none⟩ = some (.int .i64 f0) ∧ V.cell? ⟨w2.heap.size, 1, none⟩ = some (.int .i64 f1) ∧ V.cell? ⟨w2.heap.size, 2, none⟩ = some (.slice (some ⟨b, o, none⟩) n1 c1) ∧ V.cell? ⟨w2.heap.size, 3, none⟩ = some (.slice A2 n2 c2) ∧ V.cell? ⟨w2.heap.size, 4, none⟩ = some (.slice A3 n3 c3) ∧ V.cell? ⟨b, o, none⟩ = some (I x0))
    (first | with_reducible exact hS0 | with_reducible exact hS6 | with_reducible exact hS5 | go_keep)
    (first
      | (go_at_call 53; with_reducible refine hnx.mono ?_; rintro e w5 ⟨v, rfl, v0, v1, hs5, ho5⟩; have hS5 := hno _ (only_wide ho5 (Nat.le_of_lt hwl) (Nat.le_refl _)); have hS6 := hno _ ((only_wide ho5 (Nat.le_of_lt hwl) (Nat.le_refl _)).trans (only_wide (only_put5 w5 ⟨f0, f1, some ⟨b, o, none⟩, n1, c1, A2, n2, c2, A3, n3, c3⟩ (g := w.heap.size)) (Nat.le_refl _) (by omega))); obtain ⟨wv1, wv2⟩ := hZ1 v v0 v1; have bR5 := bRk _ ho5; obtain ⟨x1, x2, x3, x4, x5⟩ := bR5.lcell; simp only at x1 x2 x3 x4 x5; obtain ⟨y0, y1, y2, y3, y4⟩ := bR5.freeF))
  have HE := HEND v w5 v0 v1 ho5
  have HS4 := bR5.put5 ⟨f0, f1, some ⟨b, o, none⟩, n1, c1, A2, n2, c2, A3, n3, c3⟩
  obtain ⟨e0, e1, e2, e3, e4⟩ := HS4.lcell
  simp only at e0 e1 e2 e3 e4
  clear HEND hnx hno hS0 hS5 hS6 bRk
  go_wp2_with fail
  exact bodyPost_ret (v := .tuple #[Fv.v ⟨f0, f1, some ⟨b, o, none⟩, n1, c1, A2, n2, c2, A3, n3, c3⟩, .int .i64 (x0 + v - 20)]) (by simp [results, Try.results30, go_sem, e0, e1, e2, e3, e4]) rfl HE.out
end Go.Proofs.Ytgplciodddfpbaa
