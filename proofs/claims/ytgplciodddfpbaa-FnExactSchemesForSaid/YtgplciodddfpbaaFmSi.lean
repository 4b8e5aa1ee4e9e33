/- Contract of the model's ShiftForm. -/
import Derived.Test.YtgplciodddfpbaaFmSh
import Derived.Deep.RegionHeld3
namespace Go.Proofs.Ytgplciodddfpbaa
open Go.RowKit

/-- The model's new form: its box and its lists, wherever they came. -/
structure ShP (w1 : World) (f : Fv) (F G H : List Int) (gO : Nat) (W : World) : Prop where
  bel : Below w1.heap.size w1 W
  le : w1.heap.size ≤ gO
  box : FBx W gO f
  sf : SF W w1.heap.size W.heap.size f F G H
theorem ShP.atPut {w1 w4 : World} {f : Fv} {F G H : List Int} {g l5 h5 l6 h6 l7 h7 : Nat} (B4 : Below w1.heap.size w1 w4) (o5 : Own I w4 l5 h5 2 (.slice f.A1 f.n1 f.c1) F) (o6 : Own I w4 l6 h6 2 (.slice f.A2 f.n2 f.c2) G) (o7 : Own I w4 l7 h7 2 (.slice f.A3 f.n3 f.c3) H)
    (b5 : w1.heap.size ≤ l5) (b6 : w1.heap.size ≤ l6) (b7 : w1.heap.size ≤ l7) (t5 : h5 ≤ w4.heap.size) (t6 : h6 ≤ w4.heap.size) (t7 : h7 ≤ w4.heap.size) (hb : FBx w4 g fv0) (hg : w1.heap.size ≤ g) (d5 : g < l5 ∨ h5 ≤ g) (d6 : g < l6 ∨ h6 ≤ g) (d7 : g < l7 ∨ h7 ≤ g) : ShP w1 f F G H g (put5w w4 g f) :=
  ⟨below_put5 B4 f hg, hg, hb.put5 f, ⟨(o5.put5 f d5).mono b5 (by simpa using t5), (o6.put5 f d6).mono b6 (by simpa using t6), (o7.put5 f d7).mono b7 (by simpa using t7)⟩⟩
theorem ShP.atEnd {w1 w4 : World} {f : Fv} {F G H : List Int} {l5 h5 l6 h6 l7 h7 : Nat} (B4 : Below w1.heap.size w1 w4) (o5 : Own I w4 l5 h5 2 (.slice f.A1 f.n1 f.c1) F) (o6 : Own I w4 l6 h6 2 (.slice f.A2 f.n2 f.c2) G) (o7 : Own I w4 l7 h7 2 (.slice f.A3 f.n3 f.c3) H)
    (b5 : w1.heap.size ≤ l5) (b6 : w1.heap.size ≤ l6) (b7 : w1.heap.size ≤ l7) (t5 : h5 ≤ w4.heap.size) (t6 : h6 ≤ w4.heap.size) (t7 : h7 ≤ w4.heap.size) : ShP w1 f F G H w4.heap.size (w4.alloc (.cells f.cs 28)) :=
  ⟨B4.alloc B4.size _, B4.size, FBx.new w4 f, ⟨(o5.alloc _).mono b5 (by simp <;> omega), (o6.alloc _).mono b6 (by simp <;> omega), (o7.alloc _).mono b7 (by simp <;> omega)⟩⟩
theorem put5_keep {W : World} {g : Nat} {f : Fv} {b o : Nat} {v : Value} (hne : b ≠ g) (h : W.cell? ⟨b, o, none⟩ = some v) : (put5w W g f).cell? ⟨b, o, none⟩ = some v := by
  have k : ∀ (V : World) (q : Addr) (x : Value), q.block = g → (V.setCell q x).cell? ⟨b, o, none⟩ = V.cell? ⟨b, o, none⟩ := fun V q x hq => World.cell?_setCell_other (w := V) (v := x) (a := q) _ (fun he => hne (by rw [← hq, he]))
  exact (k _ _ _ rfl).trans ((k _ _ _ rfl).trans ((k _ _ _ rfl).trans ((k _ _ _ rfl).trans ((k _ _ _ rfl).trans h))))
/-- The five cells of a form's box. -/
abbrev Five (V : World) (g : Nat) (f : Fv) : Prop := V.cell? ⟨g, 0, none⟩ = some (.int .i64 f.a) ∧ V.cell? ⟨g, 1, none⟩ = some (.int .i64 f.b) ∧ V.cell? ⟨g, 2, none⟩ = some (.slice f.A1 f.n1 f.c1) ∧ V.cell? ⟨g, 3, none⟩ = some (.slice f.A2 f.n2 f.c2) ∧ V.cell? ⟨g, 4, none⟩ = some (.slice f.A3 f.n3 f.c3)
theorem keepB {V V' : World} {B g : Nat} {f : Fv} (hb : Below B V V') (hg : g < B) (hS : Five V g f) : Five V' g f :=
  ⟨(hb.cell (p := ⟨g, 0, none⟩) hg).trans hS.1, (hb.cell (p := ⟨g, 1, none⟩) hg).trans hS.2.1, (hb.cell (p := ⟨g, 2, none⟩) hg).trans hS.2.2.1, (hb.cell (p := ⟨g, 3, none⟩) hg).trans hS.2.2.2.1, (hb.cell (p := ⟨g, 4, none⟩) hg).trans hS.2.2.2.2⟩
theorem keepA {V : World} {g : Nat} {f : Fv} {o : Obj} (hg : g < V.heap.size) (hS : Five V g f) : Five (V.alloc o) g f := keepB (below_alloc V o) hg hS
theorem keepAA {V : World} {g : Nat} {f : Fv} {o o' : Obj} (hg : g < V.heap.size) (hS : Five (V.alloc o) g f) : Five (V.alloc o') g f := by
  have h : ∀ i u, (V.alloc o).cell? ⟨g, i, none⟩ = some u → (V.alloc o').cell? ⟨g, i, none⟩ = some u := fun i u hu => ((below_alloc V o').cell (p := ⟨g, i, none⟩) hg).trans (((below_alloc V o).cell (p := ⟨g, i, none⟩) hg).symm.trans hu)
  exact ⟨h _ _ hS.1, h _ _ hS.2.1, h _ _ hS.2.2.1, h _ _ hS.2.2.2.1, h _ _ hS.2.2.2.2⟩
theorem keepP {V : World} {g g' : Nat} {f f' : Fv} (hne : g ≠ g') (hS : Five V g f) : Five (put5w V g' f') g f :=
  ⟨put5_keep hne hS.1, put5_keep hne hS.2.1, put5_keep hne hS.2.2.1, put5_keep hne hS.2.2.2.1, put5_keep hne hS.2.2.2.2⟩
set_option maxRecDepth 100000 in
set_option maxHeartbeats 12000000 in
theorem specSh_any (f : Fv) (a b : Int) (ha : f.a = a) (hb : f.b = b) (B : Nat) (F G H : List Int) (y : Int) (u0 u1 C : Int) (L1 L2 L3 : List Int) (hR : Fm.shR a b F G H y = (u0, u1, L1, L2, L3, C)) (w : World) (h : RF w B f F G H) (hB : B ≤ w.heap.size) (hn : f.le 1048576) (hi64 : i64s F) (hi65 : i64s G) :
    Calls Try.prog 15 #[f.v, .int .i64 y] w fun e w' => SC5 w u0 u1 L1 L2 L3 C e w' := by
  obtain ⟨i0, hi0, hz0, hz1, hz2⟩ := info_parts infoI
  obtain ⟨a', b', A1, n1, c1, A2, n2, c2, A3, n3, c3⟩ := f
  simp only at ha hb
  subst ha hb
  have HR := Lib.hid hR
  have HNN := Lib.hid hn
  have HI1 := Lib.hid hi64
  have HI2 := Lib.hid hi65
  clear hR hn hi64 hi65
  go_enter Try.func15, Try.ntmps15
  go_wp2_with fail
  generalize hW : (w.alloc (.cells (Fv.cs ⟨a', b', A1, n1, c1, A2, n2, c2, A3, n3, c3⟩) 28)).alloc (.cells (Fv.cs fv0) 28) = W0
  have bF : FBx W0 w.heap.size ⟨a', b', A1, n1, c1, A2, n2, c2, A3, n3, c3⟩ := by rw [← hW]; exact (Blk.new _ _ rfl).alloc _
  have bR : FBx W0 (w.heap.size + 1) fv0 := by rw [← hW]; exact Blk.new _ _ (by simp)
  have hB0 : Below w.heap.size w W0 := by rw [← hW]; exact (below_alloc _ _).alloc (by simp) _
  have hz0' : W0.heap.size = w.heap.size + 2 := by rw [← hW]; simp
  have hr0 := h.below hB0 hB
  clear hW
  refine (specIsForm_any ⟨a', b', A1, n1, c1, A2, n2, c2, A3, n3, c3⟩ B F G H W0 hr0 (by omega) HNN.out HI1.out HI2.out).mono ?_
  rintro e w1 ⟨rfl, hb1⟩
  have z1 := hb1.size
  have hB1 := hB0.trans (hb1.mono (by omega))
  have bF1 := bF.below hb1 (by omega)
  have bR1 := bR.below hb1 (by omega)
  have hr1 := hr0.below hb1 (by omega)
  clear bF bR hB0 hr0 hb1
  simp only
  cases hok : Fm.okB a' b' F G H
  · have HE : Hid (Fm.shC a' b' F G H y = 1) := Lib.hid (by unfold Fm.shC; rw [if_neg (by rw [hok]; simp)])
    clear hok
    obtain ⟨rfl, rfl, rfl, rfl, rfl, rfl⟩ := Fm.sh_bad HR.out HE.out (by decide)
    have s4 := bR1.put5 fv0
    obtain ⟨x0, x1, x2, x3, x4⟩ := bR1.lcell
    simp only at x0 x1 x2 x3 x4
    obtain ⟨y0, y1, y2, y3, y4⟩ := bR1.freeF
    have HS4 := Lib.hid s4
    have HBW := Lib.hid (hB1)
    clear s4
    go_wp2_with fail
    obtain ⟨e0, e1, e2, e3, e4⟩ := HS4.out.lcell
    exact bodyPost_ret (v := .tuple #[Fv.v fv0, .int .i64 1]) (by simp [results, Try.results15, go_sem, e0, e1, e2, e3, e4]) rfl (SC5.mk_ fv0 rfl rfl (SF.zero _ w.heap.size w.heap.size) (Nat.le_refl _) (by have := HBW.out.size; simpa using this) fv0_le (below_put5 HBW.out fv0 (by omega)))
  have HOK := Lib.hid (Fm.okB_ok hok)
  by_cases hy : -1000000000 ≤ y ∧ y ≤ 1000000000
  rotate_left
  · have HE : Hid (Fm.shC a' b' F G H y = 2) := Lib.hid (by unfold Fm.shC; rw [if_pos hok, if_neg hy])
    have HIN : Hid (∀ W, Calls Try.prog 55 #[.int .i64 y, .int .i64 (-1000000000), .int .i64 1000000000] W fun e w' => e = .returned (.bool false) ∧ W = w') := Lib.hid fun W => l01In_no _ _ _ W (by omega)
    clear hok hy
    go_wp2_with fail
    refine (HIN.out _).mono ?_
    rintro e _ ⟨rfl, rfl⟩
    obtain ⟨rfl, rfl, rfl, rfl, rfl, rfl⟩ := Fm.sh_bad HR.out HE.out (by decide)
    have s4 := bR1.put5 fv0
    obtain ⟨x0, x1, x2, x3, x4⟩ := bR1.lcell
    simp only at x0 x1 x2 x3 x4
    obtain ⟨y0, y1, y2, y3, y4⟩ := bR1.freeF
    have HS4 := Lib.hid s4
    have HBW := Lib.hid (hB1)
    clear s4
    go_wp2_with fail
    obtain ⟨e0, e1, e2, e3, e4⟩ := HS4.out.lcell
    exact bodyPost_ret (v := .tuple #[Fv.v fv0, .int .i64 2]) (by simp [results, Try.results15, go_sem, e0, e1, e2, e3, e4]) rfl (SC5.mk_ fv0 rfl rfl (SF.zero _ w.heap.size w.heap.size) (Nat.le_refl _) (by have := HBW.out.size; simpa using this) fv0_le (below_put5 HBW.out fv0 (by omega)))
  obtain ⟨N, hN, N1, N64⟩ := Fm.cells_pos HOK.out.1
  obtain ⟨l1, l2, l3⟩ := HOK.out.2.1
  obtain ⟨f1, f2, f3⟩ := hr1.len
  rw [hN] at l1 l2 l3
  simp only at f1 f2 f3
  obtain rfl : n1 = N := by omega
  obtain rfl : n2 = n1 := by omega
  obtain rfl : n3 = n2 := by omega
  obtain ⟨F', hF'⟩ : ∃ F', F.map (· + y) = F' := ⟨_, rfl⟩
  obtain ⟨G', hG'⟩ : ∃ G', G.map (· + y) = G' := ⟨_, rfl⟩
  have hsm := Fm.small_of HOK.out
  have HI3 : Hid (i64s F') := Lib.hid (by rw [← hF']; exact i64s_map hsm.1 hy)
  have HI4 : Hid (i64s G') := Lib.hid (by rw [← hG']; exact i64s_map hsm.2 hy)
  have HSM := Lib.hid hsm
  have HE : Hid (Fm.shC a' b' F G H y = if Fm.okB a' b' F' G' H = true then 0 else 3) := Lib.hid (by unfold Fm.shC; rw [if_pos hok, if_pos hy, hF', hG'])
  have HF' := Lib.hid hF'
  have HG' := Lib.hid hG'
  have HY := Lib.hid hy
  have HB1 := Lib.hid hB1
  have HBF := Lib.hid bF1
  have HBR := Lib.hid bR1
  have HRR := Lib.hid hr1
  have hyin : ∀ W, Calls Try.prog 55 #[.int .i64 y, .int .i64 (-1000000000), .int .i64 1000000000] W fun e w' => e = .returned (.bool true) ∧ W = w' := fun W => l01In_yes _ _ _ W hy.1 hy.2
  obtain ⟨q0, q1, q2, q3, q4⟩ := bF1.lcell
  simp only at q0 q1 q2 q3 q4
  have hn6 : n3 ≤ 1048576 := by omega
  clear hok l1 l2 l3 f1 f2 f3 hsm hF' hG' hN hB1 bF1 bR1 hr1 hy
  go_wp2_with fail
  refine (hyin _).mono ?_
  rintro e _ ⟨rfl, rfl⟩
  have hBw1 : B ≤ w1.heap.size := by omega
  have hwl : w.heap.size < w1.heap.size := by omega
  go_wp2_with fail
  rename_i K hK0
  have hP : ∀ (A5 A6 A7 : Option Addr) (c5 c6 c7 gO : Nat) (W5 : World), ShP w1 ⟨a', b', A5, n3, c5, A6, n3, c6, A7, n3, c7⟩ F' G' H gO W5 → K { tmps := #[(Fv.v ⟨a', b', A1, n3, c1, A2, n3, c2, A3, n3, c3⟩), .int .i64 y, .pointer (some ⟨w.heap.size, 0, none⟩), undef, .pointer (some ⟨w.heap.size + 1, 0, none⟩), .int .i64 0, .pointer (some ⟨gO, 0, none⟩), .agg #[.int .i64 a', .int .i64 b', .slice A1 n3 c1, .slice A2 n3 c2, .slice A3 n3 c3], .bool true, .bool false, undef, .int .i64 y, .bool true, .bool false, undef, .pointer (some ⟨w.heap.size, 0, none⟩), .int .i64 a', .pointer (some ⟨w.heap.size, 1, none⟩), .int .i64 b', .pointer (some ⟨w.heap.size, 2, none⟩), .slice A1 n3 c1, .int .i64 y, .slice A5 n3 c5, .pointer (some ⟨w.heap.size, 3, none⟩), .slice A2 n3 c2, .int .i64 y, .slice A6 n3 c6, .pointer (some ⟨w.heap.size, 4, none⟩), .slice A3 n3 c3, .slice A7 n3 c7, .agg #[.int .i64 a', .int .i64 b', .slice A5 n3 c5, .slice A6 n3 c6, .slice A7 n3 c7], undef, undef, undef, undef, undef], defers := [] } W5 := by
    as_aux_lemma =>
      intro A5 A6 A7 c5 c6 c7 gO W5 hM
      apply hK0
      clear hK0 hyin q0 q1 q2 q3 q4
      obtain ⟨hbl, hgo, hbo, hsf⟩ := hM
      obtain ⟨j0, j1, j2, j3, j4⟩ := hbo.lcell
      simp only at j0 j1 j2 j3 j4
      have zW := hbl.size
      have hsp := specIsForm_any ⟨a', b', A5, n3, c5, A6, n3, c6, A7, n3, c7⟩ W5.heap.size F' G' H W5 hsf.rf (Nat.le_refl _) ⟨show n3 ≤ _ by omega, show n3 ≤ _ by omega, show n3 ≤ _ by omega⟩ HI3.out HI4.out
      simp only at hsp
      have bR5 := HBR.out.below hbl (by omega)
      have HBO := Lib.hid hbo
      have HSF := Lib.hid hsf
      have HB5 := Lib.hid (HB1.out.trans (hbl.mono (by omega)))
      clear hbo hsf hbl
      go_wp2_with fail
      refine hsp.mono ?_
      rintro e w6 ⟨rfl, hb6⟩
      have z6 := hb6.size
      have HB6 := Lib.hid (HB5.out.trans (hb6.mono (by omega)))
      have bR6 := bR5.below hb6 (by omega)
      have bE6 := HBO.out.below hb6 HBO.out.lt
      have HOF6 := Lib.hid (HSF.out.below hb6 (Nat.le_refl _))
      clear hb6 hsp j0 j1 j2 j3 j4 bR5
      cases hok2 : Fm.okB a' b' F' G' H
      · have HE3 : Hid (Fm.shC a' b' F G H y = 3) := Lib.hid (by rw [HE.out, hok2]; rfl)
        clear hok2 bE6
        obtain ⟨rfl, rfl, rfl, rfl, rfl, rfl⟩ := Fm.sh_bad HR.out HE3.out (by decide)
        have s4 := bR6.put5 fv0
        obtain ⟨x0, x1, x2, x3, x4⟩ := bR6.lcell
        simp only at x0 x1 x2 x3 x4
        obtain ⟨y0, y1, y2, y3, y4⟩ := bR6.freeF
        have HS4 := Lib.hid s4
        have HBW := Lib.hid (HB6.out)
        clear s4
        go_wp2_with fail
        obtain ⟨e0, e1, e2, e3, e4⟩ := HS4.out.lcell
        exact bodyPost_ret (v := .tuple #[Fv.v fv0, .int .i64 3]) (by simp [results, Try.results15, go_sem, e0, e1, e2, e3, e4]) rfl (SC5.mk_ fv0 rfl rfl (SF.zero _ w.heap.size w.heap.size) (Nat.le_refl _) (by have := HBW.out.size; simpa using this) fv0_le (below_put5 HBW.out fv0 (by omega)))
      · have HE3 : Hid (Fm.shC a' b' F G H y = 0) := Lib.hid (by rw [HE.out, hok2]; rfl)
        obtain ⟨hu0, hu1, hL1, hL2, hL3, rfl⟩ := Fm.sh_good HR.out HE3.out
        obtain rfl : a' = u0 := hu0.symm
        obtain rfl : b' = u1 := hu1.symm
        rw [HF'.out] at hL1
        rw [HG'.out] at hL2
        subst hL1 hL2 hL3
        clear hok2
        have s4 := bR6.put5 ⟨a', b', A5, n3, c5, A6, n3, c6, A7, n3, c7⟩
        obtain ⟨x0, x1, x2, x3, x4⟩ := bR6.lcell
        simp only at x0 x1 x2 x3 x4
        obtain ⟨y0, y1', y2', y3, y4⟩ := bR6.freeF
        obtain ⟨j0, j1, j2, j3, j4⟩ := bE6.lcell
        simp only at j0 j1 j2 j3 j4
        have HS4 := Lib.hid s4
        clear s4 bR6 bE6
        go_wp2_with fail
        obtain ⟨e0, e1, e2, e3, e4⟩ := HS4.out.lcell
        simp only at e0 e1 e2 e3 e4
        exact bodyPost_ret (v := .tuple #[Fv.v ⟨a', b', A5, n3, c5, A6, n3, c6, A7, n3, c7⟩, .int .i64 0]) (by simp [results, Try.results15, go_sem, e0, e1, e2, e3, e4]) rfl (SC5.mk_ ⟨a', b', A5, n3, c5, A6, n3, c6, A7, n3, c7⟩ rfl rfl (HOF6.out.put5 ⟨a', b', A5, n3, c5, A6, n3, c6, A7, n3, c7⟩ (.inl (by omega))) (by omega) (by simp; omega) ⟨show n3 ≤ _ by omega, show n3 ≤ _ by omega, show n3 ≤ _ by omega⟩ (below_put5 HB6.out ⟨a', b', A5, n3, c5, A6, n3, c6, A7, n3, c7⟩ (by omega)))
  have hv1 : Below w1.heap.size w1 w1.drew := below_drewN' (Below.refl _ w1) 1
  have hv1a : ∀ o, Below w1.heap.size w1 (w1.alloc o).drew := fun o => hv1.alloc (Nat.le_refl _) o
  have hnx1 : FBx (w1.alloc (.cells #[.int .i64 0, .int .i64 0, .slice none 0 0, .slice none 0 0, .slice none 0 0] 28)).drew w1.heap.size fv0 := FBx.new w1.drew fv0
  have hnx : ∀ V : World, FBx (V.alloc (.cells #[.int .i64 0, .int .i64 0, .slice none 0 0, .slice none 0 0, .slice none 0 0] 28)) V.heap.size fv0 := fun V => FBx.new V fv0
  have hS0 : Five w1.drew w.heap.size ⟨a', b', A1, n3, c1, A2, n3, c2, A3, n3, c3⟩ := ⟨q0, q1, q2, q3, q4⟩
  have hS0a : ∀ o, Five (w1.alloc o).drew w.heap.size ⟨a', b', A1, n3, c1, A2, n3, c2, A3, n3, c3⟩ := fun o => keepA (V := w1.drew) (f := ⟨a', b', A1, n3, c1, A2, n3, c2, A3, n3, c3⟩) (o := o) hwl hS0
  have hz1a : ∀ o : Obj, w1.heap.size ≤ (w1.alloc o).drew.heap.size := fun o => (hv1a o).size
  have hz1b : ∀ o : Obj, w1.heap.size < (w1.alloc o).drew.heap.size := fun o => (show w1.heap.size < (w1.alloc o).heap.size by simp)
  have hz1d : w1.heap.size ≤ w1.drew.heap.size := Nat.le_refl _
  have HC1 : ∀ V, Below w1.heap.size w1 V → Calls Try.prog 56 #[.slice A1 n3 c1, .int .i64 y] V fun e w' => ∃ A' c', e = .returned (.slice A' n3 c') ∧ Own I w' V.heap.size w'.heap.size 2 (.slice A' n3 c') F' ∧ Below V.heap.size V w' := fun V hV => shift_any A1 n3 c1 B y F V (HRR.out.below hV hBw1).r1 (by have := hV.size; omega) hn6 HSM.out.1 HY.out F' HF'.out
  have HC2 : ∀ V, Below w1.heap.size w1 V → Calls Try.prog 56 #[.slice A2 n3 c2, .int .i64 y] V fun e w' => ∃ A' c', e = .returned (.slice A' n3 c') ∧ Own I w' V.heap.size w'.heap.size 2 (.slice A' n3 c') G' ∧ Below V.heap.size V w' := fun V hV => shift_any A2 n3 c2 B y G V (HRR.out.below hV hBw1).r2 (by have := hV.size; omega) hn6 HSM.out.2 HY.out G' HG'.out
  have HC3 : ∀ V, Below w1.heap.size w1 V → Calls Try.prog 57 #[.slice A3 n3 c3] V fun e w' => ∃ A' c', e = .returned (.slice A' n3 c') ∧ Own I w' V.heap.size w'.heap.size 2 (.slice A' n3 c') H ∧ Below V.heap.size V w' := fun V hV => own_any A3 n3 c3 B H V (HRR.out.below hV hBw1).r3 (by have := hV.size; omega) hn6
  clear q0 q1 q2 q3 q4 hyin
  go_region_held3 (fun V => V.cell? ⟨w.heap.size, 0, none⟩ = some (.int .i64 a') ∧ V.cell? ⟨w.heap.size, 1, none⟩ = some (.int .i64 b') ∧ V.cell? ⟨w.heap.size, 2, none⟩ = some (.slice A1 n3 c1) ∧ V.cell? ⟨w.heap.size, 3, none⟩ = some (.slice A2 n3 c2) ∧ V.cell? ⟨w.heap.size, 4, none⟩ = some (.slice A3 n3 c3))
    (first | with_reducible exact hS0 | with_reducible exact (hS0a _) | with_reducible exact keepB (f := ⟨a', b', A1, n3, c1, A2, n3, c2, A3, n3, c3⟩) hbk (Nat.lt_of_lt_of_le hwl (hz1a _)) (by assumption) | with_reducible exact keepB (f := ⟨a', b', A1, n3, c1, A2, n3, c2, A3, n3, c3⟩) hbk (by first | omega | (simp; omega)) (by assumption) | with_reducible exact keepA (f := ⟨a', b', A1, n3, c1, A2, n3, c2, A3, n3, c3⟩) (by first | omega | (simp; omega)) (by assumption) | with_reducible exact keepAA (V := w4) (f := ⟨a', b', A1, n3, c1, A2, n3, c2, A3, n3, c3⟩) (by omega) (by assumption) | with_reducible exact keepP (V := w4) (g' := w3.heap.size) (f := ⟨a', b', A1, n3, c1, A2, n3, c2, A3, n3, c3⟩) (f' := ⟨a', b', A5, n3, c5, A6, n3, c6, A7, n3, c7⟩) (by omega) (by assumption) | with_reducible exact keepP (V := w4) (g' := w2.heap.size) (f := ⟨a', b', A1, n3, c1, A2, n3, c2, A3, n3, c3⟩) (f' := ⟨a', b', A5, n3, c5, A6, n3, c6, A7, n3, c7⟩) (by omega) (by assumption) | with_reducible exact keepP (V := w4) (g' := w1.heap.size) (f := ⟨a', b', A1, n3, c1, A2, n3, c2, A3, n3, c3⟩) (f' := ⟨a', b', A5, n3, c5, A6, n3, c6, A7, n3, c7⟩) (by omega) (by assumption) | go_keep)
    (first
      | (go_at_call 56; (first | with_reducible refine (HC2 _ hbl5).mono ?_ | with_reducible refine (HC2 _ (hbl5.alloc z5 _)).mono ?_); rintro e w3 ⟨A6, c6, rfl, o6, hbk⟩; have hbl6 : Below w2.heap.size w2 w3 := (by first | with_reducible exact hbk | exact (below_alloc w2 _).trans (hbk.mono (by simp))); (try have bX3 : FBx w3 w2.heap.size fv0 := (by with_reducible exact (hnx w2).below hbk (by simp))); (try have bX3 : FBx w3 w1.heap.size fv0 := bX2.below hbl6 bX2.lt); have z6 := hbl6.size; have o5b := o5.below hbl6 (Nat.le_refl _); have hbl56 := hbl5.trans (hbl6.mono z5))
      | (go_at_call 56; (first | with_reducible refine (HC1 _ hv1).mono ?_ | with_reducible refine (HC1 _ (hv1a _)).mono ?_); rintro e w2 ⟨A5, c5, rfl, o5, hbk⟩; have hbl5 : Below w1.heap.size w1 w2 := (by first | with_reducible exact hv1.trans (hbk.mono (show w1.heap.size ≤ w1.drew.heap.size from Nat.le_refl _)) | with_reducible exact (hv1a _).trans (hbk.mono (hz1a _))); (try have bX2 : FBx w2 w1.heap.size fv0 := (by with_reducible exact hnx1.below hbk (hz1b _))); have z5 := hbl5.size)
      | (go_at_call 57; (first | with_reducible refine (HC3 _ hbl56).mono ?_ | with_reducible refine (HC3 _ (hbl56.alloc (by omega) _)).mono ?_); rintro e w4 ⟨A7, c7, rfl, o7, hbk⟩; have hbl7 : Below w3.heap.size w3 w4 := (by first | with_reducible exact hbk | exact (below_alloc w3 _).trans (hbk.mono (by simp))); (try have bX4 : FBx w4 w3.heap.size fv0 := (by with_reducible exact (hnx w3).below hbk (by simp))); (try have bX4 : FBx w4 w2.heap.size fv0 := bX3.below hbl7 bX3.lt); (try have bX4 : FBx w4 w1.heap.size fv0 := bX3.below hbl7 bX3.lt); have z7 := hbl7.size; have o5c := o5b.below hbl7 (by omega); have o6c := o6.below hbl7 (Nat.le_refl _); (try (obtain ⟨x0, x1, x2, x3, x4⟩ := bX4.lcell; simp only at x0 x1 x2 x3 x4)); (try obtain ⟨r0, r1', r2', r3', r4'⟩ := bX4.freeF)))
  all_goals
    have B4 : Below w1.heap.size w1 w4 := hbl56.trans (hbl7.mono (by omega))
    clear hS0 hS0a HC1 HC2 HC3
  · refine hP A5 A6 A7 c5 c6 c7 w4.heap.size _ ?_
    exact ShP.atEnd (f := ⟨a', b', A5, n3, c5, A6, n3, c6, A7, n3, c7⟩) B4 o5c o6c o7 (by first | omega | with_reducible exact hz1a _ | with_reducible exact hz1d | (simp; omega) | simp) (by first | omega | with_reducible exact hz1a _ | with_reducible exact hz1d | (simp; omega) | simp) (by first | omega | with_reducible exact hz1a _ | with_reducible exact hz1d | (simp; omega) | simp) (by first | omega | with_reducible exact hz1a _ | with_reducible exact hz1d | (simp; omega) | simp) (by first | omega | with_reducible exact hz1a _ | with_reducible exact hz1d | (simp; omega) | simp) (by first | omega | with_reducible exact hz1a _ | with_reducible exact hz1d | (simp; omega) | simp)
  · have g4 := bX4.lt
    refine hP A5 A6 A7 c5 c6 c7 w3.heap.size _ ?_
    exact ShP.atPut (f := ⟨a', b', A5, n3, c5, A6, n3, c6, A7, n3, c7⟩) B4 o5c o6c o7 (by first | omega | with_reducible exact hz1a _ | with_reducible exact hz1d | (simp; omega) | simp) (by first | omega | with_reducible exact hz1a _ | with_reducible exact hz1d | (simp; omega) | simp) (by first | omega | with_reducible exact hz1a _ | with_reducible exact hz1d | (simp; omega) | simp) (by first | omega | with_reducible exact hz1a _ | with_reducible exact hz1d | (simp; omega) | simp) (by first | omega | with_reducible exact hz1a _ | with_reducible exact hz1d | (simp; omega) | simp) (by first | omega | with_reducible exact hz1a _ | with_reducible exact hz1d | (simp; omega) | simp) bX4 (by omega) (by first | omega | with_reducible exact .inl (hz1b _) | (left; simp; done) | (simp; omega)) (by first | omega | with_reducible exact .inl (hz1b _) | (left; simp; done) | (simp; omega)) (by first | omega | with_reducible exact .inl (hz1b _) | (left; simp; done) | (simp; omega))
  · have g3 := bX3.lt
    refine hP A5 A6 A7 c5 c6 c7 w2.heap.size _ ?_
    exact ShP.atPut (f := ⟨a', b', A5, n3, c5, A6, n3, c6, A7, n3, c7⟩) B4 o5c o6c o7 (by first | omega | with_reducible exact hz1a _ | with_reducible exact hz1d | (simp; omega) | simp) (by first | omega | with_reducible exact hz1a _ | with_reducible exact hz1d | (simp; omega) | simp) (by first | omega | with_reducible exact hz1a _ | with_reducible exact hz1d | (simp; omega) | simp) (by first | omega | with_reducible exact hz1a _ | with_reducible exact hz1d | (simp; omega) | simp) (by first | omega | with_reducible exact hz1a _ | with_reducible exact hz1d | (simp; omega) | simp) (by first | omega | with_reducible exact hz1a _ | with_reducible exact hz1d | (simp; omega) | simp) bX4 (by omega) (by first | omega | with_reducible exact .inl (hz1b _) | (left; simp; done) | (simp; omega)) (by first | omega | with_reducible exact .inl (hz1b _) | (left; simp; done) | (simp; omega)) (by first | omega | with_reducible exact .inl (hz1b _) | (left; simp; done) | (simp; omega))
  · have g2 := bX2.lt
    refine hP A5 A6 A7 c5 c6 c7 w1.heap.size _ ?_
    exact ShP.atPut (f := ⟨a', b', A5, n3, c5, A6, n3, c6, A7, n3, c7⟩) B4 o5c o6c o7 (by first | omega | with_reducible exact hz1a _ | with_reducible exact hz1d | (simp; omega) | simp) (by first | omega | with_reducible exact hz1a _ | with_reducible exact hz1d | (simp; omega) | simp) (by first | omega | with_reducible exact hz1a _ | with_reducible exact hz1d | (simp; omega) | simp) (by first | omega | with_reducible exact hz1a _ | with_reducible exact hz1d | (simp; omega) | simp) (by first | omega | with_reducible exact hz1a _ | with_reducible exact hz1d | (simp; omega) | simp) (by first | omega | with_reducible exact hz1a _ | with_reducible exact hz1d | (simp; omega) | simp) bX4 (by omega) (by first | omega | with_reducible exact .inl (hz1b _) | (left; simp; done) | (simp; omega)) (by first | omega | with_reducible exact .inl (hz1b _) | (left; simp; done) | (simp; omega)) (by first | omega | with_reducible exact .inl (hz1b _) | (left; simp; done) | (simp; omega))
end Go.Proofs.Ytgplciodddfpbaa
