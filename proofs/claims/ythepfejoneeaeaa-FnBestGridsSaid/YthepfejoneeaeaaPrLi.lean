/- Contract of the program's LeastSheet. -/
import Derived.Test.YthepfejoneeaeaaPrLs
namespace Go.Proofs.Ythepfejoneeaeaa
open Go.RowKit

theorem put4_keep {W : World} {g : Nat} {v0 v1 v2 v3 : Value} {b o : Nat} {v : Value} (hne : b ≠ g) (h : W.cell? ⟨b, o, none⟩ = some v) : (put4w W g v0 v1 v2 v3).cell? ⟨b, o, none⟩ = some v := by
  have k : ∀ (V : World) (q : Addr) (x : Value), q.block = g → (V.setCell q x).cell? ⟨b, o, none⟩ = V.cell? ⟨b, o, none⟩ := fun V q x hq => World.cell?_setCell_other (w := V) (v := x) (a := q) _ (fun he => hne (by rw [← hq, he]))
  exact (k _ _ _ rfl).trans ((k _ _ _ rfl).trans ((k _ _ _ rfl).trans ((k _ _ _ rfl).trans h)))
/-- The four cells of a trim's box. -/
abbrev Four (V : World) (g : Nat) (c d e f : Int) : Prop := V.cell? ⟨g, 0, none⟩ = some (.int .i64 c) ∧ V.cell? ⟨g, 1, none⟩ = some (.int .i64 d) ∧ V.cell? ⟨g, 2, none⟩ = some (.int .i64 e) ∧ V.cell? ⟨g, 3, none⟩ = some (.int .i64 f)
theorem keep4B {V V' : World} {B g : Nat} {c d e f : Int} (hb : Below B V V') (hg : g < B) (hS : Four V g c d e f) : Four V' g c d e f :=
  ⟨(hb.cell (p := ⟨g, 0, none⟩) hg).trans hS.1, (hb.cell (p := ⟨g, 1, none⟩) hg).trans hS.2.1, (hb.cell (p := ⟨g, 2, none⟩) hg).trans hS.2.2.1, (hb.cell (p := ⟨g, 3, none⟩) hg).trans hS.2.2.2⟩
theorem keep4A {V : World} {g : Nat} {c d e f : Int} {o : Obj} (hg : g < V.heap.size) (hS : Four V g c d e f) : Four (V.alloc o) g c d e f := keep4B (below_new V o) hg hS
theorem keep4AA {V : World} {g : Nat} {c d e f : Int} {o o' : Obj} (hg : g < V.heap.size) (hS : Four (V.alloc o) g c d e f) : Four (V.alloc o') g c d e f := by
  have h : ∀ i u, (V.alloc o).cell? ⟨g, i, none⟩ = some u → (V.alloc o').cell? ⟨g, i, none⟩ = some u := fun i u hu => ((below_new V o').cell (p := ⟨g, i, none⟩) hg).trans (((below_new V o).cell (p := ⟨g, i, none⟩) hg).symm.trans hu)
  exact ⟨h _ _ hS.1, h _ _ hS.2.1, h _ _ hS.2.2.1, h _ _ hS.2.2.2⟩
theorem keep4P {V : World} {g g' : Nat} {v0 v1 v2 v3 : Value} {c d e f : Int} (hne : g ≠ g') (hS : Four V g c d e f) : Four (put4w V g' v0 v1 v2 v3) g c d e f :=
  ⟨put4_keep hne hS.1, put4_keep hne hS.2.1, put4_keep hne hS.2.2.1, put4_keep hne hS.2.2.2⟩
theorem sz_alloc {w V : World} {o : Obj} (h : Below (w.alloc o).heap.size (w.alloc o) V) : w.heap.size + 1 ≤ V.heap.size := by
  have h1 := h.size
  simpa using h1
theorem sz_d (w : World) : w.heap.size ≤ w.drew.heap.size := Nat.le_refl _

/-- The sheet that the program makes: its box and the result's, wherever they came. -/
structure LsQ (w V : World) (gp : Nat) (a b t : Int) : Prop where
  bel : Below w.heap.size w V
  le : w.heap.size + 2 ≤ gp
  lt : gp < V.heap.size
  box : Blk V gp #[.int .i64 a, .int .i64 b, .int .i64 t, .bool true] 25
  res : Blk V (w.heap.size + 1) #[.int .i64 0, .int .i64 0, .int .i64 0, .bool false] 25
theorem LsQ.atPut {w V : World} {gp : Nat} {a b t : Int} (hB : Below w.heap.size w V) (hg : w.heap.size + 2 ≤ gp) (hb : Blk V gp #[.int .i64 0, .int .i64 0, .int .i64 0, .bool false] 25) (hr : Blk V (w.heap.size + 1) #[.int .i64 0, .int .i64 0, .int .i64 0, .bool false] 25) :
    LsQ w (put4w V gp (.int .i64 a) (.int .i64 b) (.int .i64 t) (.bool true)) gp a b t :=
  have hne : w.heap.size + 1 ≠ gp := by omega
  ⟨below_put4 hB (by omega) _ _ _ _, hg, (hb.put4 _ _ _ _).lt, hb.put4 _ _ _ _, (((hr.other ⟨gp, 0, none⟩ _ hne).other ⟨gp, 1, none⟩ _ hne).other ⟨gp, 2, none⟩ _ hne).other ⟨gp, 3, none⟩ _ hne⟩
theorem LsQ.atEnd {w V : World} {a b t : Int} (hB : Below w.heap.size w V) (hg : w.heap.size + 2 ≤ V.heap.size) (hr : Blk V (w.heap.size + 1) #[.int .i64 0, .int .i64 0, .int .i64 0, .bool false] 25) :
    LsQ w (V.alloc (.cells #[.int .i64 a, .int .i64 b, .int .i64 t, .bool true] 25)) V.heap.size a b t :=
  have hn : Blk (V.alloc (.cells #[.int .i64 a, .int .i64 b, .int .i64 t, .bool true] 25)) V.heap.size #[.int .i64 a, .int .i64 b, .int .i64 t, .bool true] 25 := Blk.new _ _ rfl
  ⟨hB.alloc (by omega) _, hg, hn.lt, hn, hr.alloc _⟩

set_option maxRecDepth 100000 in
set_option maxHeartbeats 8000000 in
theorem implLs_good (c d e f n m t WW HH : Int) (B : Bool) (w : World) (ht : Pr.tmB c d e f = true) (hn : 1 ≤ n ∧ n ≤ 20000) (hm : 1 ≤ m ∧ m ≤ 20000) (hg : 0 ≤ t ∧ t ≤ 20000) (hWW : Pr.need n c e f = WW) (hHH : Pr.need m d e f = HH) (hs : Pr.shB WW (HH + t) t = B) :
    Calls Try.prog 32 #[TV c d e f, .int .i64 n, .int .i64 m, .int .i64 t] w fun e' w' => e' = .returned (bif B then .tuple #[PV WW (HH + t) t true, .int .i64 0] else .tuple #[PV 0 0 0 false, .int .i64 3]) ∧ Below w.heap.size w w' := by
  obtain ⟨c1, d1, e1, f1⟩ := Pr.tm_out ht
  obtain ⟨x, y, xx, hx, hy, hxx, hW, hW2, xb, yb, xxb⟩ := Pr.need_parts hn c1 e1 f1
  obtain ⟨x2, y2, xx2, hx2, hy2, hxx2, hW3, hW4, x2b, y2b, xx2b⟩ := Pr.need_parts hm d1 e1 f1
  rw [hWW] at hW hW2
  rw [hHH] at hW3 hW4
  have v7_ : IntKind.i64.wrap (HH + t) = HH + t := IntWalk.i64_in _ (by omega)
  have HC1 : ∀ V, Calls Try.prog 54 #[TV c d e f, .int .i64 n, .int .i64 c] V fun e' w' => e' = .returned (.int .i64 WW) ∧ Below V.heap.size V w' := fun V => by have h_ := needed_any c d e f n c xx V e1 f1 c1 hxx xxb; rwa [hW2] at h_
  have HC2 : ∀ V, Calls Try.prog 54 #[TV c d e f, .int .i64 m, .int .i64 d] V fun e' w' => e' = .returned (.int .i64 HH) ∧ Below V.heap.size V w' := fun V => by have h_ := needed_any c d e f m d xx2 V e1 f1 d1 hxx2 xx2b; rwa [hW4] at h_
  obtain ⟨n1, n2⟩ := hn
  obtain ⟨m1, m2⟩ := hm
  have H3 := Lib.hid (margT hg.1 hg.2)
  have Q := Lib.hid ht
  have QS := Lib.hid hs
  clear ht hs hg hx hy hxx hW hW2 hx2 hy2 hxx2 hW3 hW4 hWW hHH
  rcases Int.lt_trichotomy n m with o | o | o
  · have o2 : n ≤ m := by omega
    have o3 : ¬ m ≤ n := by omega
    have hmin : min n m = n := by omega
    have hmax : max n m = m := by omega
    have B0_0 := Lib.hid ((Blk.new (w := w) (g := w.heap.size) #[.int .i64 c, .int .i64 d, .int .i64 e, .int .i64 f] 27 (by simp)).alloc (.cells #[.int .i64 0, .int .i64 0, .int .i64 0, .bool false] 25))
    have B0_1 := Lib.hid (Blk.new (w := (w.alloc (.cells #[.int .i64 c, .int .i64 d, .int .i64 e, .int .i64 f] 27))) (g := w.heap.size + 1) #[.int .i64 0, .int .i64 0, .int .i64 0, .bool false] 25 (by simp))
    have HB0 := Lib.hid ((below_new w (.cells #[.int .i64 c, .int .i64 d, .int .i64 e, .int .i64 f] 27)).alloc (by simp <;> omega) (.cells #[.int .i64 0, .int .i64 0, .int .i64 0, .bool false] 25))
    have Z0 : ((w.alloc (.cells #[.int .i64 c, .int .i64 d, .int .i64 e, .int .i64 f] 27)).alloc (.cells #[.int .i64 0, .int .i64 0, .int .i64 0, .bool false] 25)).heap.size = w.heap.size + 2 := by simp
    have HZ0 := Lib.hid Z0
    clear Z0
    go_enter Try.func32, Try.ntmps32
    go_wp2_with fail
    refine (implTm_any c d e f true _ Q.out).mono ?_
    rintro e' w1 ⟨rfl, hb1⟩
    have z1 : w.heap.size + 2 ≤ w1.heap.size := by have h_ := hb1.size; rw [HZ0.out] at h_; exact h_
    have HB1 := Lib.hid (HB0.out.trans (hb1.mono (by rw [HZ0.out]; omega)))
    have B1_0 := Lib.hid (B0_0.out.below hb1 (by rw [HZ0.out]; omega))
    have c1_0_0 := B1_0.out.cell 0 (v := .int .i64 c) rfl
    have c1_0_1 := B1_0.out.cell 1 (v := .int .i64 d) rfl
    have c1_0_2 := B1_0.out.cell 2 (v := .int .i64 e) rfl
    have c1_0_3 := B1_0.out.cell 3 (v := .int .i64 f) rfl
    have B1_1 := Lib.hid (B0_1.out.below hb1 (by rw [HZ0.out]; omega))
    clear hb1
    go_wp2_with fail
    refine (marg_any t true _ H3.out).mono ?_
    rintro e' _ ⟨rfl, rfl⟩
    have zz : w.heap.size < w1.heap.size := by omega
    have hv1 : Below w1.heap.size w1 w1.drew := below_drewN' (Below.refl _ w1) 1
    have hv1a : ∀ o, Below w1.heap.size w1 (w1.alloc o).drew := fun o => hv1.alloc (Nat.le_refl _) o
    have hS0 : Four w1.drew w.heap.size c d e f := ⟨c1_0_0, c1_0_1, c1_0_2, c1_0_3⟩
    have hS0a : ∀ o, Four (w1.alloc o).drew w.heap.size c d e f := fun o => keep4A (V := w1.drew) zz hS0
    have hnx1 : Blk (w1.alloc (.cells #[.int .i64 0, .int .i64 0, .int .i64 0, .bool false] 25)).drew w1.heap.size #[.int .i64 0, .int .i64 0, .int .i64 0, .bool false] 25 := Blk.new _ _ rfl
    have hnx : ∀ V : World, Blk (V.alloc (.cells #[.int .i64 0, .int .i64 0, .int .i64 0, .bool false] 25)) V.heap.size #[.int .i64 0, .int .i64 0, .int .i64 0, .bool false] 25 := fun V => Blk.new _ _ rfl
    have hz1b : ∀ o : Obj, w1.heap.size < (w1.alloc o).drew.heap.size := fun o => (show w1.heap.size < (w1.alloc o).heap.size by simp)
    go_wp2_with fail
    rename_i K hK0
    have hP : ∀ (gp : Nat) (V : World), LsQ w V gp WW (HH + t) t → K { tmps := #[TV c d e f, .int .i64 n, .int .i64 m, .int .i64 t, .pointer (some ⟨w.heap.size, 0, none⟩), undef, undef, undef, .pointer (some ⟨w.heap.size + 1, 0, none⟩), .int .i64 0, .pointer (some ⟨gp, 0, none⟩), TV c d e f, .bool true, .bool false, undef, .int .i64 n, .int .i64 m, .int .i64 n, .bool (decide (n < 1)), .bool (decide (n < 1)), .int .i64 n, .int .i64 m, .int .i64 m, .bool (decide (20000 < m)), .bool (decide (n < 1) || decide (20000 < m)), .bool (decide (n < 1) || decide (20000 < m)), .int .i64 t, .bool true, .bool false, .bool (decide (n < 1) || decide (20000 < m)), undef, TV c d e f, .int .i64 n, .pointer (some ⟨w.heap.size, 0, none⟩), .int .i64 c, .int .i64 WW, TV c d e f, .int .i64 m, .pointer (some ⟨w.heap.size, 1, none⟩), .int .i64 d, .int .i64 HH, .int .i64 t, .int .i64 (HH + t), .int .i64 t, PV WW (HH + t) t true, undef, undef, undef, undef, undef], defers := [] } V := by
      as_aux_lemma =>
        intro gp V hM
        apply hK0
        clear hK0 hv1 hv1a hS0 hS0a hnx1 hnx hz1b c1_0_0 c1_0_1 c1_0_2 c1_0_3
        obtain ⟨hbl, hgo, hlt, hbo, hre⟩ := hM
        have y0 := hbo.cell 0 (v := .int .i64 WW) rfl
        have y1 := hbo.cell 1 (v := .int .i64 (HH + t)) rfl
        have y2 := hbo.cell 2 (v := .int .i64 t) rfl
        have y3 := hbo.cell 3 (v := .bool true) rfl
        have HBO := Lib.hid hbo
        have HRE := Lib.hid hre
        have HBL := Lib.hid hbl
        have zV : w.heap.size + 2 ≤ V.heap.size := by omega
        clear hbo hre hbl
        go_wp2_with fail
        refine (implPr_any WW (HH + t) t true B _ QS.out).mono ?_
        rintro e' w5 ⟨rfl, hb5⟩
        have HB5 := Lib.hid (HBL.out.trans (hb5.mono (by omega)))
        have BR := Lib.hid (HRE.out.below hb5 (by omega))
        have NP := Lib.hid (HBO.out.below hb5 hlt)
        clear hb5 y0 y1 y2 y3
        have x0 := BR.out.cell 0 (v := .int .i64 0) rfl
        have x1 := BR.out.cell 1 (v := .int .i64 0) rfl
        have x2 := BR.out.cell 2 (v := .int .i64 0) rfl
        have x3 := BR.out.cell 3 (v := .bool false) rfl
        have p0 := BR.out.free 0
        have p1 := BR.out.free 1
        have p2 := BR.out.free 2
        have p3 := BR.out.free 3
        cases B
        · have S4 := Lib.hid (BR.out.put4 (.int .i64 0) (.int .i64 0) (.int .i64 0) (.bool false))
          go_wp2_with fail
          have d0 := S4.out.cell 0 (v := .int .i64 0) rfl
          have d1 := S4.out.cell 1 (v := .int .i64 0) rfl
          have d2 := S4.out.cell 2 (v := .int .i64 0) rfl
          have d3 := S4.out.cell 3 (v := .bool false) rfl
          exact bodyPost_ret (v := .tuple #[PV 0 0 0 false, .int .i64 3]) (by simp [results, Try.results32, go_sem, d0, d1, d2, d3]) rfl ⟨rfl, below_put4 HB5.out (by omega) _ _ _ _⟩
        · have S4 := Lib.hid (BR.out.put4 (.int .i64 WW) (.int .i64 (HH + t)) (.int .i64 t) (.bool true))
          have y0 := NP.out.cell 0 (v := .int .i64 WW) rfl
          have y1 := NP.out.cell 1 (v := .int .i64 (HH + t)) rfl
          have y2 := NP.out.cell 2 (v := .int .i64 t) rfl
          have y3 := NP.out.cell 3 (v := .bool true) rfl
          go_wp2_with fail
          have d0 := S4.out.cell 0 (v := .int .i64 WW) rfl
          have d1 := S4.out.cell 1 (v := .int .i64 (HH + t)) rfl
          have d2 := S4.out.cell 2 (v := .int .i64 t) rfl
          have d3 := S4.out.cell 3 (v := .bool true) rfl
          exact bodyPost_ret (v := .tuple #[PV WW (HH + t) t true, .int .i64 0]) (by simp [results, Try.results32, go_sem, d0, d1, d2, d3]) rfl ⟨rfl, below_put4 HB5.out (by omega) _ _ _ _⟩
    go_region_held3 (fun V => V.cell? ⟨w.heap.size, 0, none⟩ = some (.int .i64 c) ∧ V.cell? ⟨w.heap.size, 1, none⟩ = some (.int .i64 d) ∧ V.cell? ⟨w.heap.size, 2, none⟩ = some (.int .i64 e) ∧ V.cell? ⟨w.heap.size, 3, none⟩ = some (.int .i64 f))
      (first | with_reducible exact hS0 | with_reducible exact (hS0a _) | with_reducible exact keep4B hbk (by first | omega | (simp; omega)) (by assumption) | with_reducible exact keep4A (by first | omega | (simp; omega)) (by assumption) | with_reducible exact keep4AA (V := w3) (by omega) (by assumption) | with_reducible exact keep4P (V := w3) (g' := w2.heap.size) (by omega) (by assumption) | with_reducible exact keep4P (V := w3) (g' := w1.heap.size) (by omega) (by assumption) | go_keep)
      (first
        | (go_at_call 54; with_reducible refine (HC2 _).mono ?_; rintro e' w3 ⟨rfl, hbk⟩; have z3 : w2.heap.size ≤ w3.heap.size := (by first | exact hbk.size | exact sz_drew hbk | exact Nat.le_of_succ_le (sz_alloc hbk)); have hbk3 : Below w2.heap.size w2 w3 := (by first | with_reducible exact hbk | exact (below_new w2 _).trans (hbk.mono (by simp))); have zw3 : w.heap.size < w3.heap.size := (by omega); (try have bX3 : Blk w3 w2.heap.size #[.int .i64 0, .int .i64 0, .int .i64 0, .bool false] 25 := (by with_reducible exact (hnx w2).below hbk (by simp))); (try have bX3 : Blk w3 w1.heap.size #[.int .i64 0, .int .i64 0, .int .i64 0, .bool false] 25 := bX2.below hbk3 bX2.lt); (try have X0 := bX3.cell 0 (v := .int .i64 0) rfl); (try have X1 := bX3.cell 1 (v := .int .i64 0) rfl); (try have X2 := bX3.cell 2 (v := .int .i64 0) rfl); (try have X3 := bX3.cell 3 (v := .bool false) rfl); (try have R0 := bX3.free 0); (try have R1 := bX3.free 1); (try have R2 := bX3.free 2); (try have R3 := bX3.free 3))
        | (go_at_call 54; with_reducible refine (HC1 _).mono ?_; rintro e' w2 ⟨rfl, hbk⟩; have z2 : w1.heap.size ≤ w2.heap.size := (by first | exact sz_drew hbk | exact Nat.le_of_succ_le (sz_new hbk)); have hbk2 : Below w1.heap.size w1 w2 := (by first | with_reducible exact hv1.trans (hbk.mono (sz_d w1)) | exact (hv1a _).trans (hbk.mono (hv1a _).size)); have zw2 : w.heap.size < w2.heap.size := (by omega); (try have bX2 : Blk w2 w1.heap.size #[.int .i64 0, .int .i64 0, .int .i64 0, .bool false] 25 := (by with_reducible exact hnx1.below hbk (hz1b _)))))
    all_goals
      have B3 := HB1.out.trans ((hbk2.trans (hbk3.mono z2)).mono (show w.heap.size ≤ w1.heap.size by omega))
      have r3 := (B1_1.out.below hbk2 (by omega)).below hbk3 (by omega)
    · (show K _ _); with_reducible exact hP _ _ (LsQ.atEnd B3 (by omega) r3)
    · (show K _ _); with_reducible exact hP _ _ (LsQ.atPut B3 (by omega) bX3 r3)
    · (show K _ _); with_reducible exact hP _ _ (LsQ.atPut B3 (by omega) bX3 r3)
  · subst o
    have hmin : min n n = n := by omega
    have hmax : max n n = n := by omega
    have B0_0 := Lib.hid ((Blk.new (w := w) (g := w.heap.size) #[.int .i64 c, .int .i64 d, .int .i64 e, .int .i64 f] 27 (by simp)).alloc (.cells #[.int .i64 0, .int .i64 0, .int .i64 0, .bool false] 25))
    have B0_1 := Lib.hid (Blk.new (w := (w.alloc (.cells #[.int .i64 c, .int .i64 d, .int .i64 e, .int .i64 f] 27))) (g := w.heap.size + 1) #[.int .i64 0, .int .i64 0, .int .i64 0, .bool false] 25 (by simp))
    have HB0 := Lib.hid ((below_new w (.cells #[.int .i64 c, .int .i64 d, .int .i64 e, .int .i64 f] 27)).alloc (by simp <;> omega) (.cells #[.int .i64 0, .int .i64 0, .int .i64 0, .bool false] 25))
    have Z0 : ((w.alloc (.cells #[.int .i64 c, .int .i64 d, .int .i64 e, .int .i64 f] 27)).alloc (.cells #[.int .i64 0, .int .i64 0, .int .i64 0, .bool false] 25)).heap.size = w.heap.size + 2 := by simp
    have HZ0 := Lib.hid Z0
    clear Z0
    go_enter Try.func32, Try.ntmps32
    go_wp2_with fail
    refine (implTm_any c d e f true _ Q.out).mono ?_
    rintro e' w1 ⟨rfl, hb1⟩
    have z1 : w.heap.size + 2 ≤ w1.heap.size := by have h_ := hb1.size; rw [HZ0.out] at h_; exact h_
    have HB1 := Lib.hid (HB0.out.trans (hb1.mono (by rw [HZ0.out]; omega)))
    have B1_0 := Lib.hid (B0_0.out.below hb1 (by rw [HZ0.out]; omega))
    have c1_0_0 := B1_0.out.cell 0 (v := .int .i64 c) rfl
    have c1_0_1 := B1_0.out.cell 1 (v := .int .i64 d) rfl
    have c1_0_2 := B1_0.out.cell 2 (v := .int .i64 e) rfl
    have c1_0_3 := B1_0.out.cell 3 (v := .int .i64 f) rfl
    have B1_1 := Lib.hid (B0_1.out.below hb1 (by rw [HZ0.out]; omega))
    clear hb1
    go_wp2_with fail
    refine (marg_any t true _ H3.out).mono ?_
    rintro e' _ ⟨rfl, rfl⟩
    have zz : w.heap.size < w1.heap.size := by omega
    have hv1 : Below w1.heap.size w1 w1.drew := below_drewN' (Below.refl _ w1) 1
    have hv1a : ∀ o, Below w1.heap.size w1 (w1.alloc o).drew := fun o => hv1.alloc (Nat.le_refl _) o
    have hS0 : Four w1.drew w.heap.size c d e f := ⟨c1_0_0, c1_0_1, c1_0_2, c1_0_3⟩
    have hS0a : ∀ o, Four (w1.alloc o).drew w.heap.size c d e f := fun o => keep4A (V := w1.drew) zz hS0
    have hnx1 : Blk (w1.alloc (.cells #[.int .i64 0, .int .i64 0, .int .i64 0, .bool false] 25)).drew w1.heap.size #[.int .i64 0, .int .i64 0, .int .i64 0, .bool false] 25 := Blk.new _ _ rfl
    have hnx : ∀ V : World, Blk (V.alloc (.cells #[.int .i64 0, .int .i64 0, .int .i64 0, .bool false] 25)) V.heap.size #[.int .i64 0, .int .i64 0, .int .i64 0, .bool false] 25 := fun V => Blk.new _ _ rfl
    have hz1b : ∀ o : Obj, w1.heap.size < (w1.alloc o).drew.heap.size := fun o => (show w1.heap.size < (w1.alloc o).heap.size by simp)
    go_wp2_with fail
    rename_i K hK0
    have hP : ∀ (gp : Nat) (V : World), LsQ w V gp WW (HH + t) t → K { tmps := #[TV c d e f, .int .i64 n, .int .i64 n, .int .i64 t, .pointer (some ⟨w.heap.size, 0, none⟩), undef, undef, undef, .pointer (some ⟨w.heap.size + 1, 0, none⟩), .int .i64 0, .pointer (some ⟨gp, 0, none⟩), TV c d e f, .bool true, .bool false, undef, .int .i64 n, .int .i64 n, .int .i64 n, .bool (decide (n < 1)), .bool (decide (n < 1)), .int .i64 n, .int .i64 n, .int .i64 n, .bool (decide (20000 < n)), .bool (decide (n < 1) || decide (20000 < n)), .bool (decide (n < 1) || decide (20000 < n)), .int .i64 t, .bool true, .bool false, .bool (decide (n < 1) || decide (20000 < n)), undef, TV c d e f, .int .i64 n, .pointer (some ⟨w.heap.size, 0, none⟩), .int .i64 c, .int .i64 WW, TV c d e f, .int .i64 n, .pointer (some ⟨w.heap.size, 1, none⟩), .int .i64 d, .int .i64 HH, .int .i64 t, .int .i64 (HH + t), .int .i64 t, PV WW (HH + t) t true, undef, undef, undef, undef, undef], defers := [] } V := by
      as_aux_lemma =>
        intro gp V hM
        apply hK0
        clear hK0 hv1 hv1a hS0 hS0a hnx1 hnx hz1b c1_0_0 c1_0_1 c1_0_2 c1_0_3
        obtain ⟨hbl, hgo, hlt, hbo, hre⟩ := hM
        have y0 := hbo.cell 0 (v := .int .i64 WW) rfl
        have y1 := hbo.cell 1 (v := .int .i64 (HH + t)) rfl
        have y2 := hbo.cell 2 (v := .int .i64 t) rfl
        have y3 := hbo.cell 3 (v := .bool true) rfl
        have HBO := Lib.hid hbo
        have HRE := Lib.hid hre
        have HBL := Lib.hid hbl
        have zV : w.heap.size + 2 ≤ V.heap.size := by omega
        clear hbo hre hbl
        go_wp2_with fail
        refine (implPr_any WW (HH + t) t true B _ QS.out).mono ?_
        rintro e' w5 ⟨rfl, hb5⟩
        have HB5 := Lib.hid (HBL.out.trans (hb5.mono (by omega)))
        have BR := Lib.hid (HRE.out.below hb5 (by omega))
        have NP := Lib.hid (HBO.out.below hb5 hlt)
        clear hb5 y0 y1 y2 y3
        have x0 := BR.out.cell 0 (v := .int .i64 0) rfl
        have x1 := BR.out.cell 1 (v := .int .i64 0) rfl
        have x2 := BR.out.cell 2 (v := .int .i64 0) rfl
        have x3 := BR.out.cell 3 (v := .bool false) rfl
        have p0 := BR.out.free 0
        have p1 := BR.out.free 1
        have p2 := BR.out.free 2
        have p3 := BR.out.free 3
        cases B
        · have S4 := Lib.hid (BR.out.put4 (.int .i64 0) (.int .i64 0) (.int .i64 0) (.bool false))
          go_wp2_with fail
          have d0 := S4.out.cell 0 (v := .int .i64 0) rfl
          have d1 := S4.out.cell 1 (v := .int .i64 0) rfl
          have d2 := S4.out.cell 2 (v := .int .i64 0) rfl
          have d3 := S4.out.cell 3 (v := .bool false) rfl
          exact bodyPost_ret (v := .tuple #[PV 0 0 0 false, .int .i64 3]) (by simp [results, Try.results32, go_sem, d0, d1, d2, d3]) rfl ⟨rfl, below_put4 HB5.out (by omega) _ _ _ _⟩
        · have S4 := Lib.hid (BR.out.put4 (.int .i64 WW) (.int .i64 (HH + t)) (.int .i64 t) (.bool true))
          have y0 := NP.out.cell 0 (v := .int .i64 WW) rfl
          have y1 := NP.out.cell 1 (v := .int .i64 (HH + t)) rfl
          have y2 := NP.out.cell 2 (v := .int .i64 t) rfl
          have y3 := NP.out.cell 3 (v := .bool true) rfl
          go_wp2_with fail
          have d0 := S4.out.cell 0 (v := .int .i64 WW) rfl
          have d1 := S4.out.cell 1 (v := .int .i64 (HH + t)) rfl
          have d2 := S4.out.cell 2 (v := .int .i64 t) rfl
          have d3 := S4.out.cell 3 (v := .bool true) rfl
          exact bodyPost_ret (v := .tuple #[PV WW (HH + t) t true, .int .i64 0]) (by simp [results, Try.results32, go_sem, d0, d1, d2, d3]) rfl ⟨rfl, below_put4 HB5.out (by omega) _ _ _ _⟩
    go_region_held3 (fun V => V.cell? ⟨w.heap.size, 0, none⟩ = some (.int .i64 c) ∧ V.cell? ⟨w.heap.size, 1, none⟩ = some (.int .i64 d) ∧ V.cell? ⟨w.heap.size, 2, none⟩ = some (.int .i64 e) ∧ V.cell? ⟨w.heap.size, 3, none⟩ = some (.int .i64 f))
      (first | with_reducible exact hS0 | with_reducible exact (hS0a _) | with_reducible exact keep4B hbk (by first | omega | (simp; omega)) (by assumption) | with_reducible exact keep4A (by first | omega | (simp; omega)) (by assumption) | with_reducible exact keep4AA (V := w3) (by omega) (by assumption) | with_reducible exact keep4P (V := w3) (g' := w2.heap.size) (by omega) (by assumption) | with_reducible exact keep4P (V := w3) (g' := w1.heap.size) (by omega) (by assumption) | go_keep)
      (first
        | (go_at_call 54; with_reducible refine (HC2 _).mono ?_; rintro e' w3 ⟨rfl, hbk⟩; have z3 : w2.heap.size ≤ w3.heap.size := (by first | exact hbk.size | exact sz_drew hbk | exact Nat.le_of_succ_le (sz_alloc hbk)); have hbk3 : Below w2.heap.size w2 w3 := (by first | with_reducible exact hbk | exact (below_new w2 _).trans (hbk.mono (by simp))); have zw3 : w.heap.size < w3.heap.size := (by omega); (try have bX3 : Blk w3 w2.heap.size #[.int .i64 0, .int .i64 0, .int .i64 0, .bool false] 25 := (by with_reducible exact (hnx w2).below hbk (by simp))); (try have bX3 : Blk w3 w1.heap.size #[.int .i64 0, .int .i64 0, .int .i64 0, .bool false] 25 := bX2.below hbk3 bX2.lt); (try have X0 := bX3.cell 0 (v := .int .i64 0) rfl); (try have X1 := bX3.cell 1 (v := .int .i64 0) rfl); (try have X2 := bX3.cell 2 (v := .int .i64 0) rfl); (try have X3 := bX3.cell 3 (v := .bool false) rfl); (try have R0 := bX3.free 0); (try have R1 := bX3.free 1); (try have R2 := bX3.free 2); (try have R3 := bX3.free 3))
        | (go_at_call 54; with_reducible refine (HC1 _).mono ?_; rintro e' w2 ⟨rfl, hbk⟩; have z2 : w1.heap.size ≤ w2.heap.size := (by first | exact sz_drew hbk | exact Nat.le_of_succ_le (sz_new hbk)); have hbk2 : Below w1.heap.size w1 w2 := (by first | with_reducible exact hv1.trans (hbk.mono (sz_d w1)) | exact (hv1a _).trans (hbk.mono (hv1a _).size)); have zw2 : w.heap.size < w2.heap.size := (by omega); (try have bX2 : Blk w2 w1.heap.size #[.int .i64 0, .int .i64 0, .int .i64 0, .bool false] 25 := (by with_reducible exact hnx1.below hbk (hz1b _)))))
    all_goals
      have B3 := HB1.out.trans ((hbk2.trans (hbk3.mono z2)).mono (show w.heap.size ≤ w1.heap.size by omega))
      have r3 := (B1_1.out.below hbk2 (by omega)).below hbk3 (by omega)
    · (show K _ _); with_reducible exact hP _ _ (LsQ.atEnd B3 (by omega) r3)
    · (show K _ _); with_reducible exact hP _ _ (LsQ.atPut B3 (by omega) bX3 r3)
    · (show K _ _); with_reducible exact hP _ _ (LsQ.atPut B3 (by omega) bX3 r3)
  · have o2 : m ≤ n := by omega
    have o3 : ¬ n ≤ m := by omega
    have hmin : min n m = m := by omega
    have hmax : max n m = n := by omega
    have B0_0 := Lib.hid ((Blk.new (w := w) (g := w.heap.size) #[.int .i64 c, .int .i64 d, .int .i64 e, .int .i64 f] 27 (by simp)).alloc (.cells #[.int .i64 0, .int .i64 0, .int .i64 0, .bool false] 25))
    have B0_1 := Lib.hid (Blk.new (w := (w.alloc (.cells #[.int .i64 c, .int .i64 d, .int .i64 e, .int .i64 f] 27))) (g := w.heap.size + 1) #[.int .i64 0, .int .i64 0, .int .i64 0, .bool false] 25 (by simp))
    have HB0 := Lib.hid ((below_new w (.cells #[.int .i64 c, .int .i64 d, .int .i64 e, .int .i64 f] 27)).alloc (by simp <;> omega) (.cells #[.int .i64 0, .int .i64 0, .int .i64 0, .bool false] 25))
    have Z0 : ((w.alloc (.cells #[.int .i64 c, .int .i64 d, .int .i64 e, .int .i64 f] 27)).alloc (.cells #[.int .i64 0, .int .i64 0, .int .i64 0, .bool false] 25)).heap.size = w.heap.size + 2 := by simp
    have HZ0 := Lib.hid Z0
    clear Z0
    go_enter Try.func32, Try.ntmps32
    go_wp2_with fail
    refine (implTm_any c d e f true _ Q.out).mono ?_
    rintro e' w1 ⟨rfl, hb1⟩
    have z1 : w.heap.size + 2 ≤ w1.heap.size := by have h_ := hb1.size; rw [HZ0.out] at h_; exact h_
    have HB1 := Lib.hid (HB0.out.trans (hb1.mono (by rw [HZ0.out]; omega)))
    have B1_0 := Lib.hid (B0_0.out.below hb1 (by rw [HZ0.out]; omega))
    have c1_0_0 := B1_0.out.cell 0 (v := .int .i64 c) rfl
    have c1_0_1 := B1_0.out.cell 1 (v := .int .i64 d) rfl
    have c1_0_2 := B1_0.out.cell 2 (v := .int .i64 e) rfl
    have c1_0_3 := B1_0.out.cell 3 (v := .int .i64 f) rfl
    have B1_1 := Lib.hid (B0_1.out.below hb1 (by rw [HZ0.out]; omega))
    clear hb1
    go_wp2_with fail
    refine (marg_any t true _ H3.out).mono ?_
    rintro e' _ ⟨rfl, rfl⟩
    have zz : w.heap.size < w1.heap.size := by omega
    have hv1 : Below w1.heap.size w1 w1.drew := below_drewN' (Below.refl _ w1) 1
    have hv1a : ∀ o, Below w1.heap.size w1 (w1.alloc o).drew := fun o => hv1.alloc (Nat.le_refl _) o
    have hS0 : Four w1.drew w.heap.size c d e f := ⟨c1_0_0, c1_0_1, c1_0_2, c1_0_3⟩
    have hS0a : ∀ o, Four (w1.alloc o).drew w.heap.size c d e f := fun o => keep4A (V := w1.drew) zz hS0
    have hnx1 : Blk (w1.alloc (.cells #[.int .i64 0, .int .i64 0, .int .i64 0, .bool false] 25)).drew w1.heap.size #[.int .i64 0, .int .i64 0, .int .i64 0, .bool false] 25 := Blk.new _ _ rfl
    have hnx : ∀ V : World, Blk (V.alloc (.cells #[.int .i64 0, .int .i64 0, .int .i64 0, .bool false] 25)) V.heap.size #[.int .i64 0, .int .i64 0, .int .i64 0, .bool false] 25 := fun V => Blk.new _ _ rfl
    have hz1b : ∀ o : Obj, w1.heap.size < (w1.alloc o).drew.heap.size := fun o => (show w1.heap.size < (w1.alloc o).heap.size by simp)
    go_wp2_with fail
    rename_i K hK0
    have hP : ∀ (gp : Nat) (V : World), LsQ w V gp WW (HH + t) t → K { tmps := #[TV c d e f, .int .i64 n, .int .i64 m, .int .i64 t, .pointer (some ⟨w.heap.size, 0, none⟩), undef, undef, undef, .pointer (some ⟨w.heap.size + 1, 0, none⟩), .int .i64 0, .pointer (some ⟨gp, 0, none⟩), TV c d e f, .bool true, .bool false, undef, .int .i64 n, .int .i64 m, .int .i64 m, .bool (decide (m < 1)), .bool (decide (m < 1)), .int .i64 n, .int .i64 m, .int .i64 n, .bool (decide (20000 < n)), .bool (decide (m < 1) || decide (20000 < n)), .bool (decide (m < 1) || decide (20000 < n)), .int .i64 t, .bool true, .bool false, .bool (decide (m < 1) || decide (20000 < n)), undef, TV c d e f, .int .i64 n, .pointer (some ⟨w.heap.size, 0, none⟩), .int .i64 c, .int .i64 WW, TV c d e f, .int .i64 m, .pointer (some ⟨w.heap.size, 1, none⟩), .int .i64 d, .int .i64 HH, .int .i64 t, .int .i64 (HH + t), .int .i64 t, PV WW (HH + t) t true, undef, undef, undef, undef, undef], defers := [] } V := by
      as_aux_lemma =>
        intro gp V hM
        apply hK0
        clear hK0 hv1 hv1a hS0 hS0a hnx1 hnx hz1b c1_0_0 c1_0_1 c1_0_2 c1_0_3
        obtain ⟨hbl, hgo, hlt, hbo, hre⟩ := hM
        have y0 := hbo.cell 0 (v := .int .i64 WW) rfl
        have y1 := hbo.cell 1 (v := .int .i64 (HH + t)) rfl
        have y2 := hbo.cell 2 (v := .int .i64 t) rfl
        have y3 := hbo.cell 3 (v := .bool true) rfl
        have HBO := Lib.hid hbo
        have HRE := Lib.hid hre
        have HBL := Lib.hid hbl
        have zV : w.heap.size + 2 ≤ V.heap.size := by omega
        clear hbo hre hbl
        go_wp2_with fail
        refine (implPr_any WW (HH + t) t true B _ QS.out).mono ?_
        rintro e' w5 ⟨rfl, hb5⟩
        have HB5 := Lib.hid (HBL.out.trans (hb5.mono (by omega)))
        have BR := Lib.hid (HRE.out.below hb5 (by omega))
        have NP := Lib.hid (HBO.out.below hb5 hlt)
        clear hb5 y0 y1 y2 y3
        have x0 := BR.out.cell 0 (v := .int .i64 0) rfl
        have x1 := BR.out.cell 1 (v := .int .i64 0) rfl
        have x2 := BR.out.cell 2 (v := .int .i64 0) rfl
        have x3 := BR.out.cell 3 (v := .bool false) rfl
        have p0 := BR.out.free 0
        have p1 := BR.out.free 1
        have p2 := BR.out.free 2
        have p3 := BR.out.free 3
        cases B
        · have S4 := Lib.hid (BR.out.put4 (.int .i64 0) (.int .i64 0) (.int .i64 0) (.bool false))
          go_wp2_with fail
          have d0 := S4.out.cell 0 (v := .int .i64 0) rfl
          have d1 := S4.out.cell 1 (v := .int .i64 0) rfl
          have d2 := S4.out.cell 2 (v := .int .i64 0) rfl
          have d3 := S4.out.cell 3 (v := .bool false) rfl
          exact bodyPost_ret (v := .tuple #[PV 0 0 0 false, .int .i64 3]) (by simp [results, Try.results32, go_sem, d0, d1, d2, d3]) rfl ⟨rfl, below_put4 HB5.out (by omega) _ _ _ _⟩
        · have S4 := Lib.hid (BR.out.put4 (.int .i64 WW) (.int .i64 (HH + t)) (.int .i64 t) (.bool true))
          have y0 := NP.out.cell 0 (v := .int .i64 WW) rfl
          have y1 := NP.out.cell 1 (v := .int .i64 (HH + t)) rfl
          have y2 := NP.out.cell 2 (v := .int .i64 t) rfl
          have y3 := NP.out.cell 3 (v := .bool true) rfl
          go_wp2_with fail
          have d0 := S4.out.cell 0 (v := .int .i64 WW) rfl
          have d1 := S4.out.cell 1 (v := .int .i64 (HH + t)) rfl
          have d2 := S4.out.cell 2 (v := .int .i64 t) rfl
          have d3 := S4.out.cell 3 (v := .bool true) rfl
          exact bodyPost_ret (v := .tuple #[PV WW (HH + t) t true, .int .i64 0]) (by simp [results, Try.results32, go_sem, d0, d1, d2, d3]) rfl ⟨rfl, below_put4 HB5.out (by omega) _ _ _ _⟩
    go_region_held3 (fun V => V.cell? ⟨w.heap.size, 0, none⟩ = some (.int .i64 c) ∧ V.cell? ⟨w.heap.size, 1, none⟩ = some (.int .i64 d) ∧ V.cell? ⟨w.heap.size, 2, none⟩ = some (.int .i64 e) ∧ V.cell? ⟨w.heap.size, 3, none⟩ = some (.int .i64 f))
      (first | with_reducible exact hS0 | with_reducible exact (hS0a _) | with_reducible exact keep4B hbk (by first | omega | (simp; omega)) (by assumption) | with_reducible exact keep4A (by first | omega | (simp; omega)) (by assumption) | with_reducible exact keep4AA (V := w3) (by omega) (by assumption) | with_reducible exact keep4P (V := w3) (g' := w2.heap.size) (by omega) (by assumption) | with_reducible exact keep4P (V := w3) (g' := w1.heap.size) (by omega) (by assumption) | go_keep)
      (first
        | (go_at_call 54; with_reducible refine (HC2 _).mono ?_; rintro e' w3 ⟨rfl, hbk⟩; have z3 : w2.heap.size ≤ w3.heap.size := (by first | exact hbk.size | exact sz_drew hbk | exact Nat.le_of_succ_le (sz_alloc hbk)); have hbk3 : Below w2.heap.size w2 w3 := (by first | with_reducible exact hbk | exact (below_new w2 _).trans (hbk.mono (by simp))); have zw3 : w.heap.size < w3.heap.size := (by omega); (try have bX3 : Blk w3 w2.heap.size #[.int .i64 0, .int .i64 0, .int .i64 0, .bool false] 25 := (by with_reducible exact (hnx w2).below hbk (by simp))); (try have bX3 : Blk w3 w1.heap.size #[.int .i64 0, .int .i64 0, .int .i64 0, .bool false] 25 := bX2.below hbk3 bX2.lt); (try have X0 := bX3.cell 0 (v := .int .i64 0) rfl); (try have X1 := bX3.cell 1 (v := .int .i64 0) rfl); (try have X2 := bX3.cell 2 (v := .int .i64 0) rfl); (try have X3 := bX3.cell 3 (v := .bool false) rfl); (try have R0 := bX3.free 0); (try have R1 := bX3.free 1); (try have R2 := bX3.free 2); (try have R3 := bX3.free 3))
        | (go_at_call 54; with_reducible refine (HC1 _).mono ?_; rintro e' w2 ⟨rfl, hbk⟩; have z2 : w1.heap.size ≤ w2.heap.size := (by first | exact sz_drew hbk | exact Nat.le_of_succ_le (sz_new hbk)); have hbk2 : Below w1.heap.size w1 w2 := (by first | with_reducible exact hv1.trans (hbk.mono (sz_d w1)) | exact (hv1a _).trans (hbk.mono (hv1a _).size)); have zw2 : w.heap.size < w2.heap.size := (by omega); (try have bX2 : Blk w2 w1.heap.size #[.int .i64 0, .int .i64 0, .int .i64 0, .bool false] 25 := (by with_reducible exact hnx1.below hbk (hz1b _)))))
    all_goals
      have B3 := HB1.out.trans ((hbk2.trans (hbk3.mono z2)).mono (show w.heap.size ≤ w1.heap.size by omega))
      have r3 := (B1_1.out.below hbk2 (by omega)).below hbk3 (by omega)
    · (show K _ _); with_reducible exact hP _ _ (LsQ.atEnd B3 (by omega) r3)
    · (show K _ _); with_reducible exact hP _ _ (LsQ.atPut B3 (by omega) bX3 r3)
    · (show K _ _); with_reducible exact hP _ _ (LsQ.atPut B3 (by omega) bX3 r3)

set_option maxRecDepth 100000 in
set_option maxHeartbeats 8000000 in
theorem implLs_any (c d e f n m t p q s : Int) (z : Bool) (k : Int) (w : World) (h : Pr.lsP c d e f n m t p q s z k) :
    Calls Try.prog 32 #[TV c d e f, .int .i64 n, .int .i64 m, .int .i64 t] w fun e' w' => e' = .returned (.tuple #[PV p q s z, .int .i64 k]) ∧ Below w.heap.size w w' := by
  rcases h with ⟨ht, rfl, rfl, rfl, rfl, rfl⟩ | ⟨ht, hr, rfl, rfl, rfl, rfl, rfl⟩ | ⟨ht, ⟨hn, hm, hg⟩, hs, rfl, rfl, rfl, rfl, rfl⟩ | ⟨ht, ⟨hn, hm, hg⟩, hs, hp, hq, hss, rfl, rfl⟩
  · have Q := Lib.hid ht
    clear ht
    have B0_0 := Lib.hid ((Blk.new (w := w) (g := w.heap.size) #[.int .i64 c, .int .i64 d, .int .i64 e, .int .i64 f] 27 (by simp)).alloc (.cells #[.int .i64 0, .int .i64 0, .int .i64 0, .bool false] 25))
    have B0_1 := Lib.hid (Blk.new (w := (w.alloc (.cells #[.int .i64 c, .int .i64 d, .int .i64 e, .int .i64 f] 27))) (g := w.heap.size + 1) #[.int .i64 0, .int .i64 0, .int .i64 0, .bool false] 25 (by simp))
    have HB0 := Lib.hid ((below_new w (.cells #[.int .i64 c, .int .i64 d, .int .i64 e, .int .i64 f] 27)).alloc (by simp <;> omega) (.cells #[.int .i64 0, .int .i64 0, .int .i64 0, .bool false] 25))
    have Z0 : ((w.alloc (.cells #[.int .i64 c, .int .i64 d, .int .i64 e, .int .i64 f] 27)).alloc (.cells #[.int .i64 0, .int .i64 0, .int .i64 0, .bool false] 25)).heap.size = w.heap.size + 2 := by simp
    have HZ0 := Lib.hid Z0
    clear Z0
    go_enter Try.func32, Try.ntmps32
    go_wp2_with fail
    refine (implTm_any c d e f false _ Q.out).mono ?_
    rintro e' w1 ⟨rfl, hb1⟩
    have z1 : w.heap.size + 2 ≤ w1.heap.size := by have h_ := hb1.size; rw [HZ0.out] at h_; exact h_
    have HB1 := Lib.hid (HB0.out.trans (hb1.mono (by rw [HZ0.out]; omega)))
    have B1_0 := Lib.hid (B0_0.out.below hb1 (by rw [HZ0.out]; omega))
    have B1_1 := Lib.hid (B0_1.out.below hb1 (by rw [HZ0.out]; omega))
    clear hb1
    have x0 := B1_1.out.cell 0 (v := .int .i64 0) rfl
    have x1 := B1_1.out.cell 1 (v := .int .i64 0) rfl
    have x2 := B1_1.out.cell 2 (v := .int .i64 0) rfl
    have x3 := B1_1.out.cell 3 (v := .bool false) rfl
    have p1_0 := B1_1.out.free 0
    have p1_1 := B1_1.out.free 1
    have p1_2 := B1_1.out.free 2
    have p1_3 := B1_1.out.free 3
    have S4 := Lib.hid (B1_1.out.put4 (.int .i64 0) (.int .i64 0) (.int .i64 0) (.bool false))
    go_wp2_with fail
    have d0 := S4.out.cell 0 (v := .int .i64 0) rfl
    have d1 := S4.out.cell 1 (v := .int .i64 0) rfl
    have d2 := S4.out.cell 2 (v := .int .i64 0) rfl
    have d3 := S4.out.cell 3 (v := .bool false) rfl
    exact bodyPost_ret (v := .tuple #[PV 0 0 0 false, .int .i64 1]) (by simp [results, Try.results32, go_sem, d0, d1, d2, d3]) rfl ⟨rfl, below_put4 HB1.out (by omega) _ _ _ _⟩
  · rcases Int.lt_trichotomy n m with o | o | o
    · have o2 : n ≤ m := by omega
      have o3 : ¬ m ≤ n := by omega
      have hmin : min n m = n := by omega
      have hmax : max n m = m := by omega
      have hc : n < 1 ∨ (1 ≤ n ∧ 20000 < m) ∨ (1 ≤ n ∧ m ≤ 20000 ∧ (t < 0 ∨ 20000 < t)) := by omega
      clear hr
      rcases hc with h1 | ⟨h1, h2⟩ | ⟨h1, h2, h3⟩
      · have Q := Lib.hid ht
        clear ht
        have B0_0 := Lib.hid ((Blk.new (w := w) (g := w.heap.size) #[.int .i64 c, .int .i64 d, .int .i64 e, .int .i64 f] 27 (by simp)).alloc (.cells #[.int .i64 0, .int .i64 0, .int .i64 0, .bool false] 25))
        have B0_1 := Lib.hid (Blk.new (w := (w.alloc (.cells #[.int .i64 c, .int .i64 d, .int .i64 e, .int .i64 f] 27))) (g := w.heap.size + 1) #[.int .i64 0, .int .i64 0, .int .i64 0, .bool false] 25 (by simp))
        have HB0 := Lib.hid ((below_new w (.cells #[.int .i64 c, .int .i64 d, .int .i64 e, .int .i64 f] 27)).alloc (by simp <;> omega) (.cells #[.int .i64 0, .int .i64 0, .int .i64 0, .bool false] 25))
        have Z0 : ((w.alloc (.cells #[.int .i64 c, .int .i64 d, .int .i64 e, .int .i64 f] 27)).alloc (.cells #[.int .i64 0, .int .i64 0, .int .i64 0, .bool false] 25)).heap.size = w.heap.size + 2 := by simp
        have HZ0 := Lib.hid Z0
        clear Z0
        go_enter Try.func32, Try.ntmps32
        go_wp2_with fail
        refine (implTm_any c d e f true _ Q.out).mono ?_
        rintro e' w1 ⟨rfl, hb1⟩
        have z1 : w.heap.size + 2 ≤ w1.heap.size := by have h_ := hb1.size; rw [HZ0.out] at h_; exact h_
        have HB1 := Lib.hid (HB0.out.trans (hb1.mono (by rw [HZ0.out]; omega)))
        have B1_0 := Lib.hid (B0_0.out.below hb1 (by rw [HZ0.out]; omega))
        have B1_1 := Lib.hid (B0_1.out.below hb1 (by rw [HZ0.out]; omega))
        clear hb1
        have x0 := B1_1.out.cell 0 (v := .int .i64 0) rfl
        have x1 := B1_1.out.cell 1 (v := .int .i64 0) rfl
        have x2 := B1_1.out.cell 2 (v := .int .i64 0) rfl
        have x3 := B1_1.out.cell 3 (v := .bool false) rfl
        have p1_0 := B1_1.out.free 0
        have p1_1 := B1_1.out.free 1
        have p1_2 := B1_1.out.free 2
        have p1_3 := B1_1.out.free 3
        have S4 := Lib.hid (B1_1.out.put4 (.int .i64 0) (.int .i64 0) (.int .i64 0) (.bool false))
        go_wp2_with fail
        have d0 := S4.out.cell 0 (v := .int .i64 0) rfl
        have d1 := S4.out.cell 1 (v := .int .i64 0) rfl
        have d2 := S4.out.cell 2 (v := .int .i64 0) rfl
        have d3 := S4.out.cell 3 (v := .bool false) rfl
        exact bodyPost_ret (v := .tuple #[PV 0 0 0 false, .int .i64 2]) (by simp [results, Try.results32, go_sem, d0, d1, d2, d3]) rfl ⟨rfl, below_put4 HB1.out (by omega) _ _ _ _⟩
      · have Q := Lib.hid ht
        clear ht
        have B0_0 := Lib.hid ((Blk.new (w := w) (g := w.heap.size) #[.int .i64 c, .int .i64 d, .int .i64 e, .int .i64 f] 27 (by simp)).alloc (.cells #[.int .i64 0, .int .i64 0, .int .i64 0, .bool false] 25))
        have B0_1 := Lib.hid (Blk.new (w := (w.alloc (.cells #[.int .i64 c, .int .i64 d, .int .i64 e, .int .i64 f] 27))) (g := w.heap.size + 1) #[.int .i64 0, .int .i64 0, .int .i64 0, .bool false] 25 (by simp))
        have HB0 := Lib.hid ((below_new w (.cells #[.int .i64 c, .int .i64 d, .int .i64 e, .int .i64 f] 27)).alloc (by simp <;> omega) (.cells #[.int .i64 0, .int .i64 0, .int .i64 0, .bool false] 25))
        have Z0 : ((w.alloc (.cells #[.int .i64 c, .int .i64 d, .int .i64 e, .int .i64 f] 27)).alloc (.cells #[.int .i64 0, .int .i64 0, .int .i64 0, .bool false] 25)).heap.size = w.heap.size + 2 := by simp
        have HZ0 := Lib.hid Z0
        clear Z0
        go_enter Try.func32, Try.ntmps32
        go_wp2_with fail
        refine (implTm_any c d e f true _ Q.out).mono ?_
        rintro e' w1 ⟨rfl, hb1⟩
        have z1 : w.heap.size + 2 ≤ w1.heap.size := by have h_ := hb1.size; rw [HZ0.out] at h_; exact h_
        have HB1 := Lib.hid (HB0.out.trans (hb1.mono (by rw [HZ0.out]; omega)))
        have B1_0 := Lib.hid (B0_0.out.below hb1 (by rw [HZ0.out]; omega))
        have B1_1 := Lib.hid (B0_1.out.below hb1 (by rw [HZ0.out]; omega))
        clear hb1
        have x0 := B1_1.out.cell 0 (v := .int .i64 0) rfl
        have x1 := B1_1.out.cell 1 (v := .int .i64 0) rfl
        have x2 := B1_1.out.cell 2 (v := .int .i64 0) rfl
        have x3 := B1_1.out.cell 3 (v := .bool false) rfl
        have p1_0 := B1_1.out.free 0
        have p1_1 := B1_1.out.free 1
        have p1_2 := B1_1.out.free 2
        have p1_3 := B1_1.out.free 3
        have S4 := Lib.hid (B1_1.out.put4 (.int .i64 0) (.int .i64 0) (.int .i64 0) (.bool false))
        go_wp2_with fail
        have d0 := S4.out.cell 0 (v := .int .i64 0) rfl
        have d1 := S4.out.cell 1 (v := .int .i64 0) rfl
        have d2 := S4.out.cell 2 (v := .int .i64 0) rfl
        have d3 := S4.out.cell 3 (v := .bool false) rfl
        exact bodyPost_ret (v := .tuple #[PV 0 0 0 false, .int .i64 2]) (by simp [results, Try.results32, go_sem, d0, d1, d2, d3]) rfl ⟨rfl, below_put4 HB1.out (by omega) _ _ _ _⟩
      · have Q := Lib.hid ht
        have H3 := Lib.hid (margF h3)
        clear h3
        clear ht
        have B0_0 := Lib.hid ((Blk.new (w := w) (g := w.heap.size) #[.int .i64 c, .int .i64 d, .int .i64 e, .int .i64 f] 27 (by simp)).alloc (.cells #[.int .i64 0, .int .i64 0, .int .i64 0, .bool false] 25))
        have B0_1 := Lib.hid (Blk.new (w := (w.alloc (.cells #[.int .i64 c, .int .i64 d, .int .i64 e, .int .i64 f] 27))) (g := w.heap.size + 1) #[.int .i64 0, .int .i64 0, .int .i64 0, .bool false] 25 (by simp))
        have HB0 := Lib.hid ((below_new w (.cells #[.int .i64 c, .int .i64 d, .int .i64 e, .int .i64 f] 27)).alloc (by simp <;> omega) (.cells #[.int .i64 0, .int .i64 0, .int .i64 0, .bool false] 25))
        have Z0 : ((w.alloc (.cells #[.int .i64 c, .int .i64 d, .int .i64 e, .int .i64 f] 27)).alloc (.cells #[.int .i64 0, .int .i64 0, .int .i64 0, .bool false] 25)).heap.size = w.heap.size + 2 := by simp
        have HZ0 := Lib.hid Z0
        clear Z0
        go_enter Try.func32, Try.ntmps32
        go_wp2_with fail
        refine (implTm_any c d e f true _ Q.out).mono ?_
        rintro e' w1 ⟨rfl, hb1⟩
        have z1 : w.heap.size + 2 ≤ w1.heap.size := by have h_ := hb1.size; rw [HZ0.out] at h_; exact h_
        have HB1 := Lib.hid (HB0.out.trans (hb1.mono (by rw [HZ0.out]; omega)))
        have B1_0 := Lib.hid (B0_0.out.below hb1 (by rw [HZ0.out]; omega))
        have B1_1 := Lib.hid (B0_1.out.below hb1 (by rw [HZ0.out]; omega))
        clear hb1
        go_wp2_with fail
        refine (marg_any t false _ H3.out).mono ?_
        rintro e' _ ⟨rfl, rfl⟩
        have x0 := B1_1.out.cell 0 (v := .int .i64 0) rfl
        have x1 := B1_1.out.cell 1 (v := .int .i64 0) rfl
        have x2 := B1_1.out.cell 2 (v := .int .i64 0) rfl
        have x3 := B1_1.out.cell 3 (v := .bool false) rfl
        have p1_0 := B1_1.out.free 0
        have p1_1 := B1_1.out.free 1
        have p1_2 := B1_1.out.free 2
        have p1_3 := B1_1.out.free 3
        have S4 := Lib.hid (B1_1.out.put4 (.int .i64 0) (.int .i64 0) (.int .i64 0) (.bool false))
        go_wp2_with fail
        have d0 := S4.out.cell 0 (v := .int .i64 0) rfl
        have d1 := S4.out.cell 1 (v := .int .i64 0) rfl
        have d2 := S4.out.cell 2 (v := .int .i64 0) rfl
        have d3 := S4.out.cell 3 (v := .bool false) rfl
        exact bodyPost_ret (v := .tuple #[PV 0 0 0 false, .int .i64 2]) (by simp [results, Try.results32, go_sem, d0, d1, d2, d3]) rfl ⟨rfl, below_put4 HB1.out (by omega) _ _ _ _⟩
    · subst o
      have hmin : min n n = n := by omega
      have hmax : max n n = n := by omega
      have hc : n < 1 ∨ (1 ≤ n ∧ 20000 < n) ∨ (1 ≤ n ∧ n ≤ 20000 ∧ (t < 0 ∨ 20000 < t)) := by omega
      clear hr
      rcases hc with h1 | ⟨h1, h2⟩ | ⟨h1, h2, h3⟩
      · have Q := Lib.hid ht
        clear ht
        have B0_0 := Lib.hid ((Blk.new (w := w) (g := w.heap.size) #[.int .i64 c, .int .i64 d, .int .i64 e, .int .i64 f] 27 (by simp)).alloc (.cells #[.int .i64 0, .int .i64 0, .int .i64 0, .bool false] 25))
        have B0_1 := Lib.hid (Blk.new (w := (w.alloc (.cells #[.int .i64 c, .int .i64 d, .int .i64 e, .int .i64 f] 27))) (g := w.heap.size + 1) #[.int .i64 0, .int .i64 0, .int .i64 0, .bool false] 25 (by simp))
        have HB0 := Lib.hid ((below_new w (.cells #[.int .i64 c, .int .i64 d, .int .i64 e, .int .i64 f] 27)).alloc (by simp <;> omega) (.cells #[.int .i64 0, .int .i64 0, .int .i64 0, .bool false] 25))
        have Z0 : ((w.alloc (.cells #[.int .i64 c, .int .i64 d, .int .i64 e, .int .i64 f] 27)).alloc (.cells #[.int .i64 0, .int .i64 0, .int .i64 0, .bool false] 25)).heap.size = w.heap.size + 2 := by simp
        have HZ0 := Lib.hid Z0
        clear Z0
        go_enter Try.func32, Try.ntmps32
        go_wp2_with fail
        refine (implTm_any c d e f true _ Q.out).mono ?_
        rintro e' w1 ⟨rfl, hb1⟩
        have z1 : w.heap.size + 2 ≤ w1.heap.size := by have h_ := hb1.size; rw [HZ0.out] at h_; exact h_
        have HB1 := Lib.hid (HB0.out.trans (hb1.mono (by rw [HZ0.out]; omega)))
        have B1_0 := Lib.hid (B0_0.out.below hb1 (by rw [HZ0.out]; omega))
        have B1_1 := Lib.hid (B0_1.out.below hb1 (by rw [HZ0.out]; omega))
        clear hb1
        have x0 := B1_1.out.cell 0 (v := .int .i64 0) rfl
        have x1 := B1_1.out.cell 1 (v := .int .i64 0) rfl
        have x2 := B1_1.out.cell 2 (v := .int .i64 0) rfl
        have x3 := B1_1.out.cell 3 (v := .bool false) rfl
        have p1_0 := B1_1.out.free 0
        have p1_1 := B1_1.out.free 1
        have p1_2 := B1_1.out.free 2
        have p1_3 := B1_1.out.free 3
        have S4 := Lib.hid (B1_1.out.put4 (.int .i64 0) (.int .i64 0) (.int .i64 0) (.bool false))
        go_wp2_with fail
        have d0 := S4.out.cell 0 (v := .int .i64 0) rfl
        have d1 := S4.out.cell 1 (v := .int .i64 0) rfl
        have d2 := S4.out.cell 2 (v := .int .i64 0) rfl
        have d3 := S4.out.cell 3 (v := .bool false) rfl
        exact bodyPost_ret (v := .tuple #[PV 0 0 0 false, .int .i64 2]) (by simp [results, Try.results32, go_sem, d0, d1, d2, d3]) rfl ⟨rfl, below_put4 HB1.out (by omega) _ _ _ _⟩
      · have Q := Lib.hid ht
        clear ht
        have B0_0 := Lib.hid ((Blk.new (w := w) (g := w.heap.size) #[.int .i64 c, .int .i64 d, .int .i64 e, .int .i64 f] 27 (by simp)).alloc (.cells #[.int .i64 0, .int .i64 0, .int .i64 0, .bool false] 25))
        have B0_1 := Lib.hid (Blk.new (w := (w.alloc (.cells #[.int .i64 c, .int .i64 d, .int .i64 e, .int .i64 f] 27))) (g := w.heap.size + 1) #[.int .i64 0, .int .i64 0, .int .i64 0, .bool false] 25 (by simp))
        have HB0 := Lib.hid ((below_new w (.cells #[.int .i64 c, .int .i64 d, .int .i64 e, .int .i64 f] 27)).alloc (by simp <;> omega) (.cells #[.int .i64 0, .int .i64 0, .int .i64 0, .bool false] 25))
        have Z0 : ((w.alloc (.cells #[.int .i64 c, .int .i64 d, .int .i64 e, .int .i64 f] 27)).alloc (.cells #[.int .i64 0, .int .i64 0, .int .i64 0, .bool false] 25)).heap.size = w.heap.size + 2 := by simp
        have HZ0 := Lib.hid Z0
        clear Z0
        go_enter Try.func32, Try.ntmps32
        go_wp2_with fail
        refine (implTm_any c d e f true _ Q.out).mono ?_
        rintro e' w1 ⟨rfl, hb1⟩
        have z1 : w.heap.size + 2 ≤ w1.heap.size := by have h_ := hb1.size; rw [HZ0.out] at h_; exact h_
        have HB1 := Lib.hid (HB0.out.trans (hb1.mono (by rw [HZ0.out]; omega)))
        have B1_0 := Lib.hid (B0_0.out.below hb1 (by rw [HZ0.out]; omega))
        have B1_1 := Lib.hid (B0_1.out.below hb1 (by rw [HZ0.out]; omega))
        clear hb1
        have x0 := B1_1.out.cell 0 (v := .int .i64 0) rfl
        have x1 := B1_1.out.cell 1 (v := .int .i64 0) rfl
        have x2 := B1_1.out.cell 2 (v := .int .i64 0) rfl
        have x3 := B1_1.out.cell 3 (v := .bool false) rfl
        have p1_0 := B1_1.out.free 0
        have p1_1 := B1_1.out.free 1
        have p1_2 := B1_1.out.free 2
        have p1_3 := B1_1.out.free 3
        have S4 := Lib.hid (B1_1.out.put4 (.int .i64 0) (.int .i64 0) (.int .i64 0) (.bool false))
        go_wp2_with fail
        have d0 := S4.out.cell 0 (v := .int .i64 0) rfl
        have d1 := S4.out.cell 1 (v := .int .i64 0) rfl
        have d2 := S4.out.cell 2 (v := .int .i64 0) rfl
        have d3 := S4.out.cell 3 (v := .bool false) rfl
        exact bodyPost_ret (v := .tuple #[PV 0 0 0 false, .int .i64 2]) (by simp [results, Try.results32, go_sem, d0, d1, d2, d3]) rfl ⟨rfl, below_put4 HB1.out (by omega) _ _ _ _⟩
      · have Q := Lib.hid ht
        have H3 := Lib.hid (margF h3)
        clear h3
        clear ht
        have B0_0 := Lib.hid ((Blk.new (w := w) (g := w.heap.size) #[.int .i64 c, .int .i64 d, .int .i64 e, .int .i64 f] 27 (by simp)).alloc (.cells #[.int .i64 0, .int .i64 0, .int .i64 0, .bool false] 25))
        have B0_1 := Lib.hid (Blk.new (w := (w.alloc (.cells #[.int .i64 c, .int .i64 d, .int .i64 e, .int .i64 f] 27))) (g := w.heap.size + 1) #[.int .i64 0, .int .i64 0, .int .i64 0, .bool false] 25 (by simp))
        have HB0 := Lib.hid ((below_new w (.cells #[.int .i64 c, .int .i64 d, .int .i64 e, .int .i64 f] 27)).alloc (by simp <;> omega) (.cells #[.int .i64 0, .int .i64 0, .int .i64 0, .bool false] 25))
        have Z0 : ((w.alloc (.cells #[.int .i64 c, .int .i64 d, .int .i64 e, .int .i64 f] 27)).alloc (.cells #[.int .i64 0, .int .i64 0, .int .i64 0, .bool false] 25)).heap.size = w.heap.size + 2 := by simp
        have HZ0 := Lib.hid Z0
        clear Z0
        go_enter Try.func32, Try.ntmps32
        go_wp2_with fail
        refine (implTm_any c d e f true _ Q.out).mono ?_
        rintro e' w1 ⟨rfl, hb1⟩
        have z1 : w.heap.size + 2 ≤ w1.heap.size := by have h_ := hb1.size; rw [HZ0.out] at h_; exact h_
        have HB1 := Lib.hid (HB0.out.trans (hb1.mono (by rw [HZ0.out]; omega)))
        have B1_0 := Lib.hid (B0_0.out.below hb1 (by rw [HZ0.out]; omega))
        have B1_1 := Lib.hid (B0_1.out.below hb1 (by rw [HZ0.out]; omega))
        clear hb1
        go_wp2_with fail
        refine (marg_any t false _ H3.out).mono ?_
        rintro e' _ ⟨rfl, rfl⟩
        have x0 := B1_1.out.cell 0 (v := .int .i64 0) rfl
        have x1 := B1_1.out.cell 1 (v := .int .i64 0) rfl
        have x2 := B1_1.out.cell 2 (v := .int .i64 0) rfl
        have x3 := B1_1.out.cell 3 (v := .bool false) rfl
        have p1_0 := B1_1.out.free 0
        have p1_1 := B1_1.out.free 1
        have p1_2 := B1_1.out.free 2
        have p1_3 := B1_1.out.free 3
        have S4 := Lib.hid (B1_1.out.put4 (.int .i64 0) (.int .i64 0) (.int .i64 0) (.bool false))
        go_wp2_with fail
        have d0 := S4.out.cell 0 (v := .int .i64 0) rfl
        have d1 := S4.out.cell 1 (v := .int .i64 0) rfl
        have d2 := S4.out.cell 2 (v := .int .i64 0) rfl
        have d3 := S4.out.cell 3 (v := .bool false) rfl
        exact bodyPost_ret (v := .tuple #[PV 0 0 0 false, .int .i64 2]) (by simp [results, Try.results32, go_sem, d0, d1, d2, d3]) rfl ⟨rfl, below_put4 HB1.out (by omega) _ _ _ _⟩
    · have o2 : m ≤ n := by omega
      have o3 : ¬ n ≤ m := by omega
      have hmin : min n m = m := by omega
      have hmax : max n m = n := by omega
      have hc : m < 1 ∨ (1 ≤ m ∧ 20000 < n) ∨ (1 ≤ m ∧ n ≤ 20000 ∧ (t < 0 ∨ 20000 < t)) := by omega
      clear hr
      rcases hc with h1 | ⟨h1, h2⟩ | ⟨h1, h2, h3⟩
      · have Q := Lib.hid ht
        clear ht
        have B0_0 := Lib.hid ((Blk.new (w := w) (g := w.heap.size) #[.int .i64 c, .int .i64 d, .int .i64 e, .int .i64 f] 27 (by simp)).alloc (.cells #[.int .i64 0, .int .i64 0, .int .i64 0, .bool false] 25))
        have B0_1 := Lib.hid (Blk.new (w := (w.alloc (.cells #[.int .i64 c, .int .i64 d, .int .i64 e, .int .i64 f] 27))) (g := w.heap.size + 1) #[.int .i64 0, .int .i64 0, .int .i64 0, .bool false] 25 (by simp))
        have HB0 := Lib.hid ((below_new w (.cells #[.int .i64 c, .int .i64 d, .int .i64 e, .int .i64 f] 27)).alloc (by simp <;> omega) (.cells #[.int .i64 0, .int .i64 0, .int .i64 0, .bool false] 25))
        have Z0 : ((w.alloc (.cells #[.int .i64 c, .int .i64 d, .int .i64 e, .int .i64 f] 27)).alloc (.cells #[.int .i64 0, .int .i64 0, .int .i64 0, .bool false] 25)).heap.size = w.heap.size + 2 := by simp
        have HZ0 := Lib.hid Z0
        clear Z0
        go_enter Try.func32, Try.ntmps32
        go_wp2_with fail
        refine (implTm_any c d e f true _ Q.out).mono ?_
        rintro e' w1 ⟨rfl, hb1⟩
        have z1 : w.heap.size + 2 ≤ w1.heap.size := by have h_ := hb1.size; rw [HZ0.out] at h_; exact h_
        have HB1 := Lib.hid (HB0.out.trans (hb1.mono (by rw [HZ0.out]; omega)))
        have B1_0 := Lib.hid (B0_0.out.below hb1 (by rw [HZ0.out]; omega))
        have B1_1 := Lib.hid (B0_1.out.below hb1 (by rw [HZ0.out]; omega))
        clear hb1
        have x0 := B1_1.out.cell 0 (v := .int .i64 0) rfl
        have x1 := B1_1.out.cell 1 (v := .int .i64 0) rfl
        have x2 := B1_1.out.cell 2 (v := .int .i64 0) rfl
        have x3 := B1_1.out.cell 3 (v := .bool false) rfl
        have p1_0 := B1_1.out.free 0
        have p1_1 := B1_1.out.free 1
        have p1_2 := B1_1.out.free 2
        have p1_3 := B1_1.out.free 3
        have S4 := Lib.hid (B1_1.out.put4 (.int .i64 0) (.int .i64 0) (.int .i64 0) (.bool false))
        go_wp2_with fail
        have d0 := S4.out.cell 0 (v := .int .i64 0) rfl
        have d1 := S4.out.cell 1 (v := .int .i64 0) rfl
        have d2 := S4.out.cell 2 (v := .int .i64 0) rfl
        have d3 := S4.out.cell 3 (v := .bool false) rfl
        exact bodyPost_ret (v := .tuple #[PV 0 0 0 false, .int .i64 2]) (by simp [results, Try.results32, go_sem, d0, d1, d2, d3]) rfl ⟨rfl, below_put4 HB1.out (by omega) _ _ _ _⟩
      · have Q := Lib.hid ht
        clear ht
        have B0_0 := Lib.hid ((Blk.new (w := w) (g := w.heap.size) #[.int .i64 c, .int .i64 d, .int .i64 e, .int .i64 f] 27 (by simp)).alloc (.cells #[.int .i64 0, .int .i64 0, .int .i64 0, .bool false] 25))
        have B0_1 := Lib.hid (Blk.new (w := (w.alloc (.cells #[.int .i64 c, .int .i64 d, .int .i64 e, .int .i64 f] 27))) (g := w.heap.size + 1) #[.int .i64 0, .int .i64 0, .int .i64 0, .bool false] 25 (by simp))
        have HB0 := Lib.hid ((below_new w (.cells #[.int .i64 c, .int .i64 d, .int .i64 e, .int .i64 f] 27)).alloc (by simp <;> omega) (.cells #[.int .i64 0, .int .i64 0, .int .i64 0, .bool false] 25))
        have Z0 : ((w.alloc (.cells #[.int .i64 c, .int .i64 d, .int .i64 e, .int .i64 f] 27)).alloc (.cells #[.int .i64 0, .int .i64 0, .int .i64 0, .bool false] 25)).heap.size = w.heap.size + 2 := by simp
        have HZ0 := Lib.hid Z0
        clear Z0
        go_enter Try.func32, Try.ntmps32
        go_wp2_with fail
        refine (implTm_any c d e f true _ Q.out).mono ?_
        rintro e' w1 ⟨rfl, hb1⟩
        have z1 : w.heap.size + 2 ≤ w1.heap.size := by have h_ := hb1.size; rw [HZ0.out] at h_; exact h_
        have HB1 := Lib.hid (HB0.out.trans (hb1.mono (by rw [HZ0.out]; omega)))
        have B1_0 := Lib.hid (B0_0.out.below hb1 (by rw [HZ0.out]; omega))
        have B1_1 := Lib.hid (B0_1.out.below hb1 (by rw [HZ0.out]; omega))
        clear hb1
        have x0 := B1_1.out.cell 0 (v := .int .i64 0) rfl
        have x1 := B1_1.out.cell 1 (v := .int .i64 0) rfl
        have x2 := B1_1.out.cell 2 (v := .int .i64 0) rfl
        have x3 := B1_1.out.cell 3 (v := .bool false) rfl
        have p1_0 := B1_1.out.free 0
        have p1_1 := B1_1.out.free 1
        have p1_2 := B1_1.out.free 2
        have p1_3 := B1_1.out.free 3
        have S4 := Lib.hid (B1_1.out.put4 (.int .i64 0) (.int .i64 0) (.int .i64 0) (.bool false))
        go_wp2_with fail
        have d0 := S4.out.cell 0 (v := .int .i64 0) rfl
        have d1 := S4.out.cell 1 (v := .int .i64 0) rfl
        have d2 := S4.out.cell 2 (v := .int .i64 0) rfl
        have d3 := S4.out.cell 3 (v := .bool false) rfl
        exact bodyPost_ret (v := .tuple #[PV 0 0 0 false, .int .i64 2]) (by simp [results, Try.results32, go_sem, d0, d1, d2, d3]) rfl ⟨rfl, below_put4 HB1.out (by omega) _ _ _ _⟩
      · have Q := Lib.hid ht
        have H3 := Lib.hid (margF h3)
        clear h3
        clear ht
        have B0_0 := Lib.hid ((Blk.new (w := w) (g := w.heap.size) #[.int .i64 c, .int .i64 d, .int .i64 e, .int .i64 f] 27 (by simp)).alloc (.cells #[.int .i64 0, .int .i64 0, .int .i64 0, .bool false] 25))
        have B0_1 := Lib.hid (Blk.new (w := (w.alloc (.cells #[.int .i64 c, .int .i64 d, .int .i64 e, .int .i64 f] 27))) (g := w.heap.size + 1) #[.int .i64 0, .int .i64 0, .int .i64 0, .bool false] 25 (by simp))
        have HB0 := Lib.hid ((below_new w (.cells #[.int .i64 c, .int .i64 d, .int .i64 e, .int .i64 f] 27)).alloc (by simp <;> omega) (.cells #[.int .i64 0, .int .i64 0, .int .i64 0, .bool false] 25))
        have Z0 : ((w.alloc (.cells #[.int .i64 c, .int .i64 d, .int .i64 e, .int .i64 f] 27)).alloc (.cells #[.int .i64 0, .int .i64 0, .int .i64 0, .bool false] 25)).heap.size = w.heap.size + 2 := by simp
        have HZ0 := Lib.hid Z0
        clear Z0
        go_enter Try.func32, Try.ntmps32
        go_wp2_with fail
        refine (implTm_any c d e f true _ Q.out).mono ?_
        rintro e' w1 ⟨rfl, hb1⟩
        have z1 : w.heap.size + 2 ≤ w1.heap.size := by have h_ := hb1.size; rw [HZ0.out] at h_; exact h_
        have HB1 := Lib.hid (HB0.out.trans (hb1.mono (by rw [HZ0.out]; omega)))
        have B1_0 := Lib.hid (B0_0.out.below hb1 (by rw [HZ0.out]; omega))
        have B1_1 := Lib.hid (B0_1.out.below hb1 (by rw [HZ0.out]; omega))
        clear hb1
        go_wp2_with fail
        refine (marg_any t false _ H3.out).mono ?_
        rintro e' _ ⟨rfl, rfl⟩
        have x0 := B1_1.out.cell 0 (v := .int .i64 0) rfl
        have x1 := B1_1.out.cell 1 (v := .int .i64 0) rfl
        have x2 := B1_1.out.cell 2 (v := .int .i64 0) rfl
        have x3 := B1_1.out.cell 3 (v := .bool false) rfl
        have p1_0 := B1_1.out.free 0
        have p1_1 := B1_1.out.free 1
        have p1_2 := B1_1.out.free 2
        have p1_3 := B1_1.out.free 3
        have S4 := Lib.hid (B1_1.out.put4 (.int .i64 0) (.int .i64 0) (.int .i64 0) (.bool false))
        go_wp2_with fail
        have d0 := S4.out.cell 0 (v := .int .i64 0) rfl
        have d1 := S4.out.cell 1 (v := .int .i64 0) rfl
        have d2 := S4.out.cell 2 (v := .int .i64 0) rfl
        have d3 := S4.out.cell 3 (v := .bool false) rfl
        exact bodyPost_ret (v := .tuple #[PV 0 0 0 false, .int .i64 2]) (by simp [results, Try.results32, go_sem, d0, d1, d2, d3]) rfl ⟨rfl, below_put4 HB1.out (by omega) _ _ _ _⟩
  · exact implLs_good c d e f n m t _ _ false w ht hn hm hg rfl rfl hs
  · obtain rfl : t = s := hss.symm
    subst hp hq
    exact implLs_good c d e f n m t _ _ true w ht hn hm hg rfl rfl hs
end Go.Proofs.Ythepfejoneeaeaa
