/- Contract of the program's TurnForm. -/
import Derived.Test.YtgplciodddfpbaaFmCh
import Derived.Test.YtgplciodddfpbaaFoLeaf
namespace Go.Proofs.Ytgplciodddfpbaa
open Go.RowKit Go.Shelf
attribute [local go_sem] Oper.semAt_some

/-- The row's block is one of cells. -/
theorem Own.cells_ {w : World} {lo hi g N : Nat} {l : List Int} (h : Own I w lo hi 2 (slN g N) l) (hN : 0 < N) : lo ≤ g ∧ g < hi ∧ g < w.heap.size ∧ ∃ o : Obj, w.heap[g]? = some o ∧ o.isCells = true := by
  obtain ⟨h1, h2, h3⟩ := h.lt g rfl
  have hl := h.rd.1
  rcases h.1.2 with ⟨_, hz⟩ | ⟨g', cap, cur, hv, hb, hg, _⟩
  · omega
  · injection hv with hv1 _ _
    injection hv1 with hv1
    injection hv1 with hv1 _ _
    subst hv1
    exact ⟨h1, h2, h3, _, hg, rfl⟩
theorem Own.tight {w : World} {lo hi g N : Nat} {l : List Int} (h : Own I w lo hi 2 (slN g N) l) (hN : 0 < N) : Own I w g (g + 1) 2 (slN g N) l := by
  refine ⟨⟨h.1.1, ?_⟩, fun k hk => by simp [Value.ownBlock] at hk; omega⟩
  rcases h.1.2 with ⟨hn1, hn2⟩ | ⟨g', cap, cur, hv, hb, hg, r⟩
  · have hl := h.rd.1
    omega
  · have hv0 := hv
    injection hv0 with hv1 _ _
    injection hv1 with hv1
    injection hv1 with hv1 _ _
    subst hv1
    exact .inr ⟨g, cap, cur, hv, Nat.le_refl _, hg, r⟩
theorem own_from {β : Type} {n lo hi g N : Nat} (L : β → List Int) (hN : 0 < N) : OwnFrom n (fun (s : β) W => Own I W lo hi 2 (slN g N) (L s)) := by
  intro s W W' row hs hg hr
  obtain ⟨_, _, h3, o, ho, hc⟩ := hs.cells_ hN
  refine hs.keep fun k hk => ?_
  simp only [Value.ownBlock, Option.some.injEq] at hk
  subst hk
  refine hg.block _ h3 fun e => ?_
  obtain ⟨_, o', ho', hc'⟩ := hr _ e.symm
  rw [ho] at ho'
  injection ho' with ho'
  subst ho'
  rw [hc] at hc'
  cases hc'
theorem only_from {β : Type} {lo hi : Nat} {w : World} : OwnFrom w.heap.size (fun (_ : β) W => Only lo hi w W) := by
  intro s W W' row hs hg hr
  refine ⟨hg.os.trans hs.os, hg.tape.trans hs.tape, hg.output.trans hs.output, Nat.le_trans hs.size hg.size, fun k hk hd => ?_⟩
  refine (hg.block k (Nat.lt_of_lt_of_le hk hs.size) fun e => ?_).trans (hs.block k hk hd)
  have := (hr _ e.symm).1
  omega
theorem keeps_only {W W' : World} {lo hi g N : Nat} {l : List Int} (ho : Own I W lo hi 2 (slN g N) l) (hN : 0 < N) (h : Only g (g + 1) W W') : KeepsOthers W W' := by
  refine ⟨h.size, fun k o hk hc => ?_⟩
  obtain ⟨_, _, _, o', ho', hc'⟩ := ho.cells_ hN
  refine (h.block k (Array.getElem?_eq_some_iff.1 hk).1 ?_).trans hk
  by_cases e : k = g
  · subst e
    rw [ho'] at hk
    injection hk with hk
    subst hk
    rw [hc] at hc'
    cases hc'
  · omega

theorem Own.put_obj {w : World} {lo hi D : Nat} {o : Obj} {v : Value} {l : List Int} (h : Own I w lo hi 2 v l) (hD : hi ≤ D) : Own I (w.putObj D o) lo hi 2 v l :=
  h.keep fun k hk => World.putObj_heap_other (by have := (h.lt k hk).2.1; omega)
theorem OF.put_obj {w : World} {lo hi D : Nat} {o : Obj} {f : Fv} {F G H : List Int} (h : OF w lo hi f F G H) (hD : hi ≤ D) : OF (w.putObj D o) lo hi f F G H := by
  obtain ⟨⟨m1, m2, q1, q2, q3, o1, o2, o3⟩⟩ := h
  exact ⟨⟨m1, m2, q1, q2, q3, o1.put_obj (by omega), o2.put_obj (by omega), o3.put_obj hD⟩⟩
/-- The rows of a list of numbers turned round. -/
def Fm.tnF (W : Nat) (L : List Int) (pre : List Nat) : List Int := pre.foldl (fun M x => Fm.rvAt M (x * W) W W) L
theorem Fm.tnF_len (W : Nat) (pre : List Nat) : ∀ L : List Int, (Fm.tnF W L pre).length = L.length := by
  induction pre with
  | nil => intro L; rfl
  | cons x pre ih => intro L; exact (ih _).trans (Fm.rvAt_len _ _ _ _)
theorem Fm.tnF_next (W : Nat) (L : List Int) (pre : List Nat) (x : Nat) : Fm.tnF W L (pre ++ [x]) = Fm.rvAt (Fm.tnF W L pre) (x * W) W W := by
  unfold Fm.tnF
  rw [List.foldl_append]
  rfl
theorem Fm.tnF_all (W : Nat) (L : List Int) (hW : 1 ≤ W) : ∀ r : Nat, r * W ≤ L.length → Fm.tnF W L (List.range r) = Fm.tnTo W L r := by
  intro r
  induction r with
  | zero => intro _; rw [Fm.tnTo_zero]; rfl
  | succ r ih =>
    intro h
    have h' := h
    rw [Nat.add_mul, Nat.one_mul] at h'
    rw [List.range_succ, Fm.tnF_next, ih (by omega), Fm.tnTo_step W L r hW h]
set_option maxRecDepth 100000 in
set_option maxHeartbeats 8000000 in
theorem implTn_any (f : Fv) (a b : Int) (ha : f.a = a) (hb : f.b = b) (B : Nat) (F G H : List Int) (u0 u1 C : Int) (L1 L2 L3 : List Int) (hR : Fm.tnR a b F G H = (u0, u1, L1, L2, L3, C)) (w : World) (h : RF w B f F G H) (hB : B ≤ w.heap.size) (hn : f.le 1048576) (hi64 : i64s F) (hi65 : i64s G) :
    Calls Try.prog 34 #[f.v] w fun e w' => FC w u0 u1 L1 L2 L3 C e w' := by
  obtain ⟨i0, hi0, hz0, hz1, hz2⟩ := info_parts infoI
  obtain ⟨a', b', A1, n1, c1, A2, n2, c2, A3, n3, c3⟩ := f
  simp only at ha hb
  subst ha hb
  have HR := Lib.hid hR
  have HNN := Lib.hid hn
  have HI1 := Lib.hid hi64
  have HI2 := Lib.hid hi65
  clear hR hn hi64 hi65
  refine (callsIn_wide (n := 9)).1 ?_
  refine callsIn_of_wp_marks Try.func34 rfl trivial ?_ rfl
  simp only [Try.ntmps34, List.size_toArray, List.length_cons, List.length_nil, Nat.reduceAdd, Nat.reduceSub, Array.replicate_succ, Array.replicate_zero, List.push_toArray, List.append_toArray, List.nil_append, List.cons_append]
  refine wpIn_wide.2 ?_
  go_wp2_with fail
  generalize hW : (w.alloc (.cells (Fv.cs ⟨a', b', A1, n1, c1, A2, n2, c2, A3, n3, c3⟩) 28)).alloc (.cells (Fv.cs fv0) 28) = W0
  have bF : FBx W0 w.heap.size ⟨a', b', A1, n1, c1, A2, n2, c2, A3, n3, c3⟩ := by rw [← hW]; exact (Blk.new _ _ rfl).alloc _
  have bR : FBx W0 (w.heap.size + 1) fv0 := by rw [← hW]; exact Blk.new _ _ (by simp)
  have hB0 : Below w.heap.size w W0 := by rw [← hW]; exact (below_alloc _ _).alloc (by simp) _
  have hz0' : W0.heap.size = w.heap.size + 2 := by rw [← hW]; simp
  have hr0 := h.below hB0 hB
  clear hW
  refine (implIsForm_any ⟨a', b', A1, n1, c1, A2, n2, c2, A3, n3, c3⟩ B F G H W0 hr0 (by omega) HNN.out HI1.out HI2.out).mono ?_
  rintro e w1 ⟨rfl, hb1⟩
  have z1 := hb1.size
  have hB1 := hB0.trans (hb1.mono (by omega))
  have bF1 := bF.below hb1 (by omega)
  have bR1 := bR.below hb1 (by omega)
  have hr1 := hr0.below hb1 (by omega)
  clear bF bR hB0 hr0 hb1
  simp only
  cases hok : Fm.okB a' b' F G H
  · have HE := Lib.hid hok
    clear hok
    obtain ⟨rfl, rfl, rfl, rfl, rfl, rfl⟩ := Fm.tn_bad HR.out HE.out
    have s4 := bR1.put5 fv0
    obtain ⟨x0, x1, x2, x3, x4⟩ := bR1.lcell
    simp only at x0 x1 x2 x3 x4
    obtain ⟨y0, y1, y2, y3, y4⟩ := bR1.freeF
    have HS4 := Lib.hid s4
    have HBW := Lib.hid (hB1)
    clear s4
    go_wp2_with fail
    obtain ⟨e0, e1, e2, e3, e4⟩ := HS4.out.lcell
    simp only at e0 e1 e2 e3 e4
    refine ⟨.tuple #[Fv.v fv0, .int .i64 1], by simp [results, Try.results34, go_sem, e0, e1, e2, e3, e4], FC.mk_ fv0 rfl rfl (OF.zero _ _ _ (Nat.le_refl _)) (Nat.le_refl _) (by have := HBW.out.size; simpa using this) fv0_le (below_put5 HBW.out fv0 (by omega))⟩
  have HOK := Lib.hid (Fm.okB_ok hok)
  obtain ⟨hu0, hu1, hL1, hL2, hL3, rfl⟩ := Fm.tn_good HR.out hok
  obtain rfl : a' = u0 := hu0.symm
  obtain rfl : b' = u1 := hu1.symm
  subst hL1 hL2
  have hT := hL3.symm
  clear hL3
  obtain ⟨W, H', eW, eH, W1, W8, H1, H8, eWH, N1, N64⟩ := Fm.cells_of HOK.out.1
  obtain ⟨N, hN⟩ : ∃ N, N = W * H' := ⟨_, rfl⟩
  have hl := HOK.out.2.1
  rw [eWH, ← hN] at hl
  rw [← hN] at N1 N64 eWH
  obtain ⟨l1, l2, l3⟩ := hl
  obtain ⟨f1, f2, f3⟩ := hr1.len
  simp only at f1 f2 f3
  obtain rfl : n1 = N := by omega
  obtain rfl : n2 = n1 := by omega
  obtain rfl : n3 = n2 := by omega
  subst eW
  have HTA : Hid (Fm.tnTo W H H' = L3) := Lib.hid (by rw [Fm.tnTo_all W H H' W1 (by rw [f3]; exact hN)]; exact hT)
  have HLH := Lib.hid f3
  have HWH := Lib.hid hN
  have HN := Lib.hid eWH
  have HB1 := Lib.hid hB1
  have HBF := Lib.hid bF1
  have HBR := Lib.hid bR1
  have HRR := Lib.hid hr1
  obtain ⟨q0, q1, q2, q3, q4⟩ := bF1.lcell
  simp only at q0 q1 q2 q3 q4
  clear hok l1 l2 l3 f1 f2 f3 hN hB1 bF1 bR1 hr1 hT eH eWH
  go_wp2_with fail
  refine (emptyForm_any (W : Int) b' n3 _ HN.out N64).mono ?_
  rintro e w2 ⟨g1, g2, g3, rfl, oE, hb2⟩
  have z2 := hb2.size
  obtain ⟨⟨m1, m2, s1, s2, s3, o1, o2, o3⟩⟩ := oE
  simp only at o1 o2 o3
  have bE := FBx.new w2 ⟨W, b', some ⟨g1, 0, none⟩, n3, n3, some ⟨g2, 0, none⟩, n3, n3, some ⟨g3, 0, none⟩, n3, n3⟩
  have bF2 := (HBF.out.below hb2 (by omega)).alloc (.cells (Fv.cs ⟨W, b', some ⟨g1, 0, none⟩, n3, n3, some ⟨g2, 0, none⟩, n3, n3, some ⟨g3, 0, none⟩, n3, n3⟩) 28)
  have bR2 := (HBR.out.below hb2 (by omega)).alloc (.cells (Fv.cs ⟨W, b', some ⟨g1, 0, none⟩, n3, n3, some ⟨g2, 0, none⟩, n3, n3, some ⟨g3, 0, none⟩, n3, n3⟩) 28)
  have hr2 := (HRR.out.below hb2 (by omega)).alloc (by omega) (.cells (Fv.cs ⟨W, b', some ⟨g1, 0, none⟩, n3, n3, some ⟨g2, 0, none⟩, n3, n3, some ⟨g3, 0, none⟩, n3, n3⟩) 28)
  have o1a := o1.alloc (.cells (Fv.cs ⟨W, b', some ⟨g1, 0, none⟩, n3, n3, some ⟨g2, 0, none⟩, n3, n3, some ⟨g3, 0, none⟩, n3, n3⟩) 28)
  have o2a := o2.alloc (.cells (Fv.cs ⟨W, b', some ⟨g1, 0, none⟩, n3, n3, some ⟨g2, 0, none⟩, n3, n3, some ⟨g3, 0, none⟩, n3, n3⟩) 28)
  have o3a := o3.alloc (.cells (Fv.cs ⟨W, b', some ⟨g1, 0, none⟩, n3, n3, some ⟨g2, 0, none⟩, n3, n3, some ⟨g3, 0, none⟩, n3, n3⟩) 28)
  have hB2 := (HB1.out.trans (hb2.mono (by omega))).alloc (by omega) (.cells (Fv.cs ⟨W, b', some ⟨g1, 0, none⟩, n3, n3, some ⟨g2, 0, none⟩, n3, n3, some ⟨g3, 0, none⟩, n3, n3⟩) 28)
  clear q0 q1 q2 q3 q4 hb2 o1 o2 o3
  obtain ⟨j0, j1, j2, j3, j4⟩ := bE.lcell
  obtain ⟨q0, q1, q2, q3, q4⟩ := bF2.lcell
  simp only at j0 j1 j2 j3 j4 q0 q1 q2 q3 q4
  have hrr := hr2
  obtain ⟨ra1, ra2, ra3⟩ := hrr
  simp only at ra1 ra2 ra3
  have HB2 := Lib.hid hB2
  have zs2 : w2.heap.size ≤ (w2.alloc (.cells (Fv.cs ⟨W, b', some ⟨g1, 0, none⟩, n3, n3, some ⟨g2, 0, none⟩, n3, n3, some ⟨g3, 0, none⟩, n3, n3⟩) 28)).heap.size := by simp
  go_wp2_with (first
    | (go_at_call 78; refine (chunk_any _ _ _ W W1 _).mono ?_; rintro e w7 ⟨rfl, hw7⟩)
    | (with_reducible refine wp_copy rfl (.tmp 26) (.tmp 28) 26 rfl 2 Try.underlying26 sizeI g3 n3 _ _ B A3 c3 _ H rfl rfl o3c rc3 (fun _ => rfl) ?_; intro v5 o3d hm5; have bE5 := bE4.only hm5 (.inr (by omega)); have bF5 := bF4.only hm5 (.inl (by omega)); have bR5 := bR4.only hm5 (.inl (by omega)); have o1d := o1c.only hm5 (.inl (by omega)); have o2d := o2c.only hm5 (.inl (by omega)); have z5 := hm5.size; have HB5 := Lib.hid (HB4.out.trans (hm5.below (by omega) (by omega))); obtain ⟨jc0, jc1, jc2, jc3, jc4⟩ := bE5.lcell; obtain ⟨qc0, qc1, qc2, qc3, qc4⟩ := bF5.lcell; simp only at jc0 jc1 jc2 jc3 jc4 qc0 qc1 qc2 qc3 qc4)
    | (with_reducible refine wp_copy rfl (.tmp 21) (.tmp 23) 26 rfl 2 Try.underlying26 sizeI g2 n3 _ _ B A1 c1 _ L2 rfl rfl o2b rb1 (fun _ => rfl) ?_; intro v4 o2c hm4; have bE4 := bE3.only hm4 (.inr (by omega)); have bF4 := bF3.only hm4 (.inl (by omega)); have bR4 := bR3.only hm4 (.inl (by omega)); have hr4 := hr3.only hm4 (by omega) (by omega); have o1c := o1b.only hm4 (.inl (by omega)); have o3c := o3b.only hm4 (.inr (by omega)); have z4 := hm4.size; have HB4 := Lib.hid (HB3.out.trans (hm4.below (by omega) (by omega))); obtain ⟨rc1, rc2, rc3⟩ := hr4; simp only at rc1 rc2 rc3; obtain ⟨jb0, jb1, jb2, jb3, jb4⟩ := bE4.lcell; obtain ⟨qb0, qb1, qb2, qb3, qb4⟩ := bF4.lcell; simp only at jb0 jb1 jb2 jb3 jb4 qb0 qb1 qb2 qb3 qb4)
    | (with_reducible refine wp_copy rfl (.tmp 16) (.tmp 18) 26 rfl 2 Try.underlying26 sizeI g1 n3 _ _ B A2 c2 _ L1 rfl rfl o1a ra2 (fun _ => rfl) ?_; intro v3 o1b hm3; have bE3 := bE.only hm3 (.inr (by omega)); have bF3 := bF2.only hm3 (.inl (by omega)); have bR3 := bR2.only hm3 (.inl (by omega)); have hr3 := hr2.only hm3 (by omega) (by simp; omega); have o2b := o2a.only hm3 (.inr (by omega)); have o3b := o3a.only hm3 (.inr (by omega)); have z3 := hm3.size; have HB3 := Lib.hid (HB2.out.trans (hm3.below (by omega) (by simp; omega))); have hr3' := hr3; obtain ⟨rb1, rb2, rb3⟩ := hr3'; simp only at rb1 rb2 rb3; simp only [World.size_alloc] at z3; obtain ⟨ja0, ja1, ja2, ja3, ja4⟩ := bE3.lcell; obtain ⟨qa0, qa1, qa2, qa3, qa4⟩ := bF3.lcell; simp only at ja0 ja1 ja2 ja3 ja4 qa0 qa1 qa2 qa3 qa4))
  have zm1 := m1
  have hp3 : 0 < n3 := by omega
  have o3t := o3d.tight hp3
  have hg3 := o3d.cells_ hp3
  obtain ⟨hg3a, hg3b, _, _, _, _⟩ := hg3
  clear ja0 ja1 ja2 ja3 ja4 qa0 qa1 qa2 qa3 qa4 jb0 jb1 jb2 jb3 jb4 qb0 qb1 qb2 qb3 qb4 jc0 jc1 jc2 jc3 jc4 qc0 qc1 qc2 qc3 qc4 j0 j1 j2 j3 j4 q0 q1 q2 q3 q4 hw7
  have cB1 : ((v5.alloc (.cells #[.slice (some ⟨g3, 0, none⟩) n3 n3] 26)).alloc (.cells #[.int .i64 (W : Int)] 3)).cell? ⟨v5.heap.size, 0, none⟩ = some (slN g3 n3) := by
    have := (Boxed.new v5 26 (slN g3 n3)).alloc (.cells #[.int .i64 (W : Int)] 3)
    exact this.cell
  have cB2 : ((v5.alloc (.cells #[.slice (some ⟨g3, 0, none⟩) n3 n3] 26)).alloc (.cells #[.int .i64 (W : Int)] 3)).cell? ⟨v5.heap.size + 1, 0, none⟩ = some (.int .i64 (W : Int)) := by
    have := (Boxed.new (v5.alloc (.cells #[.slice (some ⟨g3, 0, none⟩) n3 n3] 26)) 3 (.int .i64 (W : Int)))
    rw [World.size_alloc] at this
    exact this.cell
  have z8 : ((v5.alloc (.cells #[.slice (some ⟨g3, 0, none⟩) n3 n3] 26)).alloc (.cells #[.int .i64 (W : Int)] 3)).heap.size = v5.heap.size + 2 := by simp
  have hb8 : Below v5.heap.size v5 ((v5.alloc (.cells #[.slice (some ⟨g3, 0, none⟩) n3 n3] 26)).alloc (.cells #[.int .i64 (W : Int)] 3)) := (below_alloc _ _).alloc (by simp) _
  generalize (v5.alloc (.cells #[.slice (some ⟨g3, 0, none⟩) n3 n3] 26)).alloc (.cells #[.int .i64 (W : Int)] 3) = w8 at cB1 cB2 z8 hb8 ⊢
  have o1e := o1d.below hb8 (by omega)
  have o2e := o2d.below hb8 (by omega)
  have o3e := o3t.below hb8 (by omega)
  have bE8 := bE5.below hb8 (by omega)
  have bR8 := bR5.below hb8 (by omega)
  have HB8 := Lib.hid (HB5.out.trans (hb8.mono (by omega)))
  refine (wpIn_wide (n := 9)).1 ?_
  refine wpIn_rangeFunc_ownF rfl (by decide) (gf := 100) (lb := #[.pointer (some ⟨v5.heap.size, 0, none⟩), .pointer (some ⟨v5.heap.size + 1, 0, none⟩)]) rfl trivial (enters_of Try.func100 (by kernel_rfl) rfl)
    (chunk_stops Fence.wide 8 trivial rfl (by decide) v5.heap.size (v5.heap.size + 1) v5.heap.size (v5.heap.size + 2) g3 n3 W H' W1 N64 HWH.out w8 (by omega) (by omega) (by omega) cB1 cB2)
    (fun h k => h.trans k) (Iv.put (by omega)) (Below.refl _ _) (fun _ => rfl)
    (fun pre V => (Own I V g3 (g3 + 1) 2 (slN g3 n3) (Fm.tnF W H (pre.map Fin.val))) ∧ Only g3 (g3 + 1) w8 V)
    (fun _ _ _ => False)
    (OwnFrom.and (own_from (fun pre : List (Fin H') => Fm.tnF W H (pre.map Fin.val)) hp3) only_from)
    (fun _ _ _ _ _ hs _ _ => hs)
    ⟨o3e, Only.refl _ _ _⟩
    (fun x => { tmps := #[(Fv.v ⟨(W : Int), b', A1, n3, c1, A2, n3, c2, A3, n3, c3⟩), .pointer (some ⟨w.heap.size, 0, none⟩), .pointer (some ⟨w.heap.size + 1, 0, none⟩), .int .i64 0, .pointer (some ⟨w2.heap.size, 0, none⟩), .slice (some ⟨g3, x.val * W, none⟩) W W, .agg #[.int .i64 (W : Int), .int .i64 b', .slice A1 n3 c1, .slice A2 n3 c2, .slice A3 n3 c3], .bool true, .bool false, undef, .pointer (some ⟨w.heap.size, 0, none⟩), .int .i64 (W : Int), .pointer (some ⟨w.heap.size, 1, none⟩), .int .i64 b', (Fv.v ⟨(W : Int), b', some ⟨g1, 0, none⟩, n3, n3, some ⟨g2, 0, none⟩, n3, n3, some ⟨g3, 0, none⟩, n3, n3⟩), .pointer (some ⟨w2.heap.size, 2, none⟩), .slice (some ⟨g1, 0, none⟩) n3 n3, .pointer (some ⟨w.heap.size, 3, none⟩), .slice A2 n3 c2, .int .i64 (n3 : Int), .pointer (some ⟨w2.heap.size, 3, none⟩), .slice (some ⟨g2, 0, none⟩) n3 n3, .pointer (some ⟨w.heap.size, 2, none⟩), .slice A1 n3 c1, .int .i64 (n3 : Int), .pointer (some ⟨w2.heap.size, 4, none⟩), .slice (some ⟨g3, 0, none⟩) n3 n3, .pointer (some ⟨w.heap.size, 4, none⟩), .slice A3 n3 c3, .int .i64 (n3 : Int), .pointer (some ⟨w2.heap.size, 4, none⟩), .slice (some ⟨g3, 0, none⟩) n3 n3, .pointer (some ⟨w.heap.size, 0, none⟩), .int .i64 (W : Int), .func (.func 100) #[] #[.pointer (some ⟨v5.heap.size, 0, none⟩), .pointer (some ⟨v5.heap.size + 1, 0, none⟩)], .slice (some ⟨g3, x.val * W, none⟩) W W, undef, undef, undef], defers := [] }) ?assign ?body ?done ?stop
  case assign =>
    intro l x V K hK
    gi_wp2
    exact hK
  case body =>
    rintro l pre x V ⟨ho, hO⟩ hlen
    have hxW : x.val * W + W ≤ n3 := by
      have h1 := Nat.mul_le_mul_right W (show x.val + 1 ≤ H' from x.isLt)
      rw [Nat.add_mul, Nat.one_mul, Nat.mul_comm H' W, ← HWH.out] at h1
      exact h1
    have hrv := reverseAt_any g3 (x.val * W) W W n3 g3 (g3 + 1) _ V ho hxW N64
    have HNX : Hid (Fm.tnF W H ((pre ++ [x]).map Fin.val) = Fm.rvAt (Fm.tnF W H (pre.map Fin.val)) (x.val * W) W W) := Lib.hid (by rw [List.map_append]; exact Fm.tnF_next W H (pre.map Fin.val) x.val)
    gi_wp2_with (refine ⟨trivial, ?_⟩; (gi_at_call 79; refine (CallsIn.inRound l (callsIn_wide.2 hrv)).mono ?_; rintro e w9 ⟨rfl, ho9, hO9⟩))
    refine ⟨keeps_only ho hp3 hO9, fun k h1 h2 => hO9.block k ?_ (.inr (by omega)), by rw [HNX.out]; exact ho9, hO.trans hO9⟩
    have := hO.size
    omega
  case done =>
    rintro D ys V hD hys ⟨ho, hO⟩ hK
    have eT : Fm.tnF W H (ys.map Fin.val) = L3 := by rw [hys, Fm.tnF_all W H W1 H' (by rw [HLH.out, HWH.out, Nat.mul_comm]; exact Nat.le_refl _), HTA.out]
    rw [eT] at ho
    have hzV := hO.size
    have bE9 := bE8.only hO (.inr (by omega))
    have bR9 := bR8.only hO (.inl (by omega))
    have o1f := o1e.only hO (.inl (by omega))
    have o2f := o2e.only hO (.inl (by omega))
    have HOF : Hid (OF V w1.heap.size w2.heap.size ⟨(W : Int), b', some ⟨g1, 0, none⟩, n3, n3, some ⟨g2, 0, none⟩, n3, n3, some ⟨g3, 0, none⟩, n3, n3⟩ L1 L2 L3) := Lib.hid ⟨⟨m1, m2, s1, s2, s3, o1f, o2f, ho.mono (by omega) (by omega)⟩⟩
    have HB9 := Lib.hid (HB8.out.trans (hO.below (by omega) (by omega)))
    have s4 := bR9.put5 ⟨(W : Int), b', some ⟨g1, 0, none⟩, n3, n3, some ⟨g2, 0, none⟩, n3, n3, some ⟨g3, 0, none⟩, n3, n3⟩
    obtain ⟨x0, x1, x2, x3, x4⟩ := bR9.lcell
    simp only at x0 x1 x2 x3 x4
    obtain ⟨y0, y1, y2, y3, y4⟩ := bR9.freeF
    obtain ⟨j0, j1, j2, j3, j4⟩ := bE9.lcell
    simp only at j0 j1 j2 j3 j4
    have HS4 := Lib.hid s4
    have HKD := Lib.hid hK
    have hDne : D ≠ w.heap.size + 1 := by omega
    clear s4 bR9 bE9 ho o1f o2f hK eT
    go_wp2_with fail
    have hKP : (put5w V (w.heap.size + 1) ⟨(W : Int), b', some ⟨g1, 0, none⟩, n3, n3, some ⟨g2, 0, none⟩, n3, n3, some ⟨g3, 0, none⟩, n3, n3⟩).heap[D]? = some (.deferred (some [])) := K_set (K_set (K_set (K_set (K_set HKD.out hDne) hDne) hDne) hDne) hDne
    have hF5 : FBx ((put5w V (w.heap.size + 1) ⟨(W : Int), b', some ⟨g1, 0, none⟩, n3, n3, some ⟨g2, 0, none⟩, n3, n3, some ⟨g3, 0, none⟩, n3, n3⟩).putObj D (.deferred none)) (w.heap.size + 1) ⟨(W : Int), b', some ⟨g1, 0, none⟩, n3, n3, some ⟨g2, 0, none⟩, n3, n3, some ⟨g3, 0, none⟩, n3, n3⟩ := (World.putObj_heap_other (fun e => hDne e.symm)).trans HS4.out
    obtain ⟨e0, e1, e2, e3, e4⟩ := hF5.lcell
    simp only at e0 e1 e2 e3 e4
    refine ⟨by simp, .inl ⟨_, _, rfl, run_takeDeferred hKP, ?_⟩⟩
    refine ⟨.tuple #[Fv.v ⟨(W : Int), b', some ⟨g1, 0, none⟩, n3, n3, some ⟨g2, 0, none⟩, n3, n3, some ⟨g3, 0, none⟩, n3, n3⟩, .int .i64 0], by simp [results, Try.results34, go_sem, e0, e1, e2, e3, e4], ?_⟩
    refine FC.mk_ ⟨(W : Int), b', some ⟨g1, 0, none⟩, n3, n3, some ⟨g2, 0, none⟩, n3, n3, some ⟨g3, 0, none⟩, n3, n3⟩ rfl rfl (lo := w1.heap.size) (hi := w2.heap.size) ?_ (by omega) (by simp; omega) ⟨show n3 ≤ _ by omega, show n3 ≤ _ by omega, show n3 ≤ _ by omega⟩ ((below_put5 HB9.out ⟨(W : Int), b', some ⟨g1, 0, none⟩, n3, n3, some ⟨g2, 0, none⟩, n3, n3, some ⟨g3, 0, none⟩, n3, n3⟩ (by omega)).trans (belowK_b (w := w) (Nat.le_refl _) _ D _ (.deferred none) (by omega) hKP rfl rfl))
    exact OF.put_obj (HOF.out.put5 ⟨(W : Int), b', some ⟨g1, 0, none⟩, n3, n3, some ⟨g2, 0, none⟩, n3, n3, some ⟨g3, 0, none⟩, n3, n3⟩ (.inl (by omega))) (by omega)
  case stop =>
    rintro D c pre V _ _ h _
    exact h.elim
end Go.Proofs.Ytgplciodddfpbaa
