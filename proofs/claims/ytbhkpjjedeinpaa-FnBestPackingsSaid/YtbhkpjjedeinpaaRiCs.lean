/- What the program's closure that completes a packing holds in memory, and how it is kept. -/
import Derived.Test.YtbhkpjjedeinpaaRiMp
import Derived.Test.YtbhkpjjedeinpaaRiSp
import Derived.Test.YtbhkpjjedeinpaaRiRp
import Derived.Test.YtbhkpjjedeinpaaPush
namespace Go.Proofs.Ytbhkpjjedeinpaa
open Go.RowKit Go.Maps
set_option linter.unusedVariables false

theorem ownI_cut {w : World} {lo hi g n c i : Nat} {L : List Int} (h : Own I w lo hi 2 (.slice (some ⟨g, 0, none⟩) n c) L) (hi' : i ≤ n) : Own I w lo hi 2 (.slice (some ⟨g, 0, none⟩) i c) (L.take i) := by
  have hl : L.length = n := h.rd.1
  rcases h.1.2 with ⟨hn1, _⟩ | ⟨g', cap, cur, hv, hb, hg, hnc, hcm, hcs, htk⟩
  · cases hn1
  · injection hv with hv1 hv2 hv3
    injection hv1 with hv1
    injection hv1 with hv1 _ _
    subst hv1 hv3
    have hti : (L.take i).length = i := by rw [List.length_take, hl]; omega
    refine ⟨⟨by simp, .inr ⟨g, c, cur, by rw [hti], hb, hg, by omega, hcm, hcs, ?_⟩⟩, fun k hk => h.2 k (by simpa [Value.ownBlock] using hk)⟩
    have h2 := congrArg (List.take i) htk
    rw [List.take_take] at h2
    rw [List.map_take, hti]
    simp only [Nat.mul_one] at h2 ⊢
    rw [← h2, Nat.min_eq_left (by omega)]
/-- The closure over its five variables. -/
abbrev CloP (gp gt gs gm gc : Nat) : Value := .func (.func 73) #[] #[.pointer (some ⟨gp, 0, none⟩), .pointer (some ⟨gt, 0, none⟩), .pointer (some ⟨gs, 0, none⟩), .pointer (some ⟨gm, 0, none⟩), .pointer (some ⟨gc, 0, none⟩)]
/-- Where they lie. -/
structure Plc (lo gp gt gs gm gc G M : Nat) : Prop where
  t : lo ≤ gt
  g : gt < G
  s : G < gs
  p : gs < gp
  m : gp < M
  n : M < gm
  c : gm < gc
/-- What they hold: the packing p, the spares L, the map D. -/
structure CSt (w : World) (lo gp gt gs gm gc G M : Nat) (r : Int) (A : Option Addr) (n c : Nat) (s : List Int) (m : Nat) (A' : Option Addr) (k c' : Nat) (p L : List Int) (N : Nat) (D : DataW Unit) : Prop where
  bp : Blk w gp #[.slice A' k c'] 24
  bt : TBx w gt r A n c
  bs : Blk w gs #[.slice (some ⟨G, 0, none⟩) m m] 24
  bm : Blk w gm #[.map (some M)] 73
  bc : Blk w gc #[CloP gp gt gs gm gc] 45
  pk : Own I w lo w.heap.size 2 (.slice A' k c') p
  sp : Blk w G (L.map I).toArray 2
  fr : Far (.slice A' k c') G
  mp : w.ownsMap Try.prog 74 (plainElem Try.prog 4) M N D
  rd : Rd I w lo A n s
/-- What may turn. -/
structure Frm (gp G M : Nat) (v v' : Value) (w w' : World) : Prop where
  os : w'.os = w.os
  tape : w'.tape = w.tape
  output : w'.output = w.output
  size : w.heap.size ≤ w'.heap.size
  block : ∀ k, k < w.heap.size → k ≠ gp → k ≠ G → k ≠ M → Far v k → w'.heap[k]? = w.heap[k]?
  far : ∀ k, k < w.heap.size → Far v k → Far v' k
section
variable {w w' w1 : World} {lo gp gt gs gm gc G M : Nat} {r : Int} {A A' A4 : Option Addr} {n c m k c' c4 N : Nat} {s p p' L : List Int} {D : DataW Unit} {v v' v'' : Value}
theorem Frm.refl : Frm gp G M v v w w := ⟨rfl, rfl, rfl, Nat.le_refl _, fun _ _ _ _ _ _ => rfl, fun _ _ h => h⟩
theorem Frm.trans (h : Frm gp G M v v' w w1) (j : Frm gp G M v' v'' w1 w') : Frm gp G M v v'' w w' :=
  ⟨j.os.trans h.os, j.tape.trans h.tape, j.output.trans h.output, Nat.le_trans h.size j.size,
   fun k hk h1 h2 h3 hf => (j.block k (Nat.lt_of_lt_of_le hk h.size) h1 h2 h3 (h.far k hk hf)).trans (h.block k hk h1 h2 h3 hf),
   fun k hk hf => j.far k (Nat.lt_of_lt_of_le hk h.size) (h.far k hk hf)⟩
theorem Frm.of_below (h : Below w.heap.size w w') : Frm gp G M v v w w' := ⟨h.os, h.tape, h.output, h.size, fun k hk _ _ _ _ => h.block k hk, fun _ _ h => h⟩
theorem Frm.setP (u : Value) : Frm gp G M v v w (w.setCell ⟨gp, 0, none⟩ u) :=
  ⟨rfl, rfl, rfl, by simp, fun k _ h _ _ _ => heap_setCell_other w ⟨gp, 0, none⟩ k u h, fun _ _ h => h⟩
theorem Frm.setG (j : Nat) (u : Value) : Frm gp G M v v w (w.setCell ⟨G, j, none⟩ u) :=
  ⟨rfl, rfl, rfl, by simp, fun k _ _ h _ _ => heap_setCell_other w ⟨G, j, none⟩ k u h, fun _ _ h => h⟩
theorem Frm.setM (h : w.grownBy w' (some M)) : Frm gp G M v v w w' :=
  ⟨h.os, h.tape, h.output, h.size, fun k hk _ _ h3 _ => h.block k hk (fun e => h3 (by injection e)), fun _ _ h => h⟩
theorem Frm.push {lo' hi : Nat} (h : Only lo' hi w w') (hk : Kept w w' v v') : Frm gp G M v v' w w' :=
  ⟨h.os, h.tape, h.output, h.size, fun k hlt _ _ _ hf => (hk k hlt hf).1, fun k hlt hf => (hk k hlt hf).2⟩
theorem Frm.cut {i : Nat} : Frm gp G M (.slice A' k c') (.slice A' i c') w w :=
  ⟨rfl, rfl, rfl, Nat.le_refl _, fun _ _ _ _ _ _ => rfl, fun g _ h => by
    unfold Far at h ⊢
    cases A' with
    | none => simp [Value.ownBlock]
    | some a => simpa [Value.ownBlock] using h⟩
theorem Frm.below (h : Frm gp G M v v' w w') (P : Plc lo gp gt gs gm gc G M) (hv : ∀ g, v.ownBlock = some g → lo ≤ g) (hlo : lo ≤ w.heap.size) : Below lo w w' := by
  have := P.t; have := P.g; have := P.s; have := P.p; have := P.m
  exact ⟨h.os, h.tape, h.output, h.size, fun k hk => h.block k (by omega) (by omega) (by omega) (by omega) (fun e => by have := hv k e; omega)⟩
theorem Frm.blk {g : Nat} {cs : Array Value} {t : TypeId} (h : Frm gp G M v v' w w') (hb : Blk w g cs t) (h1 : g ≠ gp) (h2 : g ≠ G) (h3 : g ≠ M) (h4 : Far v g) : Blk w' g cs t := (h.block g hb.lt h1 h2 h3 h4).trans hb
theorem CSt.lo_ (h : CSt w lo gp gt gs gm gc G M r A n c s m A' k c' p L N D) (P : Plc lo gp gt gs gm gc G M) : lo ≤ w.heap.size := by have := P.t; have := h.bt.lt; omega
theorem CSt.len (h : CSt w lo gp gt gs gm gc G M r A n c s m A' k c' p L N D) : p.length = k := h.pk.rd.1
theorem CSt.own_ (h : CSt w lo gp gt gs gm gc G M r A n c s m A' k c' p L N D) : ∀ g, (Value.slice A' k c').ownBlock = some g → lo ≤ g := fun g hg => (h.pk.lt g hg).1
theorem CSt.farP (h : CSt w lo gp gt gs gm gc G M r A n c s m A' k c' p L N D) : Far (.slice A' k c') gp := h.pk.far h.bp (by decide)
theorem CSt.farM (h : CSt w lo gp gt gs gm gc G M r A n c s m A' k c' p L N D) : Far (.slice A' k c') M := by
  intro e
  obtain ⟨es, cl, hb, _⟩ := h.mp
  rcases h.pk.1.2 with ⟨hv, _⟩ | ⟨g', cap, cur, hv, _, hgg, _⟩
  · rw [hv] at e
    simp [Value.ownBlock] at e
  · rw [hv] at e
    simp only [Value.ownBlock, Option.some.injEq] at e
    subst e
    rw [hb] at hgg
    cases hgg
theorem mp_of {b : Nat} (h : w.ownsMap Try.prog 74 (plainElem Try.prog 4) b N D) (hb : w'.heap[b]? = w.heap[b]?) : w'.ownsMap Try.prog 74 (plainElem Try.prog 4) b N D := by
  obtain ⟨es, cl, h1, h2⟩ := h
  exact ⟨es, cl, hb.trans h1, h2⟩
theorem CSt.below (h : CSt w lo gp gt gs gm gc G M r A n c s m A' k c' p L N D) (P : Plc lo gp gt gs gm gc G M) (hb : Below w.heap.size w w') : CSt w' lo gp gt gs gm gc G M r A n c s m A' k c' p L N D :=
  ⟨h.bp.below hb h.bp.lt, h.bt.below hb h.bt.lt, h.bs.below hb h.bs.lt, h.bm.below hb h.bm.lt, h.bc.below hb h.bc.lt, (h.pk.below hb (Nat.le_refl _)).mono (Nat.le_refl _) hb.size, h.sp.below hb h.sp.lt, h.fr, mp_of h.mp (hb.block M h.mp.lt), h.rd.below hb (h.lo_ P)⟩
theorem CSt.setP {q : Nat} {l : List Int} (h : CSt w lo gp gt gs gm gc G M r A n c s m A' k c' p L N D) (P : Plc lo gp gt gs gm gc G M) (ho : Own I w lo w.heap.size 2 (.slice A4 q c4) l) (hf : Far (.slice A4 q c4) G) : CSt (w.setCell ⟨gp, 0, none⟩ (.slice A4 q c4)) lo gp gt gs gm gc G M r A n c s m A4 q c4 l L N D := by
  have := P.t; have := P.g; have := P.s; have := P.p; have := P.m; have := P.n; have := P.c
  have hfp := ho.far h.bp (by decide)
  refine ⟨h.bp.set 0 _, h.bt.other _ _ (show gt ≠ gp by omega), h.bs.other _ _ (show gs ≠ gp by omega), h.bm.other _ _ (show gm ≠ gp by omega), h.bc.other _ _ (show gc ≠ gp by omega), (ho.other ⟨gp, 0, none⟩ _ hfp).mono (Nat.le_refl _) (by simp), h.sp.other _ _ (show G ≠ gp by omega), hf, mp_of h.mp (heap_setCell_other w ⟨gp, 0, none⟩ M _ (show M ≠ gp by omega)), h.rd.keep fun x hx => World.cell?_of_block (heap_setCell_other w ⟨gp, 0, none⟩ x.block _ (show x.block ≠ gp by omega))⟩
theorem CSt.setG (h : CSt w lo gp gt gs gm gc G M r A n c s m A' k c' p L N D) (P : Plc lo gp gt gs gm gc G M) (j : Nat) (y : Int) : CSt (w.setCell ⟨G, j, none⟩ (.int .i64 y)) lo gp gt gs gm gc G M r A n c s m A' k c' p (L.set j y) N D := by
  have := P.t; have := P.g; have := P.s; have := P.p; have := P.m; have := P.n; have := P.c
  refine ⟨h.bp.other _ _ (show gp ≠ G by omega), h.bt.other _ _ (show gt ≠ G by omega), h.bs.other _ _ (show gs ≠ G by omega), h.bm.other _ _ (show gm ≠ G by omega), h.bc.other _ _ (show gc ≠ G by omega), (h.pk.other ⟨G, j, none⟩ _ h.fr).mono (Nat.le_refl _) (by simp), ?_, h.fr, mp_of h.mp (heap_setCell_other w ⟨G, j, none⟩ M _ (show M ≠ G by omega)), h.rd.keep fun x hx => World.cell?_of_block (heap_setCell_other w ⟨G, j, none⟩ x.block _ (show x.block ≠ G by omega))⟩
  have := h.sp.set j (.int .i64 y)
  rw [List.map_set]
  simpa using this
/-- Behind an append to the packing, before it is written to its variable. -/
theorem CSt.push {l : List Int} {q : Nat} (h : CSt w lo gp gt gs gm gc G M r A n c s m A' k c' p L N D) (P : Plc lo gp gt gs gm gc G M) (ho : Own I w' lo w'.heap.size 2 (.slice A4 q c4) l) (hm : Only lo w.heap.size w w') (hk : Kept w w' (.slice A' k c') (.slice A4 q c4)) :
    Blk w' gp #[.slice A' k c'] 24 ∧ CSt (w'.setCell ⟨gp, 0, none⟩ (.slice A4 q c4)) lo gp gt gs gm gc G M r A n c s m A4 q c4 l L N D := by
  have := P.t; have := P.g; have := P.s; have := P.p; have := P.m; have := P.n; have := P.c
  have fp := hk gp h.bp.lt h.farP
  have ft := hk gt h.bt.lt (h.pk.far h.bt (by decide))
  have fs := hk gs h.bs.lt (h.pk.far h.bs (by decide))
  have fm := hk gm h.bm.lt (h.pk.far h.bm (by decide))
  have fc := hk gc h.bc.lt (h.pk.far h.bc (by decide))
  have fG := hk G h.sp.lt h.fr
  have fM := hk M h.mp.lt h.farM
  have bp : Blk w' gp #[.slice A' k c'] 24 := fp.1.trans h.bp
  refine ⟨bp, bp.set 0 _, Blk.other (ft.1.trans h.bt) _ _ (show gt ≠ gp by omega), Blk.other (fs.1.trans h.bs) _ _ (show gs ≠ gp by omega), Blk.other (fm.1.trans h.bm) _ _ (show gm ≠ gp by omega), Blk.other (fc.1.trans h.bc) _ _ (show gc ≠ gp by omega), (ho.other ⟨gp, 0, none⟩ _ fp.2).mono (Nat.le_refl _) (by simp), Blk.other (fG.1.trans h.sp) _ _ (show G ≠ gp by omega), fG.2, mp_of h.mp ((heap_setCell_other w' ⟨gp, 0, none⟩ M _ (show M ≠ gp by omega)).trans fM.1), ?_⟩
  exact (h.rd.only hm (Nat.le_refl _) (h.lo_ P)).keep fun x hx => World.cell?_of_block (heap_setCell_other w' ⟨gp, 0, none⟩ x.block _ (show x.block ≠ gp by omega))
theorem CSt.setM {N' : Nat} {D' : DataW Unit} (h : CSt w lo gp gt gs gm gc G M r A n c s m A' k c' p L N D) (P : Plc lo gp gt gs gm gc G M) (hg : w.grownBy w' (some M)) (hm : w'.ownsMap Try.prog 74 (plainElem Try.prog 4) M N' D') : CSt w' lo gp gt gs gm gc G M r A n c s m A' k c' p L N' D' := by
  have := P.t; have := P.g; have := P.s; have := P.p; have := P.m; have := P.n; have := P.c
  have kb : ∀ g, g < w.heap.size → g ≠ M → w'.heap[g]? = w.heap[g]? := fun g hg1 hg2 => hg.block g hg1 (fun e => hg2 (by injection e))
  refine ⟨(kb gp h.bp.lt (by omega)).trans h.bp, (kb gt h.bt.lt (by omega)).trans h.bt, (kb gs h.bs.lt (by omega)).trans h.bs, (kb gm h.bm.lt (by omega)).trans h.bm, (kb gc h.bc.lt (by omega)).trans h.bc, (h.pk.keep fun g e => kb g (h.pk.lt g e).2.2 (fun e2 => h.farM (by rw [e, e2]))).mono (Nat.le_refl _) hg.size, (kb G h.sp.lt (by omega)).trans h.sp, h.fr, hm, h.rd.keep fun x hx => World.cell?_of_block (kb x.block (by have := h.lo_ P; omega) (by omega))⟩
end
end Go.Proofs.Ytbhkpjjedeinpaa
