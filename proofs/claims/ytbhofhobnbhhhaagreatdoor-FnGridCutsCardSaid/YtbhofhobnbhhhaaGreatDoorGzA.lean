/- Contract of the draw of a piece and of a program for it: some piece, at most 80 cuts in a row of the call's own. The damaging of a text (as XDmg, without the books of chapter 2). Contracts of the draws of a program and of a program's text; two lists of cuts that read alike are told alike. -/
import Derived.Test.YtbhofhobnbhhhaaGreatDoorGrDw
import Derived.Test.YtbhofhobnbhhhaaGreatDoorGuMc
import Derived.Test.YtbhofhobnbhhhaaGreatDoorCtK
import Derived.Test.YtbhofhobnbhhhaaGreatDoorSrc
import Derived.BigQuiet
import Derived.BigRegion
import Derived.Deep.AppendLies
import Derived.Deep.DrawnRows
import Derived.Deep.QuietTactic
import Derived.Deep.RegionLaw
import Derived.Test.YtbhofhobnbhhhaaGreatDoorPxSp
import Derived.Laws.StructEq
namespace Go.Proofs.YtbhofhobnbhhhaaGreatDoor
open Go.RowKit
set_option linter.unusedVariables false

/-- The state of the draw: the source, the code, the boxes of the result and of the piece, the program, and the pieces. -/
structure RcI (w : World) (x : Pc) (g N C B : Nat) (A : Option Addr) (l : List Int) (gp G : Nat) (A6 : Option Addr) (n6 c6 : Nat) (A7 : Option Addr) (n7 c7 : Nat) (wr : World) : Prop where
  s : Src wr g A N C
  c : Rd U wr B A N l
  bR : Blk wr w.heap.size #[.int .i64 0, .int .i64 0] 25
  bP : Blk wr gp #[.int .i64 x.w, .int .i64 x.h] 25
  prog : ∃ gl, OwnS Ct.S wr G wr.heap.size (.slice A6 n6 c6) gl
  list : ∃ lp, OwnS Pc.S wr G wr.heap.size (.slice A7 n7 c7) lp ∧ ∀ y ∈ lp, y.inR
  b : Below w.heap.size w wr
  o1 : B ≤ w.heap.size
  o2 : w.heap.size < g
  o3 : g < gp
  o4 : gp < G
  o5 : G ≤ wr.heap.size
section
variable {w wr w' : World} {x : Pc} {g N C B gp G n6 c6 n7 c7 : Nat} {A A6 A7 : Option Addr} {l : List Int}
theorem RcI.below (h : RcI w x g N C B A l gp G A6 n6 c6 A7 n7 c7 wr) (hb : Below wr.heap.size wr w') : RcI w x g N C B A l gp G A6 n6 c6 A7 n7 c7 w' := by
  have h1 := h.o1
  have h2 := h.b.size
  have h5 := h.o5
  obtain ⟨gl, hg⟩ := h.prog
  obtain ⟨lp, hl, hi⟩ := h.list
  exact ⟨h.s.below hb h.s.lt, h.c.below hb (by omega), h.bR.below hb h.bR.lt, h.bP.below hb h.bP.lt, ⟨gl, (hg.below hb (Nat.le_refl _)).mono (Nat.le_refl _) hb.size⟩, ⟨lp, (hl.below hb (Nat.le_refl _)).mono (Nat.le_refl _) hb.size, hi⟩, h.b.trans (hb.mono h2), h.o1, h.o2, h.o3, h.o4, Nat.le_trans h5 hb.size⟩
theorem RcI.src (h : RcI w x g N C B A l gp G A6 n6 c6 A7 n7 c7 wr) (hs : Src w' g A N C) (hq : Only g (g + 1) wr w') : RcI w x g N C B A l gp G A6 n6 c6 A7 n7 c7 w' := by
  have h1 := h.o1
  have h2 := h.b.size
  have h3 := h.o2
  have h4 := h.o3
  have h5 := h.o4
  have h6 := h.o5
  obtain ⟨gl, hg⟩ := h.prog
  obtain ⟨lp, hl, hi⟩ := h.list
  exact ⟨hs, h.c.only hq (by omega) (by omega), h.bR.only hq (.inl (by omega)), h.bP.only hq (.inr (by omega)), ⟨gl, (hg.only hq (.inr (by omega))).mono (Nat.le_refl _) hq.size⟩, ⟨lp, (hl.only hq (.inr (by omega))).mono (Nat.le_refl _) hq.size, hi⟩, h.b.trans (hq.below (by omega) (by omega)), h.o1, h.o2, h.o3, h.o4, Nat.le_trans h6 hq.size⟩
theorem RcI.cut {A8 : Option Addr} {n8 c8 : Nat} {lp : List Pc} (h : RcI w x g N C B A l gp G A6 n6 c6 A7 n7 c7 wr) (hb : Below wr.heap.size wr w') (ho : OwnS Pc.S w' wr.heap.size w'.heap.size (.slice A8 n8 c8) lp) (hi : ∀ y ∈ lp, y.inR) : RcI w x g N C B A l gp G A6 n6 c6 A8 n8 c8 w' := by
  have k := h.below hb
  exact ⟨k.s, k.c, k.bR, k.bP, k.prog, ⟨lp, ho.mono h.o5 (Nat.le_refl _), hi⟩, k.b, k.o1, k.o2, k.o3, k.o4, k.o5⟩
theorem OwnS.keepK {α β : Type} {S : Shp α} {T : Shp β} {lo hi lo2 hi2 : Nat} {v v2 v2' : Value} {a : List α} {b : List β} (h : OwnS S wr lo hi v a) (h2 : OwnS T wr lo2 hi2 v2 b) (hne : S.ty ≠ T.ty) (hk : Kept wr w' v2 v2') : OwnS S w' lo hi v a := by
  refine h.keep fun k hk' => ?_
  have hlt := (h.lt k hk').2.2
  rcases h.1.2 with ⟨hv, _⟩ | ⟨g', c, cur, hv, _, hg', _⟩
  · rw [hv] at hk'
    simp [Value.ownBlock] at hk'
  · rw [hv] at hk'
    simp only [Value.ownBlock, Option.some.injEq] at hk'
    subst hk'
    exact (hk g' hlt (h2.far hg' hne)).1
theorem OwnS.capS {α : Type} {S : Shp α} {lo hi n c : Nat} {A : Option Addr} {l : List α} (h : OwnS S wr lo hi (.slice A n c) l) : n ≤ c := by
  obtain ⟨_, c', hv, hle⟩ := h.form
  injection hv with _ h2 h3
  omega
theorem neTy : Pc.S.ty ≠ Ct.S.ty := by decide
theorem RcI.push {A8 : Option Addr} {n8 c8 : Nat} {gl gl' : List Ct} (h : RcI w x g N C B A l gp G A6 n6 c6 A7 n7 c7 wr) (hg : OwnS Ct.S wr G wr.heap.size (.slice A6 n6 c6) gl) (ho : OwnS Ct.S w' G w'.heap.size (.slice A8 n8 c8) gl') (hO : Only G wr.heap.size wr w') (hK : Kept wr w' (.slice A6 n6 c6) (.slice A8 n8 c8)) :
    RcI w x g N C B A l gp G A8 n8 c8 A7 n7 c7 w' := by
  have h1 := h.o1
  have h2 := h.b.size
  have h3 := h.o2
  have h4 := h.o3
  have h5 := h.o4
  have h6 := h.o5
  obtain ⟨lp, hl, hi⟩ := h.list
  exact ⟨h.s.only hO (.inl (by omega)), h.c.only hO (by omega) (by omega), h.bR.only hO (.inl (by omega)), h.bP.only hO (.inl (by omega)), ⟨gl', ho⟩, ⟨lp, (hl.keepK hg neTy hK).mono (Nat.le_refl _) hO.size, hi⟩, h.b.trans (hO.below (by omega) (by omega)), h.o1, h.o2, h.o3, h.o4, Nat.le_trans h6 hO.size⟩
/-- The program begins anew. -/
theorem RcI.anew (h : RcI w x g N C B A l gp G A6 n6 c6 A7 n7 c7 wr) : RcI w x g N C B A l gp G (some ⟨wr.heap.size, 0, none⟩) 0 0 A7 n7 c7 (wr.alloc (.cells #[] 50)) := by
  have k := h.below (below_newG wr (.cells #[] 50))
  have h5 := h.o5
  have ho : OwnS Ct.S (wr.alloc (.cells #[] 50)) wr.heap.size (wr.heap.size + 1) (.slice (some ⟨wr.heap.size, 0, none⟩) 0 0) [] := OwnS.lit0 Ct.S wr
  exact ⟨k.s, k.c, k.bR, k.bP, ⟨[], ho.mono h5 (by simp)⟩, k.list, k.b, k.o1, k.o2, k.o3, k.o4, k.o5⟩
theorem RcI.start (hs : Src wr g A N C) (hc : Rd U wr B A N l) (hR : Blk wr w.heap.size #[.int .i64 0, .int .i64 0] 25) (hb : Below w.heap.size w wr) (hB : B ≤ w.heap.size) (hg : w.heap.size < g) (hx : x.inR) :
    RcI w x g N C B A l wr.heap.size (wr.heap.size + 1) (some ⟨wr.heap.size + 1, 0, none⟩) 0 0 (some ⟨wr.heap.size + 1 + 1, 0, none⟩) 1 1
      (((wr.alloc (.cells #[.int .i64 x.w, .int .i64 x.h] 25)).alloc (.cells #[] 50)).alloc (.cells #[.int .i64 x.w, .int .i64 x.h] 25)) := by
  have hz := hb.size
  have hlt := hs.lt
  have hb3 : Below wr.heap.size wr (((wr.alloc (.cells #[.int .i64 x.w, .int .i64 x.h] 25)).alloc (.cells #[] 50)).alloc (.cells #[.int .i64 x.w, .int .i64 x.h] 25)) :=
    (((below_newG wr _).alloc (by simp) _).alloc (by simp; omega) _)
  have ho6 := OwnS.lit0 Ct.S (wr.alloc (.cells #[.int .i64 x.w, .int .i64 x.h] 25))
  have ho7 := OwnS.lit (S := Pc.S) ((wr.alloc (.cells #[.int .i64 x.w, .int .i64 x.h] 25)).alloc (.cells #[] 50)) [x] #[.int .i64 x.w, .int .i64 x.h] rfl 1 rfl (by omega)
  have e1 : (wr.alloc (.cells #[.int .i64 x.w, .int .i64 x.h] 25)).heap.size = wr.heap.size + 1 := by simp
  have e2 : ((wr.alloc (.cells #[.int .i64 x.w, .int .i64 x.h] 25)).alloc (.cells #[] 50)).heap.size = wr.heap.size + 1 + 1 := by simp
  have e3 : (((wr.alloc (.cells #[.int .i64 x.w, .int .i64 x.h] 25)).alloc (.cells #[] 50)).alloc (.cells #[.int .i64 x.w, .int .i64 x.h] 25)).heap.size = wr.heap.size + 1 + 1 + 1 := by simp
  rw [e1] at ho6
  rw [e2] at ho7
  refine ⟨hs.below hb3 hlt, hc.below hb3 (by omega), hR.below hb3 hR.lt, ((Blk.new (w := wr) (g := wr.heap.size) _ _ rfl).alloc _).alloc _, ⟨[], ((show OwnS Ct.S _ _ _ _ _ from ho6).alloc _).mono (Nat.le_refl _) (by rw [e3]; omega)⟩, ⟨[x], (show OwnS Pc.S _ _ _ _ _ from ho7).mono (by omega) (by rw [e3]; omega), fun y hy => by simp at hy; subst hy; exact hx⟩, hb.trans (hb3.mono hz), hB, hg, hlt, Nat.lt_succ_self _, by rw [e3]; omega⟩
end
theorem below_setGr {w w' : World} {B k i : Nat} (h : Below B w w') (u : Value) (hk : B ≤ k) : Below B w (w'.setCell ⟨k, i, none⟩ u) :=
  ⟨h.os, h.tape, h.output, by simpa using h.size, fun j hj => (heap_setCell_other w' ⟨k, i, none⟩ j u (fun e => by have e' : j = k := e; omega)).trans (h.block j hj)⟩
def DrRc (w : World) (e' : Ending) (w' : World) : Prop := ∃ (x : Pc) (A : Option Addr) (n c : Nat) (gl : List Ct), e' = .returned (.tuple #[x.agg, .slice A n c]) ∧ OwnS Ct.S w' w.heap.size w'.heap.size (.slice A n c) gl ∧ n ≤ 80 ∧ Below w.heap.size w w'
/-- The end: a piece goes into the result's box. -/
theorem DrRc.mk_ {w wr : World} {x : Pc} {g N C B gp G n6 c6 n7 c7 : Nat} {A A6 A7 : Option Addr} {l : List Int} (h : RcI w x g N C B A l gp G A6 n6 c6 A7 n7 c7 wr) (a b : Int) (hn : n6 ≤ 80) :
    DrRc w (.returned (.tuple #[.agg #[.int .i64 a, .int .i64 b], .slice A6 n6 c6])) ((wr.setCell ⟨w.heap.size, 0, none⟩ (.int .i64 a)).setCell ⟨w.heap.size, 1, none⟩ (.int .i64 b)) := by
  obtain ⟨gl, hg⟩ := h.prog
  have h3 := h.o2
  have h4 := h.o3
  have h5 := h.o4
  have hf : Far (.slice A6 n6 c6) w.heap.size := fun e => by
    have := hg.lt _ e
    omega
  exact ⟨⟨a, b⟩, A6, n6, c6, gl, rfl, ((hg.other _ _ hf).other _ _ hf).mono (by omega) (by simp), hn, below_setGr (below_setGr h.b _ (Nat.le_refl _)) _ (Nat.le_refl _)⟩
theorem Gu.cc_yes {l : List Pc} {c : Ct} (h : Gu.ccB l c = true) : Gu.okL l = true ∧ Gu.canP l c := by
  unfold Gu.ccB at h
  rw [Bool.and_eq_true] at h
  exact ⟨h.1, Gu.can_iff.1 h.2⟩
theorem Gu.cut_inR {l : List Pc} {c : Ct} (h : Gu.okL l = true) (hc : Gu.canP l c) : ∀ y ∈ Gu.cut l c, y.inR := fun y hy => Pc.inR_ok (Gu.cut_ok hc (Gu.okL_all h).2 y hy)
-- MORE
set_option maxRecDepth 100000 in
set_option maxHeartbeats 16000000 in
theorem drawRc_any (N C B : Nat) (A : Option Addr) (l : List Int) (w : World) (hc : Rd U w B A N l) (hl : inByte l) (hB : B ≤ w.heap.size) (hN : N ≤ 1048576) :
    Calls Tryz.prog 25 #[.slice A N C] w fun e w' => DrRc w e w' := by
  have hb0 := below_newG w (.cells #[.int .i64 0, .int .i64 0] 25)
  have bR0 := Blk.new (w := w) (g := w.heap.size) #[.int .i64 0, .int .i64 0] 25 rfl
  have z0 : (w.alloc (.cells #[.int .i64 0, .int .i64 0] 25)).heap.size = w.heap.size + 1 := by simp
  go_enter Tryz.func25, Tryz.ntmps25
  go_wp2_with fail
  generalize w.alloc (.cells #[.int .i64 0, .int .i64 0] 25) = w0 at *
  have hc0 := hc.below hb0 hB
  clear hc
  refine (l01From_ex N C B A l _ hc0 hl (by omega)).mono ?_
  rintro e w1 ⟨g, rfl, hg1, hs1, hb1⟩
  have hc1 := hc0.below hb1 (by omega)
  have bR1 := bR0.below hb1 (by omega)
  have hb01 := hb0.trans (hb1.mono (by omega))
  have hgw : w.heap.size < g := by omega
  clear hc0 bR0 hb0 hb1 hg1 z0 w0
  go_wp2_with fail
  refine (drawPc_any g N C B A l w1 hs1 hc1 hl (by omega) hN).mono ?_
  rintro e w2 ⟨x, rfl, hxr, hs2, hq2⟩
  have hz1 := hb01.size
  have hI := RcI.start hs2 (hc1.only hq2 (by omega) (by omega)) (bR1.only hq2 (.inl (by omega))) (hb01.trans (hq2.below (by omega) (by omega))) hB hgw hxr
  have bP := ((Blk.new (w := w2) (g := w2.heap.size) #[.int .i64 x.w, .int .i64 x.h] 25 rfl).alloc (.cells #[] 50))
  have p0 := bP.cell 0 (v := .int .i64 x.w) rfl
  have p1 := bP.cell 1 (v := .int .i64 x.h) rfl
  have hBg : B ≤ g := by omega
  clear hs1 hc1 bR1 hb01 hs2 hq2 bP hxr
  go_wp2_with fail
  clear p0 p1
  refine (l01Next_any g N C B A l 9 _ hI.s hI.c hl hBg hN (by omega)).mono ?_
  rintro e w4 ⟨v, rfl, v0, v1, v9, hs4, hq4⟩
  have hI4 := hI.src hs4 hq4
  have v2 : v < 9 := v1 (by decide)
  obtain ⟨k0, rfl⟩ : ∃ k : Nat, v = (k : Int) := ⟨v.toNat, by omega⟩
  obtain ⟨gp, hgp⟩ : ∃ q, w2.heap.size = q := ⟨_, rfl⟩
  obtain ⟨G, hG⟩ : ∃ q, gp + 1 = q := ⟨_, rfl⟩
  rw [hgp] at hI4 ⊢
  rw [hG] at hI4 ⊢
  have hk0 : k0 ≤ 8 := by omega
  clear hI hs4 hq4 v0 v1 v2 v9 hz1
  have hI5 : ∃ (A6 : Option Addr) (n6 c6 : Nat) (A7 : Option Addr) (n7 c7 : Nat), (Value.slice (some ⟨G, 0, none⟩) 0 0) = .slice A6 n6 c6 ∧ (Value.slice (some ⟨G + 1, 0, none⟩) 1 1) = .slice A7 n7 c7 ∧ n6 + k0 ≤ 9 ∧ n7 + k0 ≤ 9 ∧ RcI w x g N C B A l gp G A6 n6 c6 A7 n7 c7 w4 := ⟨_, _, _, _, _, _, rfl, rfl, by omega, by omega, hI4⟩
  clear hI4 hgp hG
  go_wp2_with fail
  go_loopw [6, 7, 8] (fun p q i wr => ∃ (k : Nat) (A6 : Option Addr) (n6 c6 : Nat) (A7 : Option Addr) (n7 c7 : Nat), i = .int .i64 k ∧ p = .slice A6 n6 c6 ∧ q = .slice A7 n7 c7 ∧ n6 + k ≤ 9 ∧ n7 + k ≤ 9 ∧ RcI w x g N C B A l gp G A6 n6 c6 A7 n7 c7 wr) (fun _ _ i _ => (intOf i).toNat)
  case atStart =>
    obtain ⟨A6, n6, c6, A7, n7, c7, h1, h2, h3, h4, h5⟩ := hI5
    exact ⟨k0, A6, n6, c6, A7, n7, c7, rfl, h1, h2, h3, h4, h5⟩
  case round =>
    clear hI5
    obtain ⟨k, A6, n6, c6, A7, n7, c7, rfl, rfl, rfl, hk6, hk7, hI⟩ := hrel
    by_cases hk : 0 < k
    · obtain ⟨lp, hol, hin⟩ := hI.list
      have yk : IntKind.i64.wrap ((k : Int) - 1) = ((k - 1 : Nat) : Int) := by rw [show ((k - 1 : Nat) : Int) = (k : Int) - 1 from by omega]; exact IntWalk.i64_in _ (by omega)
      have o3 := hI.o3
      have o4 := hI.o4
      have o5 := hI.o5
      have hkI : 0 < (k : Int) := by omega
      go_wp2_with fail
      refine (drawCt_any g N C B A l G wr.heap.size n7 c7 A7 lp wr hI.s hI.c hl hBg hN hol (by omega) (Nat.le_refl _) (by omega) hin).mono ?_
      rintro e w5 ⟨y, rfl, hs5, hq5⟩
      have hI5 := hI.src hs5 hq5
      have hol5 := hol.only hq5 (.inr (by omega))
      have z5 := hq5.size
      clear hol hI hs5 hq5
      have bV := Blk.new (w := w5) (g := w5.heap.size) #[.int .i64 y.i, .bool y.a, .int .i64 y.t] 50 rfl
      have hIV := hI5.below (below_newG w5 (.cells #[.int .i64 y.i, .bool y.a, .int .i64 y.t] 50))
      have holV := hol5.alloc (.cells #[.int .i64 y.i, .bool y.a, .int .i64 y.t] 50)
      have zV : (w5.alloc (.cells #[.int .i64 y.i, .bool y.a, .int .i64 y.t] 50)).heap.size = w5.heap.size + 1 := by simp
      have cV0 := bV.cell 0 (v := .int .i64 y.i) rfl
      have cV1 := bV.cell 1 (v := .bool y.a) rfl
      have cV2 := bV.cell 2 (v := .int .i64 y.t) rfl
      obtain ⟨q, hq⟩ : ∃ q, Gu.ccB lp ⟨y.i, y.a, y.t⟩ = q := ⟨_, rfl⟩
      have HQ := Lib.hid hq
      clear hq hI5 hol5
      go_wp2_with fail
      refine (specCc_any A7 n7 c7 _ lp y.i y.a y.t q _ holV.rd (by omega) (by omega) HQ.out).mono ?_
      rintro e w6 ⟨rfl, hb6⟩
      have hI6 := hIV.below hb6
      have b6 := bV.below hb6 (by omega)
      have hol6 := holV.below hb6 (by omega)
      have z6 := hb6.size
      rw [zV] at z6
      clear hIV holV bV cV0 cV1 cV2 hb6
      obtain ⟨gc, hgc⟩ : ∃ q, w5.heap.size = q := ⟨_, rfl⟩
      rw [hgc] at b6 z6 ⊢
      have z7 : wr.heap.size ≤ gc := by omega
      clear hgc zV
      cases q
      · have d0 := b6.cell 0 (v := .int .i64 y.i) rfl
        go_wp2_with fail
        refine (l01Next_any g N C B A l 5 _ hI6.s hI6.c hl hBg hN (by omega)).mono ?_
        rintro e w7 ⟨u, rfl, u0, u1, u9, hs7, hq7⟩
        have hI7 := hI6.src hs7 hq7
        have b7 := b6.only hq7 (.inr (by omega))
        clear hI6 b6 hol6 hs7 hq7 u1 u9 d0
        by_cases hu : 0 < u
        · go_wp2_with fail
          go_roundw
          case rel => exact ⟨k - 1, A6, n6, c6, A7, n7, c7, rfl, rfl, rfl, by omega, by omega, hI7⟩
          case measure => simp [intOf]; omega
        · have hu' : u = 0 := by omega
          subst hu'
          have d0 := b7.cell 0 (v := .int .i64 y.i) rfl
          have d1 := b7.cell 1 (v := .bool y.a) rfl
          have d2 := b7.cell 2 (v := .int .i64 y.t) rfl
          obtain ⟨gl, hg⟩ := hI7.prog
          have o57 := hI7.o5
          go_wp2_with (at_builtin; refine wp_pushKCt w7 rfl (.tmp 36) (.tmp 38) 28 rfl Tryz.underlying28 A6 n6 c6 gl G w7.heap.size (by rfl) hg y w7.heap.size (by rfl) rfl (by omega) (by omega) ?_; intro A9 c9 w9 ho9 hm9 hK9; have hI9 := Lib.hid (hI7.push hg ho9 hm9 hK9))
          go_roundw
          case rel => exact ⟨k - 1, A9, n6 + 1, c9, A7, n7, c7, rfl, rfl, rfl, by omega, by omega, hI9.out⟩
          case measure => simp [intOf]; omega
      · obtain ⟨hok, hcan⟩ := Gu.cc_yes HQ.out
        have n7p : 0 < n7 := by have h1 := hcan.2.1; have h2 := hcan.2.2.1; have h3 := hol6.rd.1; simp at h1 h2; omega
        have hc7 := hol6.capS
        obtain ⟨g7, x7, hA7, _⟩ := hol6.at_Pc n7p
        subst hA7
        have d0 := b6.cell 0 (v := .int .i64 y.i) rfl
        have d1 := b6.cell 1 (v := .bool y.a) rfl
        have d2 := b6.cell 2 (v := .int .i64 y.t) rfl
        have HCAN := Lib.hid hcan
        clear hcan
        have hr6 := hol6.rd
        go_wp2_with fail
        refine (specLc_any g7 0 n7 c7 _ lp y.i y.a y.t _ hr6 (by omega) hok hc7 HCAN.out).mono ?_
        rintro e w7 ⟨A8, c8, rfl, ho7, hb7⟩
        have hI7 := hI6.cut hb7 ho7 (Gu.cut_inR hok HCAN.out)
        have b7 := b6.below hb7 (by omega)
        clear hI6 b6 hol6 hb7 ho7 d0 d1 d2 hr6
        have d0 := b7.cell 0 (v := .int .i64 y.i) rfl
        have d1 := b7.cell 1 (v := .bool y.a) rfl
        have d2 := b7.cell 2 (v := .int .i64 y.t) rfl
        obtain ⟨gl, hg⟩ := hI7.prog
        have o57 := hI7.o5
        go_wp2_with (at_builtin; refine wp_pushKCt w7 rfl (.tmp 36) (.tmp 38) 28 rfl Tryz.underlying28 A6 n6 c6 gl G w7.heap.size (by rfl) hg y w7.heap.size (by rfl) rfl (by omega) (by omega) ?_; intro A9 c9 w9 ho9 hm9 hK9; have hI9 := Lib.hid (hI7.push hg ho9 hm9 hK9))
        go_roundw
        case rel => exact ⟨k - 1, A9, n6 + 1, c9, A8, (n7 + 1), c8, rfl, rfl, rfl, by omega, by omega, hI9.out⟩
        case measure => simp [intOf]; omega
    · obtain rfl : k = 0 := by omega
      go_wp2_with fail
      refine (l01Next_any g N C B A l 40 _ hI.s hI.c hl hBg hN (by omega)).mono ?_
      rintro e w5 ⟨u, rfl, u0, u1, u9, hs5, hq5⟩
      have hI5 := hI.src hs5 hq5
      clear hI hs5 hq5 u1 u9
      by_cases hu : u = 0
      · subst hu
        have hI6 := hI5.anew
        clear hI5
        go_wp2_with fail
        refine (l01Next_any g N C B A l 2 _ hI6.s hI6.c hl hBg hN (by omega)).mono ?_
        rintro e w7 ⟨t, rfl, t0, t1, t9, hs7, hq7⟩
        have hI7 := hI6.src hs7 hq7
        have t2 : t < 2 := t1 (by decide)
        obtain ⟨gq, hgq⟩ : ∃ q, w5.heap.size = q := ⟨_, rfl⟩
        rw [hgq] at hI7 ⊢
        obtain ⟨m, hm⟩ : ∃ m : Nat, (m : Int) = 79 + t := ⟨(79 + t).toNat, by omega⟩
        have ym : IntKind.i64.wrap (79 + t) = (m : Int) := by rw [hm]; exact IntWalk.i64_in _ (by omega)
        have hm80 : m ≤ 80 := by omega
        have HM := Lib.hid ym
        clear hI6 hs7 hq7 t1 t9 hgq hm
        go_wp2_with fail
        clear ym
        go_loopw [6, 10] (fun p i wr => ∃ (k : Nat) (A6 : Option Addr) (n6 c6 : Nat), i = .int .i64 k ∧ p = .slice A6 n6 c6 ∧ n6 + k ≤ 80 ∧ RcI w x g N C B A l gp G A6 n6 c6 A7 n7 c7 wr) (fun _ i _ => (intOf i).toNat)
        case atStart => exact ⟨m, _, _, _, rfl, rfl, by omega, hI7⟩
        case round =>
          clear hI7
          rename_i wOld
          obtain ⟨k, A8, n8, c8, rfl, rfl, hk8, hI⟩ := hrel
          by_cases hk : 0 < k
          · have yk : IntKind.i64.wrap ((k : Int) - 1) = ((k - 1 : Nat) : Int) := by rw [show ((k - 1 : Nat) : Int) = (k : Int) - 1 from by omega]; exact IntWalk.i64_in _ (by omega)
            have hkI : 0 < (k : Int) := by omega
            obtain ⟨gl, hg⟩ := hI.prog
            have o5 := hI.o5
            go_wp2_with (at_builtin; refine wp_pushKCt wr rfl (.tmp 51) (.tmp 54) 28 rfl Tryz.underlying28 A8 n8 c8 gl G wr.heap.size (by rfl) hg ⟨0, false, (k : Int)⟩ wr.heap.size (by rfl) rfl (by omega) (by omega) ?_; intro A9 c9 w9 ho9 hm9 hK9; have hI9 := Lib.hid (hI.push hg ho9 hm9 hK9))
            go_roundw
            case rel => exact ⟨k - 1, A9, n8 + 1, c9, rfl, rfl, by omega, hI9.out⟩
            case measure => simp [intOf]; omega
          · obtain rfl : k = 0 := by omega
            have r0 := hI.bR.cell 0 (v := .int .i64 0) rfl
            have r1 := hI.bR.cell 1 (v := .int .i64 0) rfl
            have f0 := hI.bR.free 0
            have f1 := hI.bR.free 1
            have S2 := Lib.hid ((hI.bR.set 0 (.int .i64 500)).set 1 (.int .i64 5))
            have HE := Lib.hid (DrRc.mk_ hI (500) (5) (by omega))
            go_wp2_with fail
            have e0 := S2.out.cell 0 (v := .int .i64 500) rfl
            have e1 := S2.out.cell 1 (v := .int .i64 5) rfl
            exact bodyPost_ret (by simp [results, Tryz.results25, go_sem, e0, e1]) rfl HE.out
      · have hu' : (u == 0) = false := by simpa using hu
        have q0 := hI5.bP.cell 0 (v := .int .i64 x.w) rfl
        have q1 := hI5.bP.cell 1 (v := .int .i64 x.h) rfl
        have r0 := hI5.bR.cell 0 (v := .int .i64 0) rfl
        have r1 := hI5.bR.cell 1 (v := .int .i64 0) rfl
        have f0 := hI5.bR.free 0
        have f1 := hI5.bR.free 1
        have S2 := Lib.hid ((hI5.bR.set 0 (.int .i64 x.w)).set 1 (.int .i64 x.h))
        have HE := Lib.hid (DrRc.mk_ hI5 (x.w) (x.h) (by omega))
        go_wp2_with fail
        have e0 := S2.out.cell 0 (v := .int .i64 x.w) rfl
        have e1 := S2.out.cell 1 (v := .int .i64 x.h) rfl
        exact bodyPost_ret (by simp [results, Tryz.results25, go_sem, e0, e1]) rfl HE.out
end Go.Proofs.YtbhofhobnbhhhaaGreatDoor
namespace Go.Proofs.YtbhofhobnbhhhaaGreatDoor
open Go.RowKit

/-- How the damaging of a text ends: with a text that is at most one byte longer. -/
def DmgP (n : Nat) (w : World) (g : Nat) (A : Option Addr) (N C : Nat) (e : Ending) (w' : World) : Prop :=
  ∃ u : ByteArray, e = .returned (.string u) ∧ u.size ≤ n ∧ Src w' g A N C ∧ Only g (g + 1) w w'
theorem DmgP.mk_ {n : Nat} {w w' : World} {g N C : Nat} {A : Option Addr} {u : ByteArray} (hu : u.size ≤ n) (hs : Src w' g A N C) (ho : Only g (g + 1) w w') : DmgP n w g A N C (.returned (.string u)) w' := ⟨u, rfl, hu, hs, ho⟩

def marksS : List ByteArray := [⟨#[48]⟩, ⟨#[49]⟩, ⟨#[32]⟩, ⟨#[45]⟩, ⟨#[46]⟩, ⟨#[44]⟩, ⟨#[10]⟩, ⟨#[120]⟩]
theorem marks_at (k : Nat) (b : ByteArray) (hb : marksS[k]? = some b) (h : k < ([Value.string ⟨#[48]⟩, Value.string ⟨#[49]⟩, Value.string ⟨#[32]⟩, Value.string ⟨#[45]⟩, Value.string ⟨#[46]⟩, Value.string ⟨#[44]⟩, Value.string ⟨#[10]⟩, Value.string ⟨#[120]⟩] : List Value).length) : ([Value.string ⟨#[48]⟩, Value.string ⟨#[49]⟩, Value.string ⟨#[32]⟩, Value.string ⟨#[45]⟩, Value.string ⟨#[46]⟩, Value.string ⟨#[44]⟩, Value.string ⟨#[10]⟩, Value.string ⟨#[120]⟩] : List Value)[k] = .string b := by
  have e : (marksS.map Value.string)[k]? = some (.string b) := by rw [List.getElem?_map, hb]; rfl
  have e2 : ([Value.string ⟨#[48]⟩, Value.string ⟨#[49]⟩, Value.string ⟨#[32]⟩, Value.string ⟨#[45]⟩, Value.string ⟨#[46]⟩, Value.string ⟨#[44]⟩, Value.string ⟨#[10]⟩, Value.string ⟨#[120]⟩] : List Value)[k]? = some (.string b) := e
  rw [List.getElem?_eq_getElem h] at e2
  injection e2

set_option maxRecDepth 100000 in
set_option maxHeartbeats 4000000 in
theorem l01Damage_any (g N C B : Nat) (A : Option Addr) (l : List Int) (t : ByteArray) (w : World) (hs : Src w g A N C) (hc : Rd U w B A N l) (hl : inByte l) (hB : B ≤ g) (hN : N ≤ 1048576) (ht : t.size ≤ 1000000) :
    Calls Tryz.prog 27 #[.pointer (some ⟨g, 0, none⟩), .string t] w (DmgP (t.size + 1) w g A N C) := by
  go_enter Tryz.func27, Tryz.ntmps27
  go_wp2_with fail
  refine (l01Next_any g N C B A l _ _ hs hc hl hB hN (by omega)).mono ?_
  rintro e w1 ⟨k, rfl, hk0, hk1, _, hs1, ho1⟩
  obtain ⟨k, rfl⟩ := Int.eq_ofNat_of_zero_le hk0
  have hkt : k ≤ t.size := by have := hk1 (by omega); omega
  have hB1 := hs.lt
  have hc1 := hc.only ho1 (by omega) (by omega)
  clear hk0 hk1
  go_wp2_with fail
  refine (l01Next_any g N C B A l _ _ hs1 hc1 hl hB hN (by omega)).mono ?_
  rintro e w2 ⟨v, rfl, hv0, hv1, _, hs2, ho2⟩
  have hc2 := hc1.only ho2 (by omega) (by have := hs1.lt; omega)
  have hO := ho1.trans ho2
  obtain ⟨p, hp⟩ : ∃ p, p = t.extract 0 k := ⟨_, rfl⟩
  have hpz : p.size ≤ k := by rw [hp, ByteArray.size_extract]; omega
  have hsl : ∀ W, (Instr.slice 9 (.string t) none (some (.int .i64 (k : Int))) none).run Tryz.prog W = .ok (.string p) W := fun W => by
    rw [run_slice_string_to_if W _ _ _ _ Tryz.underlying9, if_pos ⟨by omega, by omega⟩, hp]
    rfl
  clear hp
  by_cases h0 : v = 0
  · subst h0
    have hD := Lib.hid (DmgP.mk_ (n := t.size + 1) (u := p) (by omega) hs2 hO)
    go_wp2_with fail
    go_ret
    exact hD.out
  · by_cases h1 : v = 1
    · subst h1
      obtain ⟨q, hq⟩ : ∃ q, q = t.extract k t.size := ⟨_, rfl⟩
      have hqz : q.size ≤ t.size - k := by rw [hq, ByteArray.size_extract]; omega
      have hsl2 : ∀ W, (Instr.slice 9 (.string t) (some (.int .i64 (k : Int))) none none).run Tryz.prog W = .ok (.string q) W := fun W => by
        rw [run_slice_string_from_if W _ _ _ _ Tryz.underlying9, if_pos ⟨by omega, by omega⟩, hq]
        rfl
      clear hq
      have HD : Hid (∀ (b : ByteArray) (W : World), b.size = 1 → Src W g A N C → Only g (g + 1) w W → DmgP (t.size + 1) w g A N C (.returned (.string (p ++ b ++ q))) W) := fun b W hb hs ho => DmgP.mk_ (by rw [ByteArray.size_append, ByteArray.size_append]; omega) hs ho
      have HN : Hid (∀ W, Below w2.heap.size w2 W → Calls Tryz.prog 18 #[.pointer (some ⟨g, 0, none⟩), .int .i64 8] W (NextP W g A N C 8)) := fun W hb =>
        l01Next_any g N C B A l _ W (hs2.below hb hs2.lt) (hc2.below hb (by have := hs2.lt; omega)) hl hB hN (by omega)
      have hsum1 : ¬ 9223372036854775807 < p.size + 1 := by omega
      have hsum2 : ¬ 9223372036854775807 < p.size + 1 + q.size := by omega
      have HV : Hid (∀ v : Int, 0 ≤ v → v < 8 → ∃ b : ByteArray, b.size = 1 ∧ marksS[v.toNat]? = some b) := fun v h0 h1 => by
        have h : v = 0 ∨ v = 1 ∨ v = 2 ∨ v = 3 ∨ v = 4 ∨ v = 5 ∨ v = 6 ∨ v = 7 := by omega
        rcases h with rfl | rfl | rfl | rfl | rfl | rfl | rfl | rfl <;> exact ⟨_, rfl, rfl⟩
      have HA : Hid (∀ (W W3 : World) (v : Int) (b : ByteArray), marksS[v.toNat]? = some b → Only g (g + 1) W W3 → W.heap[w2.heap.size]? = some (.cells (marksS.map Value.string).toArray 9 (0, 0)) → W3.cell? ⟨w2.heap.size, v.toNat, none⟩ = some (.string b)) := fun W W3 v b hb ho hW => by
        have hg2 := hs2.lt
        have hlt : w2.heap.size < W.heap.size := (Array.getElem?_eq_some_iff.1 hW).1
        rw [World.cell?_of_block (ho.block w2.heap.size hlt (.inr (by omega))), cell_of_row W _ v.toNat _ _ (0, 0) hW]
        simp [hb]
      go_wp2_with fail
      go_region_law ((go_simp; go_at_call 18; refine (HN.out _ (by repeat (first | exact Below.refl _ _ | apply below_drewN' | apply Below.drew | (refine Below.alloc ?_ (Nat.le_refl _) _)))).mono ?_; rintro e w3 ⟨v, rfl, hv0, hv1, _, hs3, ho3⟩; have hv8 := hv1 (by omega); obtain ⟨b, hbz, hbv⟩ := HV.out v hv0 hv8; have HBV := Lib.hid hbv; clear hbv hv1; have hcB := marks_at v.toNat b HBV.out; (try (have hcA := HA.out _ w3 v b HBV.out ho3 (by first | exact heap_alloc_new w2 _ | exact heap_alloc_new w2.drew _ | exact heap_alloc_new (w2.drewN 1) _)))))
      all_goals
        go_wp2_with fail
        go_ret
        first
          | exact HD.out b _ hbz hs3 (hO.trans ((Only.of_below ((Below.refl _ _).drew.alloc (Nat.le_refl _) _) _ _).trans ho3))
          | exact HD.out b _ hbz hs3 (hO.trans ((Only.of_below (((Below.refl _ _).alloc (Nat.le_refl _) _).drew) _ _).trans ho3))
          | exact HD.out b _ hbz (hs3.below ((Below.refl _ _).alloc (Nat.le_refl _) _) hs3.lt) (hO.trans ((Only.refl _ _ _).drew.trans (ho3.trans (Only.of_below ((Below.refl _ _).alloc (Nat.le_refl _) _) _ _))))
    · by_cases h2 : v = 2
      · subst h2
        by_cases hkl : k < t.size
        · obtain ⟨q, hq⟩ : ∃ q, q = t.extract (k + 1) t.size := ⟨_, rfl⟩
          have hqz : q.size = t.size - (k + 1) := by rw [hq, ByteArray.size_extract]; omega
          have hsl2 : ∀ W, (Instr.slice 9 (.string t) (some (.int .i64 ((k : Int) + 1))) none none).run Tryz.prog W = .ok (.string q) W := fun W => by
            rw [run_slice_string_from_if W _ _ _ _ Tryz.underlying9, if_pos ⟨by omega, by omega⟩, hq]
            rfl
          have e1 : IntKind.i64.wrap ((k : Int) + 1) = (k : Int) + 1 := IntWalk.i64_in _ (by omega)
          have hsum : ¬ p.size + q.size > 9223372036854775807 := by omega
          have hD := Lib.hid (fun m => DmgP.mk_ (n := t.size + 1) (u := p ++ q) (by rw [ByteArray.size_append]; omega) (hs2.q (Q.drewN _ m)) (hO.drewN m))
          clear hq
          go_wp2_with fail
          go_region
          all_goals
            go_wp2
            go_ret
            exact hD.out _
        · have hD := Lib.hid (DmgP.mk_ (n := t.size + 1) (u := t) (by omega) hs2 hO)
          have hkl' : t.size ≤ k := by omega
          go_wp2_with fail
          go_ret
          exact hD.out
      · have hD := Lib.hid (DmgP.mk_ (n := t.size + 1) (u := t) (by omega) hs2 hO)
        have t0 : (v == 0) = false := by simpa using h0
        have t1 : (v == 1) = false := by simpa using h1
        have t2 : (v == 2) = false := by simpa using h2
        go_wp2_with fail
        go_ret
        exact hD.out
end Go.Proofs.YtbhofhobnbhhhaaGreatDoor
namespace Go.Proofs.YtbhofhobnbhhhaaGreatDoor
open Go.RowKit
set_option linter.unusedVariables false

def DrPt (w : World) (e' : Ending) (w' : World) : Prop := ∃ (A : Option Addr) (n c : Nat) (gl : List Ct), e' = .returned (.slice A n c) ∧ OwnS Ct.S w' w.heap.size w'.heap.size (.slice A n c) gl ∧ n ≤ 80 ∧ Below w.heap.size w w'
set_option maxRecDepth 100000 in
set_option maxHeartbeats 4000000 in
theorem drawPt_any (N C B : Nat) (A : Option Addr) (l : List Int) (w : World) (hc : Rd U w B A N l) (hl : inByte l) (hB : B ≤ w.heap.size) (hN : N ≤ 1048576) :
    Calls Tryz.prog 8 #[.slice A N C] w fun e w' => DrPt w e w' := by
  go_enter Tryz.func8, Tryz.ntmps8
  go_wp2_with fail
  refine (drawRc_any N C B A l w hc hl hB hN).mono ?_
  rintro e w1 ⟨x, A1, n, c, gl, rfl, ho, hn, hb⟩
  have HO := Lib.hid ((ho.alloc (.cells #[.int .i64 x.w, .int .i64 x.h] 25)).mono (Nat.le_refl _) (show w1.heap.size ≤ (w1.alloc (.cells #[.int .i64 x.w, .int .i64 x.h] 25)).heap.size by simp))
  have HB := Lib.hid (hb.alloc hb.size (.cells #[.int .i64 x.w, .int .i64 x.h] 25))
  clear ho hb
  go_wp2_with fail
  go_ret
  exact ⟨A1, n, c, gl, rfl, HO.out, hn, HB.out⟩

theorem Px.pt_size (g : List Ct) : (Px.ptS g).size ≤ 948 := by
  unfold Px.ptS
  split
  · rename_i h
    unfold Px.okG at h
    rw [Bool.and_eq_true, decide_eq_true_eq, List.all_eq_true] at h
    have h1 := Px.joinS_size g g.length (Nat.le_refl _) fun j y hj hy => h.2 y (List.mem_of_getElem? hy)
    rw [List.take_length] at h1
    omega
  · show 0 ≤ 948
    omega
def DrRp (w : World) (e' : Ending) (w' : World) : Prop := ∃ u : ByteArray, e' = .returned (.string u) ∧ u.size ≤ 1000 ∧ Below w.heap.size w w'
theorem DrRp.mk_ {w w' : World} {u : ByteArray} (hu : u.size ≤ 1000) (h : Below w.heap.size w w') : DrRp w (.returned (.string u)) w' := ⟨u, rfl, hu, h⟩
set_option maxRecDepth 100000 in
set_option maxHeartbeats 4000000 in
theorem drawRp_any (N C B : Nat) (A : Option Addr) (l : List Int) (w : World) (hc : Rd U w B A N l) (hl : inByte l) (hB : B ≤ w.heap.size) (hN : N ≤ 1048576) :
    Calls Tryz.prog 10 #[.slice A N C] w fun e w' => DrRp w e w' := by
  go_enter Tryz.func10, Tryz.ntmps10
  go_wp2_with fail
  refine (l01From_ex N C B A l w hc hl hB).mono ?_
  rintro e w1 ⟨g, rfl, hg, hs1, hb1⟩
  have hc1 := hc.below hb1 hB
  have z1 := hb1.size
  go_wp2_with fail
  refine (drawRc_any N C B A l w1 hc1 hl (by omega) hN).mono ?_
  rintro e w2 ⟨x, A1, n, c, gl, rfl, ho2, hn, hb2⟩
  have hbA := below_newG w2 (.cells #[.int .i64 x.w, .int .i64 x.h] 25)
  have z2 := hb2.size
  have zA := hbA.size
  have hs2 := (hs1.below hb2 hs1.lt).below hbA (Nat.lt_of_lt_of_le hs1.lt z2)
  have hc2 := (hc1.below hb2 (by omega)).below hbA (by omega)
  have ho3 := ho2.alloc (.cells #[.int .i64 x.w, .int .i64 x.h] 25)
  have HB2 := Lib.hid ((hb1.trans (hb2.mono z1)).trans (hbA.mono (by omega)))
  have hlt := hs1.lt
  clear hs1 hc1 ho2 hb1 hb2 hbA hc
  obtain ⟨T, hT⟩ : ∃ T, Px.ptS gl = T := ⟨_, rfl⟩
  have hTz : T.size ≤ 948 := by rw [← hT]; exact Px.pt_size gl
  have HT := Lib.hid hT
  have HZ := Lib.hid hTz
  clear hT hTz
  go_wp2_with fail
  refine (specPt_any A1 n c _ gl T _ ho3.rd zA (by omega) HT.out).mono ?_
  rintro e w3 ⟨rfl, hb3⟩
  have hs3 := hs2.below hb3 hs2.lt
  have hc3 := hc2.below hb3 (by omega)
  have z3 := hb3.size
  have HB3 := Lib.hid (HB2.out.trans (hb3.mono (by omega)))
  clear hs2 hc2 hb3 ho3
  go_wp2_with fail
  refine (l01Next_any g N C B A l 3 _ hs3 hc3 hl (by omega) hN (by omega)).mono ?_
  rintro e w4 ⟨v, rfl, v0, v1, v9, hs4, hq4⟩
  have hc4 := hc3.only hq4 (by omega) (by omega)
  have HB4 := Lib.hid (HB3.out.trans (hq4.below (B := w.heap.size) (by omega) (by omega)))
  have z4 := hq4.size
  clear v1 v9 hs3 hc3 hq4
  by_cases hv : v = 0
  · subst hv
    go_wp2_with fail
    refine (l01Damage_any g N C B A l T _ hs4 hc4 hl (by omega) hN (by have := HZ.out; omega)).mono ?_
    rintro e w5 ⟨t, rfl, ht, hs5, hq5⟩
    have HB5 := Lib.hid (HB4.out.trans (hq5.below (B := w.heap.size) (by omega) (by omega)))
    have HT5 : Hid (t.size ≤ 1000) := Lib.hid (by have := HZ.out; omega)
    clear hs5 hq5 ht
    go_wp2_with fail
    go_ret
    exact DrRp.mk_ HT5.out HB5.out
  · have hv' : (v == 0) = false := by simpa using hv
    have HT5 : Hid (T.size ≤ 1000) := Lib.hid (by have := HZ.out; omega)
    go_wp2_with fail
    go_ret
    exact DrRp.mk_ HT5.out HB4.out

set_option maxRecDepth 100000 in
theorem neCt (x : Ct) (W : World) : (binOp .neq 50 x.agg x.agg).run Tryz.prog W = .ok (.bool false) W := by
  have hf : Tryz.prog.underlying 50 = some (.struct (Tryz.prog.fieldsOf 50)) := by kernel_rfl
  have hp : Tryz.prog.stoodInHeld 50 = false := by kernel_rfl
  rw [run_neq_struct, run_equalIn_struct W 9999 _ _ _ hf hp]
  have hu := Tryz.underlying50
  rw [hf] at hu
  injection hu with hu
  injection hu with hu
  rw [hu]
  simp [Op.eqFields, go_sem, Tryz.underlying2, Tryz.underlying4]
set_option maxRecDepth 100000 in
set_option maxHeartbeats 4000000 in
theorem likeCuts_true (A A' : Option Addr) (n n' c c' B B' : Nat) (l : List Ct) (w : World) (h : RdS Ct.S w B A n l) (h' : RdS Ct.S w B' A' n' l) (hn : n ≤ 1048576) :
    Calls Tryz.prog 13 #[.slice A n c, .slice A' n' c'] w fun e w' => e = .returned (.bool true) ∧ Q w w' := by
  obtain rfl : n = n' := h.1.symm.trans h'.1
  have hne := neCt
  go_enter Tryz.func13, Tryz.ntmps13
  go_wp2
  go_loopw [5] (fun i wr => ∃ k : Nat, k ≤ n ∧ i = .int .i64 k ∧ Q w wr) (fun i _ => n - (intOf i).toNat)
  case atStart => exact ⟨0, Nat.zero_le _, rfl, Q.refl _⟩
  case round =>
    obtain ⟨k, hk, rfl, hq⟩ := hrel
    have h := h.q hq
    have h' := h'.q hq
    by_cases hlt : k < n
    · obtain ⟨b, o, x, rfl, hbB, hx, hc⟩ := h.at_Ct hlt
      obtain ⟨b', o', x', rfl, hbB', hx', hc'⟩ := h'.at_Ct hlt
      obtain rfl : x = x' := by rw [hx] at hx'; injection hx'
      obtain ⟨c0, c1, c2⟩ := hc
      obtain ⟨d0, d1, d2⟩ := hc'
      have hnx := hne x
      clear hx hx' hne
      go_wp2
      go_quiet (fail)
      go_wp2
      go_roundw
      case rel => exact ⟨k + 1, by omega, by go_num, hq.more _⟩
      case measure => simp [intOf]; omega
    · obtain rfl : k = n := by omega
      go_wp2
      go_ret
      exact ⟨rfl, hq⟩
end Go.Proofs.YtbhofhobnbhhhaaGreatDoor
