/- Contract of the draw of two pieces and of the numbers of columns and rows. -/
import Derived.Test.YtbhofhobnbhhhaaGreatDoorGrDw
import Derived.Deep.RegionHeld3
import Derived.BigRegion
namespace Go.Proofs.YtbhofhobnbhhhaaGreatDoor
open Go.RowKit
set_option linter.unusedVariables false

/-- A source and its code, in one word. -/
structure SrcG (w : World) (g N C B : Nat) (A : Option Addr) (l : List Int) : Prop where
  s : Src w g A N C
  c : Rd U w B A N l
  b : B ≤ g
theorem SrcG.alloc {w : World} {g N C B : Nat} {A : Option Addr} {l : List Int} (h : SrcG w g N C B A l) (o : Obj) : SrcG (w.alloc o) g N C B A l := ⟨h.s.below (below_newG w o) h.s.lt, h.c.below (below_newG w o) (Nat.le_trans h.b (Nat.le_of_lt h.s.lt)), h.b⟩
theorem SrcG.drew {w : World} {g N C B : Nat} {A : Option Addr} {l : List Int} (h : SrcG w g N C B A l) : SrcG w.drew g N C B A l := ⟨h.s.q (Q.drewN w 1), h.c.drewN 1, h.b⟩
theorem SrcG.lt {w : World} {g N C B : Nat} {A : Option Addr} {l : List Int} (h : SrcG w g N C B A l) : g < w.heap.size := h.s.lt
theorem nextG_ex (g N C B : Nat) (A : Option Addr) (l : List Int) (n : Int) (w : World) (h : SrcG w g N C B A l) (hl : inByte l) (hN : N ≤ 1048576) (h1 : 1 ≤ n) (h2 : n ≤ 100000) :
    Calls Tryz.prog 18 #[.pointer (some ⟨g, 0, none⟩), .int .i64 n] w fun e' w' => ∃ v, e' = .returned (.int .i64 v) ∧ (0 ≤ v ∧ v < n) ∧ SrcG w' g N C B A l ∧ Only g (g + 1) w w' := by
  refine (l01Next_any g N C B A l n w h.s h.c hl h.b hN (by omega)).mono ?_
  rintro e' w' ⟨v, rfl, v0, v1, _, hs, ho⟩
  exact ⟨v, rfl, ⟨v0, v1 h1⟩, ⟨hs, h.c.only ho (by have := h.b; omega) (by have := h.b; have := h.s.lt; omega), h.b⟩, ho⟩
theorem pickG_ex (g N C B q n : Nat) (A : Option Addr) (l l' : List Int) (cs : Array Value) (w : World) (h : SrcG w g N C B A l) (hl : inByte l) (hN : N ≤ 1048576) (hb : Blk w q cs 2) (hcs : cs = (l'.map I).toArray) (hn : n = l'.length) (h1 : 1 ≤ n) (h2 : n ≤ 100) (hq : q ≠ g) :
    Calls Tryz.prog 19 #[.pointer (some ⟨g, 0, none⟩), .slice (some ⟨q, 0, none⟩) n n] w fun e' w' => ∃ x, e' = .returned (.int .i64 x) ∧ x ∈ l' ∧ SrcG w' g N C B A l ∧ Only g (g + 1) w w' := by
  subst hcs hn
  have hrd : ∀ V, Blk V q (l'.map I).toArray 2 → Rd I V (q + 1) (some ⟨q, 0, none⟩) l'.length l' := fun V hV => ⟨rfl, fun _ => ⟨q, 0, rfl, Nat.lt_succ_self _, fun j x hx => by
    rw [Nat.zero_add]
    exact hV.cell j (by simp [hx])⟩⟩
  refine (l01Pick_any g N C B (q + 1) l'.length l'.length A _ l l' w h.s h.c hl h.b hN (hrd w hb) h1 (by omega) (fun _ w' ho => hrd w' (hb.only ho (by omega)))).mono ?_
  rintro e' w' ⟨x, rfl, hx, hs, ho⟩
  exact ⟨x, rfl, hx, ⟨hs, h.c.only ho (by have := h.b; omega) (by have := h.b; have := h.s.lt; omega), h.b⟩, ho⟩
theorem Blk.moveG {V V' : World} {g q : Nat} {cs : Array Value} {t : TypeId} (h : Blk V q cs t) (ho : Only g (g + 1) V V') (hq : q ≠ g) : Blk V' q cs t := h.only ho (by omega)
theorem Blk.drewG {w : World} {k : Nat} {cs : Array Value} {t : TypeId} (h : Blk w k cs t) : Blk w.drew k cs t := h
abbrev TwoG (V : World) (q : Nat) (v0 v1 : Value) : Prop := V.cell? ⟨q, 0, none⟩ = some v0 ∧ V.cell? ⟨q, 1, none⟩ = some v1
theorem Blk.twoG {V : World} {q : Nat} {v0 v1 : Value} {ty : TypeId} (h : Blk V q #[v0, v1] ty) : TwoG V q v0 v1 := ⟨h.cell 0 rfl, h.cell 1 rfl⟩
theorem keepPutG {V : World} {q k : Nat} {v0 v1 a b : Value} (hne : q ≠ k) (h : TwoG V q v0 v1) : TwoG ((V.setCell ⟨k, 0, none⟩ a).setCell ⟨k, 1, none⟩ b) q v0 v1 :=
  ⟨(World.cell?_of_block ((heap_setCell_other _ ⟨k, 1, none⟩ q b hne).trans (heap_setCell_other V ⟨k, 0, none⟩ q a hne))).trans h.1, (World.cell?_of_block ((heap_setCell_other _ ⟨k, 1, none⟩ q b hne).trans (heap_setCell_other V ⟨k, 0, none⟩ q a hne))).trans h.2⟩
def DrGc (w : World) (e' : Ending) (w' : World) : Prop := ∃ (p q : Pc) (a c : Int), e' = .returned (.tuple #[p.agg, .int .i64 a, .int .i64 c, q.agg]) ∧ (0 ≤ a ∧ a ≤ 1000) ∧ (0 ≤ c ∧ c ≤ 1000) ∧ Below w.heap.size w w'
theorem DrGc.mk_ {w w' : World} {p0 p1 q0 q1 a c : Int} (ha : 0 ≤ a ∧ a ≤ 1000) (hc : 0 ≤ c ∧ c ≤ 1000) (h : Below w.heap.size w w') : DrGc w (.returned (.tuple #[.agg #[.int .i64 p0, .int .i64 p1], .int .i64 a, .int .i64 c, .agg #[.int .i64 q0, .int .i64 q1]])) w' := ⟨⟨p0, p1⟩, ⟨q0, q1⟩, a, c, rfl, ha, hc, h⟩
theorem below_setG {w w' : World} {B k i : Nat} (h : Below B w w') (u : Value) (hk : B ≤ k) : Below B w (w'.setCell ⟨k, i, none⟩ u) :=
  ⟨h.os, h.tape, h.output, by simpa using h.size, fun j hj => (heap_setCell_other w' ⟨k, i, none⟩ j u (fun e => by have e' : j = k := e; omega)).trans (h.block j hj)⟩

/-- The state behind the draw of the piece to be cut. -/
structure GcP (w : World) (g N C B : Nat) (A : Option Addr) (l : List Int) (G7 G10 : Nat) (u v P Q : Int) (V : World) : Prop where
  k : SrcG V g N C B A l
  r : Blk V w.heap.size #[.int .i64 0, .int .i64 0] 25
  q : Blk V (w.heap.size + 1) #[.int .i64 0, .int .i64 0] 25
  s : Blk V G7 #[.int .i64 u, .int .i64 v] 25
  t : Blk V G10 #[.int .i64 P, .int .i64 Q] 25
  b : Below w.heap.size w V
  o1 : w.heap.size + 1 < g
  o2 : g < G7
  o3 : G7 < G10
section
variable {w V V' : World} {g N C B G7 G10 : Nat} {A : Option Addr} {l : List Int} {u v P Q : Int}
theorem SrcG.set {X i : Nat} (h : SrcG V g N C B A l) (a : Value) (hX : g < X) : SrcG (V.setCell ⟨X, i, none⟩ a) g N C B A l :=
  ⟨h.s.abv _ (by omega), h.c.only (only_set9 V X i a) (by have := h.b; omega) (by have := h.b; have := h.lt; omega), h.b⟩
theorem GcP.fresh (k : SrcG V g N C B A l) (r : Blk V w.heap.size #[.int .i64 0, .int .i64 0] 25) (q : Blk V (w.heap.size + 1) #[.int .i64 0, .int .i64 0] 25) (s : Blk V G7 #[.int .i64 u, .int .i64 v] 25) (b : Below w.heap.size w V) (o1 : w.heap.size + 1 < g) (o2 : g < G7) :
    GcP w g N C B A l G7 V.heap.size u v P Q (V.alloc (.cells #[.int .i64 P, .int .i64 Q] 25)) :=
  ⟨k.alloc _, r.alloc _, q.alloc _, s.alloc _, Blk.new _ _ rfl, b.alloc b.size _, o1, o2, s.lt⟩
theorem GcP.put {X : Nat} (k : SrcG V g N C B A l) (r : Blk V w.heap.size #[.int .i64 0, .int .i64 0] 25) (q : Blk V (w.heap.size + 1) #[.int .i64 0, .int .i64 0] 25) (s : Blk V G7 #[.int .i64 u, .int .i64 v] 25) (x : Blk V X #[.int .i64 0, .int .i64 0] 25) (b : Below w.heap.size w V) (o1 : w.heap.size + 1 < g) (o2 : g < G7) (o3 : G7 < X) :
    GcP w g N C B A l G7 X u v P Q ((V.setCell ⟨X, 0, none⟩ (.int .i64 P)).setCell ⟨X, 1, none⟩ (.int .i64 Q)) :=
  ⟨(k.set _ (by omega)).set _ (by omega), (r.other _ _ (by show _ ≠ X; omega)).other _ _ (by show _ ≠ X; omega), (q.other _ _ (by show _ ≠ X; omega)).other _ _ (by show _ ≠ X; omega), (s.other _ _ (by show _ ≠ X; omega)).other _ _ (by show _ ≠ X; omega), (x.set 0 (.int .i64 P)).set 1 (.int .i64 Q), below_setG (below_setG b _ (by omega)) _ (by omega), o1, o2, o3⟩
theorem GcP.step (h : GcP w g N C B A l G7 G10 u v P Q V) (k : SrcG V' g N C B A l) (hq : Only g (g + 1) V V') : GcP w g N C B A l G7 G10 u v P Q V' := by
  have h1 := h.o1
  have h2 := h.o2
  have h3 := h.o3
  have h4 := h.b.size
  exact ⟨k, h.r.moveG hq (by omega), h.q.moveG hq (by omega), h.s.moveG hq (by omega), h.t.moveG hq (by omega), h.b.trans (hq.below (by omega) (by omega)), h1, h2, h3⟩
theorem GcP.alloc (h : GcP w g N C B A l G7 G10 u v P Q V) (o : Obj) : GcP w g N C B A l G7 G10 u v P Q (V.alloc o) :=
  ⟨h.k.alloc _, h.r.alloc _, h.q.alloc _, h.s.alloc _, h.t.alloc _, h.b.alloc h.b.size _, h.o1, h.o2, h.o3⟩
theorem GcP.less (h : GcP w g N C B A l G7 G10 u v P Q V) (P' : Int) : GcP w g N C B A l G7 G10 u v P' Q (V.setCell ⟨G10, 0, none⟩ (.int .i64 P')) := by
  have h1 := h.o1
  have h2 := h.o2
  have h3 := h.o3
  exact ⟨h.k.set _ (by omega), h.r.other _ _ (by show _ ≠ G10; omega), h.q.other _ _ (by show _ ≠ G10; omega), h.s.other _ _ (by show _ ≠ G10; omega), h.t.set 0 (.int .i64 P'), below_setG h.b _ (by omega), h1, h2, h3⟩
/-- A piece goes into the first result's box. -/
theorem GcP.res (h : GcP w g N C B A l G7 G10 u v P Q V) (a b : Int) : Blk ((V.setCell ⟨w.heap.size, 0, none⟩ (.int .i64 a)).setCell ⟨w.heap.size, 1, none⟩ (.int .i64 b)) w.heap.size #[.int .i64 a, .int .i64 b] 25 ∧ Blk ((V.setCell ⟨w.heap.size, 0, none⟩ (.int .i64 a)).setCell ⟨w.heap.size, 1, none⟩ (.int .i64 b)) (w.heap.size + 1) #[.int .i64 0, .int .i64 0] 25 ∧
    Blk ((V.setCell ⟨w.heap.size, 0, none⟩ (.int .i64 a)).setCell ⟨w.heap.size, 1, none⟩ (.int .i64 b)) G7 #[.int .i64 u, .int .i64 v] 25 ∧ Blk ((V.setCell ⟨w.heap.size, 0, none⟩ (.int .i64 a)).setCell ⟨w.heap.size, 1, none⟩ (.int .i64 b)) G10 #[.int .i64 P, .int .i64 Q] 25 ∧ Below w.heap.size w ((V.setCell ⟨w.heap.size, 0, none⟩ (.int .i64 a)).setCell ⟨w.heap.size, 1, none⟩ (.int .i64 b)) := by
  have h1 := h.o1
  have h2 := h.o2
  have h3 := h.o3
  exact ⟨(h.r.set 0 (.int .i64 a)).set 1 (.int .i64 b), (h.q.other _ _ (by show _ ≠ w.heap.size; omega)).other _ _ (by show _ ≠ w.heap.size; omega), (h.s.other _ _ (by show _ ≠ w.heap.size; omega)).other _ _ (by show _ ≠ w.heap.size; omega), (h.t.other _ _ (by show _ ≠ w.heap.size; omega)).other _ _ (by show _ ≠ w.heap.size; omega), below_setG (below_setG h.b _ (Nat.le_refl _)) _ (Nat.le_refl _)⟩
end

set_option maxRecDepth 100000 in
set_option maxHeartbeats 16000000 in
theorem drawGc_any (N C B : Nat) (A : Option Addr) (l : List Int) (w : World) (hc : Rd U w B A N l) (hl : inByte l) (hB : B ≤ w.heap.size) (hN : N ≤ 1048576) :
    Calls Tryz.prog 5 #[.slice A N C] w fun e' w' => DrGc w e' w' := by
  go_enter Tryz.func5, Tryz.ntmps5
  go_wp2_with fail
  generalize hW : (w.alloc (.cells #[.int .i64 0, .int .i64 0] 25)).alloc (.cells #[.int .i64 0, .int .i64 0] 25) = w0
  have hb0 : Below w.heap.size w w0 := by rw [← hW]; exact (below_newG w _).alloc (by simp) _
  have z0 : w0.heap.size = w.heap.size + 2 := by rw [← hW]; simp
  have r0 : Blk w0 w.heap.size #[.int .i64 0, .int .i64 0] 25 := by rw [← hW]; exact (Blk.new _ _ rfl).alloc _
  have q0 : Blk w0 (w.heap.size + 1) #[.int .i64 0, .int .i64 0] 25 := by rw [← hW]; exact Blk.new _ _ (by simp)
  have hc0 := hc.below hb0 hB
  clear hW hc
  refine (l01From_ex N C B A l _ hc0 hl (by omega)).mono ?_
  rintro e' w1 ⟨g, rfl, hg, hs1, hb1⟩
  have z1 := hb1.size
  have hk1 : SrcG w1 g N C B A l := ⟨hs1, hc0.below hb1 (by omega), by omega⟩
  have r1 := r0.below hb1 r0.lt
  have q1 := q0.below hb1 q0.lt
  have hB1 := hb0.trans (hb1.mono (by omega))
  have hwg : w.heap.size + 1 < g := by omega
  have hne0 : w.heap.size ≠ g := by omega
  have hne1 : w.heap.size + 1 ≠ g := by omega
  clear hs1 hb1 hc0 hb0 r0 q0
  go_wp2_with fail
  refine (nextG_ex g N C B A l 20 _ hk1 hl hN (by decide) (by decide)).mono ?_
  rintro e' w2 ⟨u, rfl, ⟨u0, u1⟩, hk2, hq2⟩
  have z2 := hq2.size
  have hB2 := hB1.trans (hq2.below (B := w.heap.size) (by omega) (by omega))
  have r2 := Blk.moveG r1 hq2 (by omega)
  have q2 := Blk.moveG q1 hq2 (by omega)
  clear hk1 hq2 r1 q1
  have yu : IntKind.i64.wrap (1 + u) = 1 + u := IntWalk.i64_in _ (by omega)
  go_wp2_with fail
  refine (nextG_ex g N C B A l 20 _ hk2 hl hN (by decide) (by decide)).mono ?_
  rintro e' w3 ⟨v, rfl, ⟨v0, v1⟩, hk3, hq3⟩
  have z3 := hq3.size
  have hB3 := hB2.trans (hq3.below (B := w.heap.size) (by omega) (by omega))
  have r3 := Blk.moveG r2 hq3 (by omega)
  have q3 := Blk.moveG q2 hq3 (by omega)
  clear hk2 hq3 r2 q2
  have yv : IntKind.i64.wrap (1 + v) = 1 + v := IntWalk.i64_in _ (by omega)
  go_wp2_with fail
  generalize hW : w3.alloc (.cells #[.int .i64 (1 + u), .int .i64 (1 + v)] 25) = w4
  have hb4 : Below w3.heap.size w3 w4 := by rw [← hW]; exact below_newG _ _
  have z4 : w4.heap.size = w3.heap.size + 1 := by rw [← hW]; simp
  have hk4 : SrcG w4 g N C B A l := by rw [← hW]; exact hk3.alloc _
  have s4 : Blk w4 w3.heap.size #[.int .i64 (1 + u), .int .i64 (1 + v)] 25 := by rw [← hW]; exact Blk.new _ _ rfl
  have r4 := r3.below hb4 r3.lt
  have q4 := q3.below hb4 q3.lt
  have hB4 := hB3.trans (hb4.mono (by omega))
  have hl3 := hk3.lt
  obtain ⟨G7, hG7⟩ : ∃ x, w3.heap.size = x := ⟨_, rfl⟩
  rw [hG7] at s4 hl3 z4 ⊢
  have hne2 : G7 ≠ g := by omega
  clear hW hb4 hk3 r3 q3
  refine (nextG_ex g N C B A l 5 _ hk4 hl hN (by decide) (by decide)).mono ?_
  rintro e' w5 ⟨a, rfl, ⟨a0, a1⟩, hk5, hq5⟩
  have z5 := hq5.size
  have hB5 := hB4.trans (hq5.below (B := w.heap.size) (by omega) (by omega))
  have r5 := Blk.moveG r4 hq5 (by omega)
  have q5 := Blk.moveG q4 hq5 (by omega)
  have s5 := Blk.moveG s4 hq5 (by omega)
  clear hk4 hq5 r4 q4 s4
  have ya : IntKind.i64.wrap (1 + a) = 1 + a := IntWalk.i64_in _ (by omega)
  go_wp2_with fail
  refine (nextG_ex g N C B A l 5 _ hk5 hl hN (by decide) (by decide)).mono ?_
  rintro e' w6 ⟨c, rfl, ⟨c0, c1⟩, hk6, hq6⟩
  have z6 := hq6.size
  have hB6 := hB5.trans (hq6.below (B := w.heap.size) (by omega) (by omega))
  have r6 := Blk.moveG r5 hq6 (by omega)
  have q6 := Blk.moveG q5 hq6 (by omega)
  have s6 := Blk.moveG s5 hq6 (by omega)
  clear hk5 hq6 r5 q5 s5
  have yc : IntKind.i64.wrap (1 + c) = 1 + c := IntWalk.i64_in _ (by omega)
  have hkd := hk6.drew
  have hSa : TwoG w6.drew G7 (.int .i64 (1 + u)) (.int .i64 (1 + v)) := s6.drewG.twoG
  obtain ⟨c0_, c1_⟩ := s6.twoG
  have hwk : g < w6.heap.size := hk6.lt
  have m6 := s6.lt
  go_wp2_with fail
  rename_i K hK0
  have hP : ∀ (m1 m2 P Q x0 x1 x2 x3 : Int) (G10 L1 L2 : Nat) (V : World), GcP w g N C B A l G7 G10 (1 + u) (1 + v) P Q V → K { tmps := #[.slice A N C, undef, .pointer (some ⟨w.heap.size, 0, none⟩), .int .i64 0, .int .i64 0, .pointer (some ⟨w.heap.size + 1, 0, none⟩), .pointer (some ⟨g, 0, none⟩), .pointer (some ⟨G7, 0, none⟩), .int .i64 (1 + a), .int .i64 (1 + c), .pointer (some ⟨G10, 0, none⟩), .slice A N C, .pointer (some ⟨g, 0, none⟩), .pointer (some ⟨g, 0, none⟩), .int .i64 u, .int .i64 (1 + u), .pointer (some ⟨g, 0, none⟩), .int .i64 v, .int .i64 (1 + v), .agg #[.int .i64 (1 + u), .int .i64 (1 + v)], .pointer (some ⟨g, 0, none⟩), .int .i64 a, .int .i64 (1 + a), .pointer (some ⟨g, 0, none⟩), .int .i64 c, .int .i64 (1 + c), .int .i64 (1 + a), .pointer (some ⟨G7, 0, none⟩), .int .i64 (1 + u), .int .i64 m1, .pointer (some ⟨g, 0, none⟩), .pointer (some ⟨g, 0, none⟩), .int .i64 x0, .slice (some ⟨L1, 0, none⟩) 3 3, .int .i64 x1, .int .i64 P, .int .i64 (1 + c), .pointer (some ⟨G7, 1, none⟩), .int .i64 (1 + v), .int .i64 m2, .pointer (some ⟨g, 0, none⟩), .pointer (some ⟨g, 0, none⟩), .int .i64 x2, .slice (some ⟨L2, 0, none⟩) 3 3, .int .i64 x3, .int .i64 Q, .agg #[.int .i64 P, .int .i64 Q], undef, undef, undef, undef, undef, undef, undef, undef, undef, undef, undef, undef, undef, undef, undef, undef, undef, undef, undef, undef, undef, undef, undef, undef, undef, undef, undef], defers := [] } V := by
    as_aux_lemma =>
      intro m1 m2 P Q x0 x1 x2 x3 G10 L1 L2 V hM
      apply hK0
      clear hK0 c0_ c1_ hSa hkd s6 r6 q6 hk6
      go_wp2_with fail
      refine (nextG_ex g N C B A l 24 _ hM.k hl hN (by decide) (by decide)).mono ?_
      rintro e' V1 ⟨m, rfl, ⟨m0, m1_⟩, hk1, hq1⟩
      have hM1 := hM.step hk1 hq1
      clear hM hk1 hq1
      by_cases n0 : m = 0
      · subst n0
        obtain ⟨P2, hP2⟩ : ∃ x, IntKind.i64.wrap (P - 1) = x := ⟨_, rfl⟩
        have hM2 := hM1.less P2
        have y0_ := hM1.t.cell 0 (v := .int .i64 P) rfl
        have y1_ := hM1.t.free 0
        clear hM1
        go_wp2_with fail
        generalize V1.setCell ⟨G10, 0, none⟩ (.int .i64 P2) = V2 at *; clear hP2 y0_ y1_
        have HR := hM2.res (P2) (Q)
        obtain ⟨R1, R2, R3, R4, R5⟩ := HR
        have t0 := hM2.t.cell 0 (v := .int .i64 (P2)) rfl
        have t1 := hM2.t.cell 1 (v := .int .i64 (Q)) rfl
        have s0 := hM2.s.cell 0 (v := .int .i64 (1 + u)) rfl
        have s1 := hM2.s.cell 1 (v := .int .i64 (1 + v)) rfl
        have r0_ := hM2.r.cell 0 (v := .int .i64 0) rfl
        have r1_ := hM2.r.cell 1 (v := .int .i64 0) rfl
        have r2_ := hM2.r.free 0
        have r3_ := hM2.r.free 1
        have s2 := R3.cell 0 (v := .int .i64 (1 + u)) rfl
        have s3 := R3.cell 1 (v := .int .i64 (1 + v)) rfl
        have q0_ := R2.cell 0 (v := .int .i64 0) rfl
        have q1_ := R2.cell 1 (v := .int .i64 0) rfl
        have q2_ := R2.free 0
        have q3_ := R2.free 1
        have S1 := Lib.hid ((R1.other ⟨w.heap.size + 1, 0, none⟩ (.int .i64 (1 + u)) (by show w.heap.size ≠ w.heap.size + 1; omega)).other ⟨w.heap.size + 1, 1, none⟩ (.int .i64 (1 + v)) (by show w.heap.size ≠ w.heap.size + 1; omega))
        have S2 := Lib.hid ((R2.set 0 (.int .i64 (1 + u))).set 1 (.int .i64 (1 + v)))
        have HE := Lib.hid (below_setG (below_setG R5 (k := w.heap.size + 1) (i := 0) (.int .i64 (1 + u)) (by omega)) (k := w.heap.size + 1) (i := 1) (.int .i64 (1 + v)) (by omega))
        have HA : Hid (0 ≤ 1 + a ∧ 1 + a ≤ 1000) := Lib.hid (by omega)
        have HC : Hid (0 ≤ 1 + c ∧ 1 + c ≤ 1000) := Lib.hid (by omega)
        clear R1 R2 R3 R4 R5
        go_region
        all_goals
          go_wp2_with fail
          have d0 := S1.out.cell 0 (v := .int .i64 (P2)) rfl
          have d1 := S1.out.cell 1 (v := .int .i64 (Q)) rfl
          have d2 := S2.out.cell 0 (v := .int .i64 (1 + u)) rfl
          have d3 := S2.out.cell 1 (v := .int .i64 (1 + v)) rfl
          exact bodyPost_ret (by simp [results, Tryz.results5, go_sem, d0, d1, d2, d3]) rfl (DrGc.mk_ (p0 := P2) (p1 := Q) (q0 := 1 + u) (q1 := 1 + v) HA.out HC.out (below_drewN' HE.out 1))
      have n0' : (m == 0) = false := by simpa using n0
      by_cases n1 : m = 1
      · subst n1
        go_wp2_with fail
        refine (pickG_ex g N C B V1.heap.size 3 A l [0, 80, 81] #[.int .i64 0, .int .i64 80, .int .i64 81] _ (hM1.k.alloc _) hl hN (Blk.new _ _ rfl) rfl rfl (by decide) (by decide) (by have := hM1.k.lt; omega)).mono ?_
        rintro e' V2 ⟨y, rfl, hy, hk_, hq_⟩
        have hM2 := (hM1.alloc (.cells #[.int .i64 0, .int .i64 80, .int .i64 81] 2)).step hk_ hq_
        have hy_ : 0 ≤ y ∧ y ≤ 1000 := by simp at hy; omega
        clear hM1 hk_ hq_ hy
        go_wp2_with fail
        have HR := hM2.res (P) (Q)
        obtain ⟨R1, R2, R3, R4, R5⟩ := HR
        have t0 := hM2.t.cell 0 (v := .int .i64 (P)) rfl
        have t1 := hM2.t.cell 1 (v := .int .i64 (Q)) rfl
        have s0 := hM2.s.cell 0 (v := .int .i64 (1 + u)) rfl
        have s1 := hM2.s.cell 1 (v := .int .i64 (1 + v)) rfl
        have r0_ := hM2.r.cell 0 (v := .int .i64 0) rfl
        have r1_ := hM2.r.cell 1 (v := .int .i64 0) rfl
        have r2_ := hM2.r.free 0
        have r3_ := hM2.r.free 1
        have s2 := R3.cell 0 (v := .int .i64 (1 + u)) rfl
        have s3 := R3.cell 1 (v := .int .i64 (1 + v)) rfl
        have q0_ := R2.cell 0 (v := .int .i64 0) rfl
        have q1_ := R2.cell 1 (v := .int .i64 0) rfl
        have q2_ := R2.free 0
        have q3_ := R2.free 1
        have S1 := Lib.hid ((R1.other ⟨w.heap.size + 1, 0, none⟩ (.int .i64 (1 + u)) (by show w.heap.size ≠ w.heap.size + 1; omega)).other ⟨w.heap.size + 1, 1, none⟩ (.int .i64 (1 + v)) (by show w.heap.size ≠ w.heap.size + 1; omega))
        have S2 := Lib.hid ((R2.set 0 (.int .i64 (1 + u))).set 1 (.int .i64 (1 + v)))
        have HE := Lib.hid (below_setG (below_setG R5 (k := w.heap.size + 1) (i := 0) (.int .i64 (1 + u)) (by omega)) (k := w.heap.size + 1) (i := 1) (.int .i64 (1 + v)) (by omega))
        have HA : Hid (0 ≤ y ∧ y ≤ 1000) := Lib.hid (by omega)
        have HC : Hid (0 ≤ 1 + c ∧ 1 + c ≤ 1000) := Lib.hid (by omega)
        clear R1 R2 R3 R4 R5
        go_region
        all_goals
          go_wp2_with fail
          have d0 := S1.out.cell 0 (v := .int .i64 (P)) rfl
          have d1 := S1.out.cell 1 (v := .int .i64 (Q)) rfl
          have d2 := S2.out.cell 0 (v := .int .i64 (1 + u)) rfl
          have d3 := S2.out.cell 1 (v := .int .i64 (1 + v)) rfl
          exact bodyPost_ret (by simp [results, Tryz.results5, go_sem, d0, d1, d2, d3]) rfl (DrGc.mk_ (p0 := P) (p1 := Q) (q0 := 1 + u) (q1 := 1 + v) HA.out HC.out (below_drewN' HE.out 1))
      have n1' : (m == 1) = false := by simpa using n1
      by_cases n2 : m = 2
      · subst n2
        go_wp2_with fail
        refine (pickG_ex g N C B V1.heap.size 3 A l [8, 9, 16] #[.int .i64 8, .int .i64 9, .int .i64 16] _ (hM1.k.alloc _) hl hN (Blk.new _ _ rfl) rfl rfl (by decide) (by decide) (by have := hM1.k.lt; omega)).mono ?_
        rintro e' V2 ⟨y, rfl, hy, hk_, hq_⟩
        have hM2 := (hM1.alloc (.cells #[.int .i64 8, .int .i64 9, .int .i64 16] 2)).step hk_ hq_
        have hy_ : 0 ≤ y ∧ y ≤ 1000 := by simp at hy; omega
        clear hM1 hk_ hq_ hy
        go_wp2_with fail
        refine (pickG_ex g N C B V2.heap.size 3 A l [9, 10, 5] #[.int .i64 9, .int .i64 10, .int .i64 5] _ (hM2.k.alloc _) hl hN (Blk.new _ _ rfl) rfl rfl (by decide) (by decide) (by have := hM2.k.lt; omega)).mono ?_
        rintro e' V3 ⟨z, rfl, hz, hk_, hq_⟩
        have hM3 := (hM2.alloc (.cells #[.int .i64 9, .int .i64 10, .int .i64 5] 2)).step hk_ hq_
        have hz_ : 0 ≤ z ∧ z ≤ 1000 := by simp at hz; omega
        clear hM2 hk_ hq_ hz
        obtain ⟨R1, R2, R3, R4, R5⟩ := hM3.res 100 100
        have r0_ := hM3.r.cell 0 (v := .int .i64 0) rfl
        have r1_ := hM3.r.cell 1 (v := .int .i64 0) rfl
        have r2_ := hM3.r.free 0
        have r3_ := hM3.r.free 1
        have q0_ := R2.cell 0 (v := .int .i64 0) rfl
        have q1_ := R2.cell 1 (v := .int .i64 0) rfl
        have q2_ := R2.free 0
        have q3_ := R2.free 1
        have S1 := Lib.hid ((R1.other ⟨w.heap.size + 1, 0, none⟩ (.int .i64 1) (by show w.heap.size ≠ w.heap.size + 1; omega)).other ⟨w.heap.size + 1, 1, none⟩ (.int .i64 1) (by show w.heap.size ≠ w.heap.size + 1; omega))
        have S2 := Lib.hid ((R2.set 0 (.int .i64 1)).set 1 (.int .i64 1))
        have HE := Lib.hid (below_setG (below_setG R5 (k := w.heap.size + 1) (i := 0) (.int .i64 1) (by omega)) (k := w.heap.size + 1) (i := 1) (.int .i64 1) (by omega))
        clear R1 R2 R3 R4 R5 hM3
        have HY := Lib.hid hy_
        have HZ := Lib.hid hz_
        clear hy_ hz_
        go_wp2_with fail
        have d0 := S1.out.cell 0 (v := .int .i64 100) rfl
        have d1 := S1.out.cell 1 (v := .int .i64 100) rfl
        have d2 := S2.out.cell 0 (v := .int .i64 1) rfl
        have d3 := S2.out.cell 1 (v := .int .i64 1) rfl
        exact bodyPost_ret (by simp [results, Tryz.results5, go_sem, d0, d1, d2, d3]) rfl (DrGc.mk_ (p0 := 100) (p1 := 100) (q0 := 1) (q1 := 1) HY.out HZ.out HE.out)
      have n2' : (m == 2) = false := by simpa using n2
      go_wp2_with fail
      have HR := hM1.res (P) (Q)
      obtain ⟨R1, R2, R3, R4, R5⟩ := HR
      have t0 := hM1.t.cell 0 (v := .int .i64 (P)) rfl
      have t1 := hM1.t.cell 1 (v := .int .i64 (Q)) rfl
      have s0 := hM1.s.cell 0 (v := .int .i64 (1 + u)) rfl
      have s1 := hM1.s.cell 1 (v := .int .i64 (1 + v)) rfl
      have r0_ := hM1.r.cell 0 (v := .int .i64 0) rfl
      have r1_ := hM1.r.cell 1 (v := .int .i64 0) rfl
      have r2_ := hM1.r.free 0
      have r3_ := hM1.r.free 1
      have s2 := R3.cell 0 (v := .int .i64 (1 + u)) rfl
      have s3 := R3.cell 1 (v := .int .i64 (1 + v)) rfl
      have q0_ := R2.cell 0 (v := .int .i64 0) rfl
      have q1_ := R2.cell 1 (v := .int .i64 0) rfl
      have q2_ := R2.free 0
      have q3_ := R2.free 1
      have S1 := Lib.hid ((R1.other ⟨w.heap.size + 1, 0, none⟩ (.int .i64 (1 + u)) (by show w.heap.size ≠ w.heap.size + 1; omega)).other ⟨w.heap.size + 1, 1, none⟩ (.int .i64 (1 + v)) (by show w.heap.size ≠ w.heap.size + 1; omega))
      have S2 := Lib.hid ((R2.set 0 (.int .i64 (1 + u))).set 1 (.int .i64 (1 + v)))
      have HE := Lib.hid (below_setG (below_setG R5 (k := w.heap.size + 1) (i := 0) (.int .i64 (1 + u)) (by omega)) (k := w.heap.size + 1) (i := 1) (.int .i64 (1 + v)) (by omega))
      have HA : Hid (0 ≤ 1 + a ∧ 1 + a ≤ 1000) := Lib.hid (by omega)
      have HC : Hid (0 ≤ 1 + c ∧ 1 + c ≤ 1000) := Lib.hid (by omega)
      clear R1 R2 R3 R4 R5
      go_region
      all_goals
        go_wp2_with fail
        have d0 := S1.out.cell 0 (v := .int .i64 (P)) rfl
        have d1 := S1.out.cell 1 (v := .int .i64 (Q)) rfl
        have d2 := S2.out.cell 0 (v := .int .i64 (1 + u)) rfl
        have d3 := S2.out.cell 1 (v := .int .i64 (1 + v)) rfl
        exact bodyPost_ret (by simp [results, Tryz.results5, go_sem, d0, d1, d2, d3]) rfl (DrGc.mk_ (p0 := P) (p1 := Q) (q0 := 1 + u) (q1 := 1 + v) HA.out HC.out (below_drewN' HE.out 1))
  go_region_held3 (fun V => V.cell? ⟨G7, 0, none⟩ = some (.int .i64 (1 + u)) ∧ V.cell? ⟨G7, 1, none⟩ = some (.int .i64 (1 + v)))
    (first | with_reducible exact hSa | with_reducible exact hS7 | with_reducible exact hS8 | with_reducible exact hS9 | with_reducible exact hS10 | (with_reducible refine keepPutG ?_ hS10 <;> omega) | (with_reducible refine Blk.twoG (t := 25) ?_; repeat' (first | with_reducible assumption | with_reducible refine Blk.drewG ?_ | with_reducible refine Blk.alloc ?_ _)) | go_keep)
    (first
      | (have cq10 := hq9; clear cq10; go_at_call 19; with_reducible refine (pickG_ex g N C B _ 3 A l [0, 0, x2] #[.int .i64 0, .int .i64 0, .int .i64 x2] _ ?_ hl hN ?_ rfl rfl (by decide) (by decide) ?_).mono ?_; (focus ((repeat' (first | with_reducible assumption | with_reducible refine SrcG.alloc ?_ _ | with_reducible refine SrcG.drew ?_)); done)); (focus ((repeat' (first | with_reducible assumption | omega | (with_reducible refine Blk.new _ _ ?_ <;> (simp; done)) | with_reducible refine Blk.alloc ?_ _ | with_reducible refine Blk.drewG ?_ | with_reducible refine mv9 _ _ _ ?_ ?_ | with_reducible refine mv8 _ _ _ ?_ ?_ | with_reducible refine mv7 _ _ _ ?_ ?_)); done)); (focus (omega; done)); rintro e' w10 ⟨x3, rfl, hx3, hk10, hq10⟩; clear hx3; have mv10 := fun (q_ : Nat) (cs_ : Array Value) (t_ : TypeId) (h1_ : q_ ≠ g) (h2_ : Blk _ q_ cs_ t_) => Blk.moveG h2_ hq10 h1_; have r10 := mv10 (w.heap.size) #[.int .i64 0, .int .i64 0] 25 hne0 (by repeat' (first | with_reducible assumption | with_reducible refine Blk.drewG ?_ | with_reducible refine Blk.alloc ?_ _)); have q10 := mv10 (w.heap.size + 1) #[.int .i64 0, .int .i64 0] 25 hne1 (by repeat' (first | with_reducible assumption | with_reducible refine Blk.drewG ?_ | with_reducible refine Blk.alloc ?_ _)); have s10 := mv10 (G7) #[.int .i64 (1 + u), .int .i64 (1 + v)] 25 hne2 (by repeat' (first | with_reducible assumption | with_reducible refine Blk.drewG ?_ | with_reducible refine Blk.alloc ?_ _)); have hl10 := hk10.lt; have m10 := s10.lt; have hS10 : TwoG w10 G7 (.int .i64 (1 + u)) (.int .i64 (1 + v)) := s10.twoG; (try (first | (have bX10 : Blk w10 w6.heap.size #[.int .i64 0, .int .i64 0] 25 := mv10 _ _ _ (by omega) (by (focus ((repeat' (first | with_reducible assumption | (with_reducible refine Blk.new _ _ ?_ <;> (simp; done)) | with_reducible refine Blk.drewG ?_ | with_reducible refine Blk.alloc ?_ _)); (first | done | fail))))) | (have bX10 : Blk w10 w7.heap.size #[.int .i64 0, .int .i64 0] 25 := mv10 _ _ _ (by omega) (by (focus ((repeat' (first | with_reducible assumption | (with_reducible refine Blk.new _ _ ?_ <;> (simp; done)) | with_reducible refine Blk.drewG ?_ | with_reducible refine Blk.alloc ?_ _)); (first | done | fail))))) | (have bX10 : Blk w10 (w7.heap.size + 1) #[.int .i64 0, .int .i64 0] 25 := mv10 _ _ _ (by omega) (by (focus ((repeat' (first | with_reducible assumption | (with_reducible refine Blk.new _ _ ?_ <;> (simp; done)) | with_reducible refine Blk.drewG ?_ | with_reducible refine Blk.alloc ?_ _)); (first | done | fail))))) | (have bX10 : Blk w10 w8.heap.size #[.int .i64 0, .int .i64 0] 25 := mv10 _ _ _ (by omega) (by (focus ((repeat' (first | with_reducible assumption | (with_reducible refine Blk.new _ _ ?_ <;> (simp; done)) | with_reducible refine Blk.drewG ?_ | with_reducible refine Blk.alloc ?_ _)); (first | done | fail))))) | (have bX10 : Blk w10 w9.heap.size #[.int .i64 0, .int .i64 0] 25 := mv10 _ _ _ (by omega) (by (focus ((repeat' (first | with_reducible assumption | (with_reducible refine Blk.new _ _ ?_ <;> (simp; done)) | with_reducible refine Blk.drewG ?_ | with_reducible refine Blk.alloc ?_ _)); (first | done | fail))))) | (have bX10 : Blk w10 (w9.heap.size + 1) #[.int .i64 0, .int .i64 0] 25 := mv10 _ _ _ (by omega) (by (focus ((repeat' (first | with_reducible assumption | (with_reducible refine Blk.new _ _ ?_ <;> (simp; done)) | with_reducible refine Blk.drewG ?_ | with_reducible refine Blk.alloc ?_ _)); (first | done | fail))))))); (try (have j0_ := bX10.cell 0 (v := .int .i64 0) rfl; have j1_ := bX10.cell 1 (v := .int .i64 0) rfl; have j2_ := bX10.free 0; have j3_ := bX10.free 1; have j4_ := bX10.lt)))
      | (have cq9 := hq8; clear cq9; go_at_call 18; with_reducible refine (nextG_ex g N C B A l 10 _ ?_ hl hN (by decide) (by decide)).mono ?_; (focus ((repeat' (first | with_reducible assumption | with_reducible refine SrcG.alloc ?_ _ | with_reducible refine SrcG.drew ?_)); done)); rintro e' w9 ⟨x2, rfl, ⟨x2_0, x2_1⟩, hk9, hq9⟩; have mv9 := fun (q_ : Nat) (cs_ : Array Value) (t_ : TypeId) (h1_ : q_ ≠ g) (h2_ : Blk _ q_ cs_ t_) => Blk.moveG h2_ hq9 h1_; have r9 := mv9 (w.heap.size) #[.int .i64 0, .int .i64 0] 25 hne0 (by repeat' (first | with_reducible assumption | with_reducible refine Blk.drewG ?_ | with_reducible refine Blk.alloc ?_ _)); have q9 := mv9 (w.heap.size + 1) #[.int .i64 0, .int .i64 0] 25 hne1 (by repeat' (first | with_reducible assumption | with_reducible refine Blk.drewG ?_ | with_reducible refine Blk.alloc ?_ _)); have s9 := mv9 (G7) #[.int .i64 (1 + u), .int .i64 (1 + v)] 25 hne2 (by repeat' (first | with_reducible assumption | with_reducible refine Blk.drewG ?_ | with_reducible refine Blk.alloc ?_ _)); have hl9 := hk9.lt; have m9 := s9.lt; have hS9 : TwoG w9 G7 (.int .i64 (1 + u)) (.int .i64 (1 + v)) := s9.twoG; (try (first | (have bX9 : Blk w9 w6.heap.size #[.int .i64 0, .int .i64 0] 25 := mv9 _ _ _ (by omega) (by (focus ((repeat' (first | with_reducible assumption | (with_reducible refine Blk.new _ _ ?_ <;> (simp; done)) | with_reducible refine Blk.drewG ?_ | with_reducible refine Blk.alloc ?_ _)); (first | done | fail))))) | (have bX9 : Blk w9 w7.heap.size #[.int .i64 0, .int .i64 0] 25 := mv9 _ _ _ (by omega) (by (focus ((repeat' (first | with_reducible assumption | (with_reducible refine Blk.new _ _ ?_ <;> (simp; done)) | with_reducible refine Blk.drewG ?_ | with_reducible refine Blk.alloc ?_ _)); (first | done | fail))))) | (have bX9 : Blk w9 (w7.heap.size + 1) #[.int .i64 0, .int .i64 0] 25 := mv9 _ _ _ (by omega) (by (focus ((repeat' (first | with_reducible assumption | (with_reducible refine Blk.new _ _ ?_ <;> (simp; done)) | with_reducible refine Blk.drewG ?_ | with_reducible refine Blk.alloc ?_ _)); (first | done | fail))))) | (have bX9 : Blk w9 w8.heap.size #[.int .i64 0, .int .i64 0] 25 := mv9 _ _ _ (by omega) (by (focus ((repeat' (first | with_reducible assumption | (with_reducible refine Blk.new _ _ ?_ <;> (simp; done)) | with_reducible refine Blk.drewG ?_ | with_reducible refine Blk.alloc ?_ _)); (first | done | fail))))))))
      | (have cq8 := hq7; clear cq8; go_at_call 19; with_reducible refine (pickG_ex g N C B _ 3 A l [0, 0, x0] #[.int .i64 0, .int .i64 0, .int .i64 x0] _ ?_ hl hN ?_ rfl rfl (by decide) (by decide) ?_).mono ?_; (focus ((repeat' (first | with_reducible assumption | with_reducible refine SrcG.alloc ?_ _ | with_reducible refine SrcG.drew ?_)); done)); (focus ((repeat' (first | with_reducible assumption | omega | (with_reducible refine Blk.new _ _ ?_ <;> (simp; done)) | with_reducible refine Blk.alloc ?_ _ | with_reducible refine Blk.drewG ?_ | with_reducible refine mv7 _ _ _ ?_ ?_)); done)); (focus (omega; done)); rintro e' w8 ⟨x1, rfl, hx1, hk8, hq8⟩; clear hx1; have mv8 := fun (q_ : Nat) (cs_ : Array Value) (t_ : TypeId) (h1_ : q_ ≠ g) (h2_ : Blk _ q_ cs_ t_) => Blk.moveG h2_ hq8 h1_; have r8 := mv8 (w.heap.size) #[.int .i64 0, .int .i64 0] 25 hne0 (by repeat' (first | with_reducible assumption | with_reducible refine Blk.drewG ?_ | with_reducible refine Blk.alloc ?_ _)); have q8 := mv8 (w.heap.size + 1) #[.int .i64 0, .int .i64 0] 25 hne1 (by repeat' (first | with_reducible assumption | with_reducible refine Blk.drewG ?_ | with_reducible refine Blk.alloc ?_ _)); have s8 := mv8 (G7) #[.int .i64 (1 + u), .int .i64 (1 + v)] 25 hne2 (by repeat' (first | with_reducible assumption | with_reducible refine Blk.drewG ?_ | with_reducible refine Blk.alloc ?_ _)); have hl8 := hk8.lt; have m8 := s8.lt; have hS8 : TwoG w8 G7 (.int .i64 (1 + u)) (.int .i64 (1 + v)) := s8.twoG; (try (first | (have bX8 : Blk w8 w6.heap.size #[.int .i64 0, .int .i64 0] 25 := mv8 _ _ _ (by omega) (by (focus ((repeat' (first | with_reducible assumption | (with_reducible refine Blk.new _ _ ?_ <;> (simp; done)) | with_reducible refine Blk.drewG ?_ | with_reducible refine Blk.alloc ?_ _)); (first | done | fail))))) | (have bX8 : Blk w8 w7.heap.size #[.int .i64 0, .int .i64 0] 25 := mv8 _ _ _ (by omega) (by (focus ((repeat' (first | with_reducible assumption | (with_reducible refine Blk.new _ _ ?_ <;> (simp; done)) | with_reducible refine Blk.drewG ?_ | with_reducible refine Blk.alloc ?_ _)); (first | done | fail))))) | (have bX8 : Blk w8 (w7.heap.size + 1) #[.int .i64 0, .int .i64 0] 25 := mv8 _ _ _ (by omega) (by (focus ((repeat' (first | with_reducible assumption | (with_reducible refine Blk.new _ _ ?_ <;> (simp; done)) | with_reducible refine Blk.drewG ?_ | with_reducible refine Blk.alloc ?_ _)); (first | done | fail))))))))
      | (go_at_call 18; with_reducible refine (nextG_ex g N C B A l 10 _ ?_ hl hN (by decide) (by decide)).mono ?_; (focus ((repeat' (first | with_reducible assumption | with_reducible refine SrcG.alloc ?_ _ | with_reducible refine SrcG.drew ?_)); done)); rintro e' w7 ⟨x0, rfl, ⟨x0_0, x0_1⟩, hk7, hq7⟩; have mv7 := fun (q_ : Nat) (cs_ : Array Value) (t_ : TypeId) (h1_ : q_ ≠ g) (h2_ : Blk _ q_ cs_ t_) => Blk.moveG h2_ hq7 h1_; have r7 := mv7 (w.heap.size) #[.int .i64 0, .int .i64 0] 25 hne0 (by repeat' (first | with_reducible assumption | with_reducible refine Blk.drewG ?_ | with_reducible refine Blk.alloc ?_ _)); have q7 := mv7 (w.heap.size + 1) #[.int .i64 0, .int .i64 0] 25 hne1 (by repeat' (first | with_reducible assumption | with_reducible refine Blk.drewG ?_ | with_reducible refine Blk.alloc ?_ _)); have s7 := mv7 (G7) #[.int .i64 (1 + u), .int .i64 (1 + v)] 25 hne2 (by repeat' (first | with_reducible assumption | with_reducible refine Blk.drewG ?_ | with_reducible refine Blk.alloc ?_ _)); have hl7 := hk7.lt; have m7 := s7.lt; have hS7 : TwoG w7 G7 (.int .i64 (1 + u)) (.int .i64 (1 + v)) := s7.twoG; (try (first | (have bX7 : Blk w7 w6.heap.size #[.int .i64 0, .int .i64 0] 25 := mv7 _ _ _ (by omega) (by (focus ((repeat' (first | with_reducible assumption | (with_reducible refine Blk.new _ _ ?_ <;> (simp; done)) | with_reducible refine Blk.drewG ?_ | with_reducible refine Blk.alloc ?_ _)); (first | done | fail)))))))))
  all_goals
    have hqq : Below w.heap.size w w10 := hB6.trans (Only.below (lo := g) (hi := g + 1) (by repeat' (first | with_reducible exact Only.refl _ _ _ | with_reducible refine Only.trans ?_ hq10 | with_reducible refine Only.trans ?_ hq9 | with_reducible refine Only.trans ?_ hq8 | with_reducible refine Only.trans ?_ hq7 | with_reducible refine Only.then_alloc ?_ _ | with_reducible refine Only.drew ?_)) (by omega) (by omega))
    first
      | exact hP _ _ _ _ _ _ _ _ _ _ _ _ (GcP.fresh hk10 r10 q10 s10 hqq hwg (by omega))
      | exact hP _ _ _ _ _ _ _ _ _ _ _ _ (GcP.put hk10 r10 q10 s10 bX10 hqq hwg (by omega) (by omega))
end Go.Proofs.YtbhofhobnbhhhaaGreatDoor
