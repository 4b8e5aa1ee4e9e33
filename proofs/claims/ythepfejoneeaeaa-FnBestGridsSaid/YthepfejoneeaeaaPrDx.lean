/- Contracts of the draws of the laws on grids: whatever numbers, and what lay below is as it was. -/
import Derived.Test.YthepfejoneeaeaaPrDp
namespace Go.Proofs.Ythepfejoneeaeaa
open Go.RowKit

/-- A source and its code, in one word. -/
structure SrcC (w : World) (g N C B : Nat) (A : Option Addr) (l : List Int) : Prop where
  s : Src w g A N C
  c : Rd U w B A N l
  b : B ≤ g
theorem SrcC.alloc {w : World} {g N C B : Nat} {A : Option Addr} {l : List Int} (h : SrcC w g N C B A l) (o : Obj) : SrcC (w.alloc o) g N C B A l := ⟨h.s.below (below_new w o) h.s.lt, h.c.below (below_new w o) (Nat.le_trans h.b (Nat.le_of_lt h.s.lt)), h.b⟩
theorem SrcC.drew {w : World} {g N C B : Nat} {A : Option Addr} {l : List Int} (h : SrcC w g N C B A l) : SrcC w.drew g N C B A l := ⟨h.s.q (Q.drewN w 1), h.c.drewN 1, h.b⟩
theorem SrcC.lt {w : World} {g N C B : Nat} {A : Option Addr} {l : List Int} (h : SrcC w g N C B A l) : g < w.heap.size := h.s.lt
theorem next_ex (g N C B : Nat) (A : Option Addr) (l : List Int) (n : Int) (w : World) (h : SrcC w g N C B A l) (hl : inByte l) (hN : N ≤ 1048576) (h1 : 1 ≤ n) (h2 : n ≤ 100000) :
    Calls Try.prog 43 #[.pointer (some ⟨g, 0, none⟩), .int .i64 n] w fun e' w' => ∃ v, e' = .returned (.int .i64 v) ∧ (0 ≤ v ∧ v < n) ∧ SrcC w' g N C B A l ∧ Only g (g + 1) w w' := by
  refine (l01Next_any g N C B A l n w h.s h.c hl h.b hN (by omega)).mono ?_
  rintro e' w' ⟨v, rfl, v0, v1, _, hs, ho⟩
  exact ⟨v, rfl, ⟨v0, v1 h1⟩, ⟨hs, h.c.only ho (by have := h.b; omega) (by have := h.b; have := h.s.lt; omega), h.b⟩, ho⟩
theorem pick_ex (g N C B q n : Nat) (A : Option Addr) (l l' : List Int) (cs : Array Value) (w : World) (h : SrcC w g N C B A l) (hl : inByte l) (hN : N ≤ 1048576) (hb : Blk w q cs 2) (hcs : cs = (l'.map I).toArray) (hn : n = l'.length) (h1 : 1 ≤ n) (h2 : n ≤ 100) (hq : q ≠ g) :
    Calls Try.prog 53 #[.pointer (some ⟨g, 0, none⟩), .slice (some ⟨q, 0, none⟩) n n] w fun e' w' => ∃ x, e' = .returned (.int .i64 x) ∧ SrcC w' g N C B A l ∧ Only g (g + 1) w w' := by
  subst hcs hn
  have hrd : ∀ V, Blk V q (l'.map I).toArray 2 → Rd I V (q + 1) (some ⟨q, 0, none⟩) l'.length l' := fun V hV => ⟨rfl, fun _ => ⟨q, 0, rfl, Nat.lt_succ_self _, fun j x hx => by
    rw [Nat.zero_add]
    exact hV.cell j (by simp [hx])⟩⟩
  refine (l01Pick_any g N C B (q + 1) l'.length l'.length A _ l l' w h.s h.c hl h.b hN (hrd w hb) h1 (by omega) (fun _ w' ho => hrd w' (hb.only ho (by omega)))).mono ?_
  rintro e' w' ⟨x, rfl, _, hs, ho⟩
  exact ⟨x, rfl, ⟨hs, h.c.only ho (by have := h.b; omega) (by have := h.b; have := h.s.lt; omega), h.b⟩, ho⟩
theorem Blk.move {V V' : World} {g q : Nat} {cs : Array Value} {t : TypeId} (h : Blk V q cs t) (ho : Only g (g + 1) V V') (hq : q ≠ g) : Blk V' q cs t := h.only ho (by omega)
abbrev EightV (V : World) (p t : Nat) (v0 v1 v2 v3 u0 u1 u2 u3 : Value) : Prop := V.cell? ⟨p, 0, none⟩ = some v0 ∧ V.cell? ⟨p, 1, none⟩ = some v1 ∧ V.cell? ⟨p, 2, none⟩ = some v2 ∧ V.cell? ⟨p, 3, none⟩ = some v3 ∧ V.cell? ⟨t, 0, none⟩ = some u0 ∧ V.cell? ⟨t, 1, none⟩ = some u1 ∧ V.cell? ⟨t, 2, none⟩ = some u2 ∧ V.cell? ⟨t, 3, none⟩ = some u3
theorem Blk.eight {V : World} {p t : Nat} {v0 v1 v2 v3 u0 u1 u2 u3 : Value} {ty ty' : TypeId} (h : Blk V p #[v0, v1, v2, v3] ty) (k : Blk V t #[u0, u1, u2, u3] ty') : EightV V p t v0 v1 v2 v3 u0 u1 u2 u3 :=
  ⟨h.cell 0 rfl, h.cell 1 rfl, h.cell 2 rfl, h.cell 3 rfl, k.cell 0 rfl, k.cell 1 rfl, k.cell 2 rfl, k.cell 3 rfl⟩
theorem eq_dec {v : Int} {rb : Bool} (h : (v == 0) = rb) : decide (v = 0) = rb := h
def DPT (w : World) (e' : Ending) (w' : World) : Prop := ∃ a b q r c d e f, e' = .returned (.tuple #[PV a b q r, TV c d e f]) ∧ Below w.heap.size w w'
theorem DPT.mk_ {w w' : World} {a b q : Int} {r : Bool} {c d e f : Int} (h : Below w.heap.size w w') : DPT w (.returned (.tuple #[PV a b q r, TV c d e f])) w' := ⟨a, b, q, r, c, d, e, f, rfl, h⟩
def DPTij (w : World) (e' : Ending) (w' : World) : Prop := ∃ a b q r c d e f i j, e' = .returned (.tuple #[PV a b q r, TV c d e f, .int .i64 i, .int .i64 j]) ∧ Below w.heap.size w w'
theorem DPTij.mk_ {w w' : World} {a b q : Int} {r : Bool} {c d e f i j : Int} (h : Below w.heap.size w w') : DPTij w (.returned (.tuple #[PV a b q r, TV c d e f, .int .i64 i, .int .i64 j])) w' := ⟨a, b, q, r, c, d, e, f, i, j, rfl, h⟩
def DPTo (w : World) (e' : Ending) (w' : World) : Prop := ∃ a b q r c d e f o, e' = .returned (.tuple #[PV a b q r, TV c d e f, .bool o]) ∧ Below w.heap.size w w'
theorem DPTo.mk_ {w w' : World} {a b q : Int} {r : Bool} {c d e f : Int} {o : Bool} (h : Below w.heap.size w w') : DPTo w (.returned (.tuple #[PV a b q r, TV c d e f, .bool o])) w' := ⟨a, b, q, r, c, d, e, f, o, rfl, h⟩
def DT3 (w : World) (e' : Ending) (w' : World) : Prop := ∃ c d e f n m t, e' = .returned (.tuple #[TV c d e f, .int .i64 n, .int .i64 m, .int .i64 t]) ∧ Below w.heap.size w w'
theorem DT3.mk_ {w w' : World} {c d e f n m t : Int} (h : Below w.heap.size w w') : DT3 w (.returned (.tuple #[TV c d e f, .int .i64 n, .int .i64 m, .int .i64 t])) w' := ⟨c, d, e, f, n, m, t, rfl, h⟩

set_option maxRecDepth 100000 in
set_option maxHeartbeats 8000000 in
theorem DrawGd_any (N C B : Nat) (A : Option Addr) (l : List Int) (w : World) (hc : Rd U w B A N l) (hl : inByte l) (hB : B ≤ w.heap.size) (hN : N ≤ 1048576) :
    Calls Try.prog 14 #[.slice A N C] w fun e' w' => DPT w e' w' := by
  go_enter Try.func14, Try.ntmps14
  go_wp2_with fail
  generalize hW : (w.alloc (.cells #[.int .i64 0, .int .i64 0, .int .i64 0, .bool false] 25)).alloc (.cells #[.int .i64 0, .int .i64 0, .int .i64 0, .int .i64 0] 27) = w0
  have hb0 : Below w.heap.size w w0 := by rw [← hW]; exact ((below_new w (.cells #[.int .i64 0, .int .i64 0, .int .i64 0, .bool false] 25)).alloc (by simp <;> omega) (.cells #[.int .i64 0, .int .i64 0, .int .i64 0, .int .i64 0] 27))
  have z0 : w0.heap.size = w.heap.size + 2 := by rw [← hW]; simp
  have b0_0 : Blk w0 (w.heap.size) #[.int .i64 0, .int .i64 0, .int .i64 0, .bool false] 25 := by rw [← hW]; exact ((Blk.new (w := w) (g := w.heap.size) #[.int .i64 0, .int .i64 0, .int .i64 0, .bool false] 25 (by simp)).alloc (.cells #[.int .i64 0, .int .i64 0, .int .i64 0, .int .i64 0] 27))
  have b0_1 : Blk w0 (w.heap.size + 1) #[.int .i64 0, .int .i64 0, .int .i64 0, .int .i64 0] 27 := by rw [← hW]; exact (Blk.new (w := (w.alloc (.cells #[.int .i64 0, .int .i64 0, .int .i64 0, .bool false] 25))) (g := w.heap.size + 1) #[.int .i64 0, .int .i64 0, .int .i64 0, .int .i64 0] 27 (by simp))
  have hc0 := hc.below hb0 hB
  clear hW
  refine (l01From_ex N C B A l _ hc0 hl (by omega)).mono ?_
  rintro e' w1 ⟨g, rfl, hg, hs1, hb1⟩
  have z1 := hb1.size
  have hc1 := hc0.below hb1 (by omega)
  have hBg : B ≤ g := by omega
  have b1_0 := b0_0.below hb1 b0_0.lt
  have b1_1 := b0_1.below hb1 b0_1.lt
  clear hc0 b0_0 b0_1
  have hB1 := hb0.trans (hb1.mono (by omega))
  clear hb0 hb1
  go_wp2_with fail
  refine (draw8_any g N C B A l _ hs1 hc1 hl hBg hN).mono ?_
  rintro e' w2 ⟨a, b, q, r, c, d, e, f, rfl, hs2, hq2⟩
  have z2 := hq2.size
  have hl2 := hs2.lt
  have b2_0 := b1_0.only hq2 (.inl (by omega))
  have b2_1 := b1_1.only hq2 (.inl (by omega))
  have hc2 := hc1.only hq2 (by omega) (by omega)
  have hB2 := hB1.trans (hq2.below (B := w.heap.size) (by omega) (by omega))
  have hk2 : SrcC w2 g N C B A l := ⟨hs2, hc2, hBg⟩
  clear hs1 hc1 hs2 hc2 hB1 hq2 b1_0 b1_1
  have Qk := b2_1.keep4 (show w.heap.size + 1 ≠ w.heap.size by omega) (.int .i64 a) (.int .i64 b) (.int .i64 q) (.bool r)
  obtain ⟨x0, x1, x2, x3⟩ := b2_0.four
  have p0 := b2_0.free 0
  have p1 := b2_0.free 1
  have p2 := b2_0.free 2
  have p3 := b2_0.free 3
  obtain ⟨q0, q1, q2, q3⟩ := Qk.four
  have r0 := Qk.free 0
  have r1 := Qk.free 1
  have r2 := Qk.free 2
  have r3 := Qk.free 3
  have S4 := Lib.hid ((b2_0.put4 (.int .i64 a) (.int .i64 b) (.int .i64 q) (.bool r)).keep4 (show w.heap.size ≠ w.heap.size + 1 by omega) (.int .i64 c) (.int .i64 d) (.int .i64 e) (.int .i64 f))
  have S5 := Lib.hid (Qk.put4 (.int .i64 c) (.int .i64 d) (.int .i64 e) (.int .i64 f))
  go_wp2_with fail
  obtain ⟨d0, d1, d2, d3⟩ := S4.out.four
  obtain ⟨g0, g1, g2, g3⟩ := S5.out.four
  exact bodyPost_ret (v := .tuple #[PV a b q r, TV c d e f]) (by simp [results, Try.results14, go_sem, d0, d1, d2, d3, g0, g1, g2, g3]) rfl (DPT.mk_ (below_put4 (below_put4 hB2 (Nat.le_refl _) _ _ _ _) (by omega) _ _ _ _))

set_option maxRecDepth 100000 in
set_option maxHeartbeats 8000000 in
theorem DrawCr8_any (N C B : Nat) (A : Option Addr) (l : List Int) (w : World) (hc : Rd U w B A N l) (hl : inByte l) (hB : B ≤ w.heap.size) (hN : N ≤ 1048576) :
    Calls Try.prog 17 #[.slice A N C] w fun e' w' => DPTij w e' w' := by
  go_enter Try.func17, Try.ntmps17
  go_wp2_with fail
  generalize hW : (w.alloc (.cells #[.int .i64 0, .int .i64 0, .int .i64 0, .bool false] 25)).alloc (.cells #[.int .i64 0, .int .i64 0, .int .i64 0, .int .i64 0] 27) = w0
  have hb0 : Below w.heap.size w w0 := by rw [← hW]; exact ((below_new w (.cells #[.int .i64 0, .int .i64 0, .int .i64 0, .bool false] 25)).alloc (by simp <;> omega) (.cells #[.int .i64 0, .int .i64 0, .int .i64 0, .int .i64 0] 27))
  have z0 : w0.heap.size = w.heap.size + 2 := by rw [← hW]; simp
  have b0_0 : Blk w0 (w.heap.size) #[.int .i64 0, .int .i64 0, .int .i64 0, .bool false] 25 := by rw [← hW]; exact ((Blk.new (w := w) (g := w.heap.size) #[.int .i64 0, .int .i64 0, .int .i64 0, .bool false] 25 (by simp)).alloc (.cells #[.int .i64 0, .int .i64 0, .int .i64 0, .int .i64 0] 27))
  have b0_1 : Blk w0 (w.heap.size + 1) #[.int .i64 0, .int .i64 0, .int .i64 0, .int .i64 0] 27 := by rw [← hW]; exact (Blk.new (w := (w.alloc (.cells #[.int .i64 0, .int .i64 0, .int .i64 0, .bool false] 25))) (g := w.heap.size + 1) #[.int .i64 0, .int .i64 0, .int .i64 0, .int .i64 0] 27 (by simp))
  have hc0 := hc.below hb0 hB
  clear hW
  refine (l01From_ex N C B A l _ hc0 hl (by omega)).mono ?_
  rintro e' w1 ⟨g, rfl, hg, hs1, hb1⟩
  have z1 := hb1.size
  have hc1 := hc0.below hb1 (by omega)
  have hBg : B ≤ g := by omega
  have b1_0 := b0_0.below hb1 b0_0.lt
  have b1_1 := b0_1.below hb1 b0_1.lt
  clear hc0 b0_0 b0_1
  have hB1 := hb0.trans (hb1.mono (by omega))
  clear hb0 hb1
  go_wp2_with fail
  refine (draw8_any g N C B A l _ hs1 hc1 hl hBg hN).mono ?_
  rintro e' w2 ⟨a, b, q, r, c, d, e, f, rfl, hs2, hq2⟩
  have z2 := hq2.size
  have hl2 := hs2.lt
  have b2_0 := b1_0.only hq2 (.inl (by omega))
  have b2_1 := b1_1.only hq2 (.inl (by omega))
  have hc2 := hc1.only hq2 (by omega) (by omega)
  have hB2 := hB1.trans (hq2.below (B := w.heap.size) (by omega) (by omega))
  have hk2 : SrcC w2 g N C B A l := ⟨hs2, hc2, hBg⟩
  clear hs1 hc1 hs2 hc2 hB1 hq2 b1_0 b1_1
  go_wp2_with fail
  generalize hW : (w2.alloc (.cells #[.int .i64 a, .int .i64 b, .int .i64 q, .bool r] 25)).alloc (.cells #[.int .i64 c, .int .i64 d, .int .i64 e, .int .i64 f] 27) = w3
  have hb3 : Below w2.heap.size w2 w3 := by rw [← hW]; exact ((below_new w2 (.cells #[.int .i64 a, .int .i64 b, .int .i64 q, .bool r] 25)).alloc (by simp <;> omega) (.cells #[.int .i64 c, .int .i64 d, .int .i64 e, .int .i64 f] 27))
  have z3 : w3.heap.size = w2.heap.size + 2 := by rw [← hW]; simp
  have hk3 : SrcC w3 g N C B A l := by rw [← hW]; exact ((hk2.alloc (.cells #[.int .i64 a, .int .i64 b, .int .i64 q, .bool r] 25)).alloc (.cells #[.int .i64 c, .int .i64 d, .int .i64 e, .int .i64 f] 27))
  have k3_0 : Blk w3 (w2.heap.size) #[.int .i64 a, .int .i64 b, .int .i64 q, .bool r] 25 := by rw [← hW]; exact ((Blk.new (w := w2) (g := w2.heap.size) #[.int .i64 a, .int .i64 b, .int .i64 q, .bool r] 25 (by simp)).alloc (.cells #[.int .i64 c, .int .i64 d, .int .i64 e, .int .i64 f] 27))
  have k3_1 : Blk w3 (w2.heap.size + 1) #[.int .i64 c, .int .i64 d, .int .i64 e, .int .i64 f] 27 := by rw [← hW]; exact (Blk.new (w := (w2.alloc (.cells #[.int .i64 a, .int .i64 b, .int .i64 q, .bool r] 25))) (g := w2.heap.size + 1) #[.int .i64 c, .int .i64 d, .int .i64 e, .int .i64 f] 27 (by simp))
  have b3_0 := b2_0.below hb3 (by omega)
  have b3_1 := b2_1.below hb3 (by omega)
  have hB3 := hB2.trans (hb3.mono (by omega))
  clear hW hb3 hB2 b2_0 b2_1 hk2
  have hk3d := hk3.drew
  have hSa : EightV w3.drew (w2.heap.size) (w2.heap.size + 1) (.int .i64 a) (.int .i64 b) (.int .i64 q) (.bool r) (.int .i64 c) (.int .i64 d) (.int .i64 e) (.int .i64 f) := Blk.eight k3_0.drew_ k3_1.drew_
  obtain ⟨c0_, c1_, c2_, c3_, c4_, c5_, c6_, c7_⟩ := Blk.eight k3_0 k3_1
  have hl3 := hk3.lt
  have hne0 : w2.heap.size ≠ g := by omega
  have hne1 : w2.heap.size + 1 ≠ g := by omega
  have hne2 : w.heap.size ≠ g := by omega
  have hne3 : w.heap.size + 1 ≠ g := by omega
  go_region_held3 (fun V => V.cell? ⟨w2.heap.size, 0, none⟩ = some (.int .i64 a) ∧ V.cell? ⟨w2.heap.size, 1, none⟩ = some (.int .i64 b) ∧ V.cell? ⟨w2.heap.size, 2, none⟩ = some (.int .i64 q) ∧ V.cell? ⟨w2.heap.size, 3, none⟩ = some (.bool r) ∧ V.cell? ⟨w2.heap.size + 1, 0, none⟩ = some (.int .i64 c) ∧ V.cell? ⟨w2.heap.size + 1, 1, none⟩ = some (.int .i64 d) ∧ V.cell? ⟨w2.heap.size + 1, 2, none⟩ = some (.int .i64 e) ∧ V.cell? ⟨w2.heap.size + 1, 3, none⟩ = some (.int .i64 f))
    (first | with_reducible exact hSa | with_reducible exact hS4 | with_reducible exact hS5 | with_reducible exact hS6 | with_reducible exact hSc | with_reducible exact hSd | go_keep)
    (first
      | (go_at_call 43; with_reducible refine (next_ex g N C B A l 5 _ hk5 hl hN (by decide) (by decide)).mono ?_; rintro e' w6 ⟨v6, rfl, ⟨v6_0, v6_1⟩, hk6, hq6⟩; have k6_0 := Blk.move k5_0 hq6 hne0; have k6_1 := Blk.move k5_1 hq6 hne1; have b6_0 := Blk.move b5_0 hq6 hne2; have b6_1 := Blk.move b5_1 hq6 hne3; have hS6 : EightV w6 (w2.heap.size) (w2.heap.size + 1) (.int .i64 a) (.int .i64 b) (.int .i64 q) (.bool r) (.int .i64 c) (.int .i64 d) (.int .i64 e) (.int .i64 f) := Blk.eight k6_0 k6_1; have Qk := b6_1.keep4 (show w.heap.size + 1 ≠ w.heap.size by omega) (.int .i64 a) (.int .i64 b) (.int .i64 q) (.bool r); obtain ⟨x0, x1, x2, x3⟩ := b6_0.four; have p0 := b6_0.free 0; have p1 := b6_0.free 1; have p2 := b6_0.free 2; have p3 := b6_0.free 3; obtain ⟨q0, q1, q2, q3⟩ := Qk.four; have r0 := Qk.free 0; have r1 := Qk.free 1; have r2 := Qk.free 2; have r3 := Qk.free 3; have hSc : EightV (put4w w6 w.heap.size (.int .i64 a) (.int .i64 b) (.int .i64 q) (.bool r)) (w2.heap.size) (w2.heap.size + 1) (.int .i64 a) (.int .i64 b) (.int .i64 q) (.bool r) (.int .i64 c) (.int .i64 d) (.int .i64 e) (.int .i64 f) := Blk.eight (k6_0.keep4 (show w2.heap.size ≠ w.heap.size by omega) _ _ _ _) (k6_1.keep4 (show w2.heap.size + 1 ≠ w.heap.size by omega) _ _ _ _); have hSd : EightV (put4w (put4w w6 w.heap.size (.int .i64 a) (.int .i64 b) (.int .i64 q) (.bool r)) (w.heap.size + 1) (.int .i64 c) (.int .i64 d) (.int .i64 e) (.int .i64 f)) (w2.heap.size) (w2.heap.size + 1) (.int .i64 a) (.int .i64 b) (.int .i64 q) (.bool r) (.int .i64 c) (.int .i64 d) (.int .i64 e) (.int .i64 f) := Blk.eight ((k6_0.keep4 (show w2.heap.size ≠ w.heap.size by omega) _ _ _ _).keep4 (show w2.heap.size ≠ w.heap.size + 1 by omega) _ _ _ _) ((k6_1.keep4 (show w2.heap.size + 1 ≠ w.heap.size by omega) _ _ _ _).keep4 (show w2.heap.size + 1 ≠ w.heap.size + 1 by omega) _ _ _ _))
      | (go_at_call 43; with_reducible refine (next_ex g N C B A l 20 _ hk4 hl hN (by decide) (by decide)).mono ?_; rintro e' w5 ⟨v5, rfl, ⟨v5_0, v5_1⟩, hk5, hq5⟩; have k5_0 := Blk.move k4_0 hq5 hne0; have k5_1 := Blk.move k4_1 hq5 hne1; have b5_0 := Blk.move b4_0 hq5 hne2; have b5_1 := Blk.move b4_1 hq5 hne3; have hS5 : EightV w5 (w2.heap.size) (w2.heap.size + 1) (.int .i64 a) (.int .i64 b) (.int .i64 q) (.bool r) (.int .i64 c) (.int .i64 d) (.int .i64 e) (.int .i64 f) := Blk.eight k5_0 k5_1; have t1_ : v5.tdiv 19 = v5 / 19 := Int.tdiv_eq_ediv_of_nonneg v5_0; have t2_ := Int.ediv_nonneg (a := v5) (b := 19) v5_0 (by decide); have t3_ := Int.ediv_le_self (a := v5) 19 v5_0; have t4_ : IntKind.i64.wrap (v5 / 19) = v5 / 19 := IntWalk.i64_in _ (by omega); have t5_ : IntKind.i64.wrap (v4 - v5 / 19) = v4 - v5 / 19 := IntWalk.i64_in _ (by omega))
      | (go_at_call 43; with_reducible refine (next_ex g N C B A l 6 _ hk3d hl hN (by decide) (by decide)).mono ?_; rintro e' w4 ⟨v4, rfl, ⟨v4_0, v4_1⟩, hk4, hq4⟩; have k4_0 := Blk.move k3_0.drew_ hq4 hne0; have k4_1 := Blk.move k3_1.drew_ hq4 hne1; have b4_0 := Blk.move b3_0.drew_ hq4 hne2; have b4_1 := Blk.move b3_1.drew_ hq4 hne3; have hS4 : EightV w4 (w2.heap.size) (w2.heap.size + 1) (.int .i64 a) (.int .i64 b) (.int .i64 q) (.bool r) (.int .i64 c) (.int .i64 d) (.int .i64 e) (.int .i64 f) := Blk.eight k4_0 k4_1))
  have hqq : Only g (g + 1) w3 w6 := (show Only g (g + 1) w3 w3.drew from (Only.refl _ _ _).drewN 1).trans (hq4.trans (hq5.trans (hq6)))
  have hBB := hB3.trans (hqq.below (B := w.heap.size) (by omega) (by omega))
  have S4 := Lib.hid ((b6_0.put4 (.int .i64 a) (.int .i64 b) (.int .i64 q) (.bool r)).keep4 (show w.heap.size ≠ w.heap.size + 1 by omega) (.int .i64 c) (.int .i64 d) (.int .i64 e) (.int .i64 f))
  have S5 := Lib.hid (Qk.put4 (.int .i64 c) (.int .i64 d) (.int .i64 e) (.int .i64 f))
  go_wp2_with fail
  obtain ⟨d0, d1, d2, d3⟩ := S4.out.four
  obtain ⟨g0, g1, g2, g3⟩ := S5.out.four
  exact bodyPost_ret (v := .tuple #[PV a b q r, TV c d e f, .int .i64 (v4 - v5 / 19), .int .i64 v6]) (by simp [results, Try.results17, go_sem, d0, d1, d2, d3, g0, g1, g2, g3]) rfl (DPTij.mk_ (below_put4 (below_put4 hBB (Nat.le_refl _) _ _ _ _) (by omega) _ _ _ _))

set_option maxRecDepth 100000 in
set_option maxHeartbeats 8000000 in
theorem DrawBg_any (N C B : Nat) (A : Option Addr) (l : List Int) (w : World) (hc : Rd U w B A N l) (hl : inByte l) (hB : B ≤ w.heap.size) (hN : N ≤ 1048576) :
    Calls Try.prog 26 #[.slice A N C] w fun e' w' => DPTo w e' w' := by
  go_enter Try.func26, Try.ntmps26
  go_wp2_with fail
  generalize hW : (w.alloc (.cells #[.int .i64 0, .int .i64 0, .int .i64 0, .bool false] 25)).alloc (.cells #[.int .i64 0, .int .i64 0, .int .i64 0, .int .i64 0] 27) = w0
  have hb0 : Below w.heap.size w w0 := by rw [← hW]; exact ((below_new w (.cells #[.int .i64 0, .int .i64 0, .int .i64 0, .bool false] 25)).alloc (by simp <;> omega) (.cells #[.int .i64 0, .int .i64 0, .int .i64 0, .int .i64 0] 27))
  have z0 : w0.heap.size = w.heap.size + 2 := by rw [← hW]; simp
  have b0_0 : Blk w0 (w.heap.size) #[.int .i64 0, .int .i64 0, .int .i64 0, .bool false] 25 := by rw [← hW]; exact ((Blk.new (w := w) (g := w.heap.size) #[.int .i64 0, .int .i64 0, .int .i64 0, .bool false] 25 (by simp)).alloc (.cells #[.int .i64 0, .int .i64 0, .int .i64 0, .int .i64 0] 27))
  have b0_1 : Blk w0 (w.heap.size + 1) #[.int .i64 0, .int .i64 0, .int .i64 0, .int .i64 0] 27 := by rw [← hW]; exact (Blk.new (w := (w.alloc (.cells #[.int .i64 0, .int .i64 0, .int .i64 0, .bool false] 25))) (g := w.heap.size + 1) #[.int .i64 0, .int .i64 0, .int .i64 0, .int .i64 0] 27 (by simp))
  have hc0 := hc.below hb0 hB
  clear hW
  refine (l01From_ex N C B A l _ hc0 hl (by omega)).mono ?_
  rintro e' w1 ⟨g, rfl, hg, hs1, hb1⟩
  have z1 := hb1.size
  have hc1 := hc0.below hb1 (by omega)
  have hBg : B ≤ g := by omega
  have b1_0 := b0_0.below hb1 b0_0.lt
  have b1_1 := b0_1.below hb1 b0_1.lt
  clear hc0 b0_0 b0_1
  have hB1 := hb0.trans (hb1.mono (by omega))
  clear hb0 hb1
  go_wp2_with fail
  refine (draw8_any g N C B A l _ hs1 hc1 hl hBg hN).mono ?_
  rintro e' w2 ⟨a, b, q, r, c, d, e, f, rfl, hs2, hq2⟩
  have z2 := hq2.size
  have hl2 := hs2.lt
  have b2_0 := b1_0.only hq2 (.inl (by omega))
  have b2_1 := b1_1.only hq2 (.inl (by omega))
  have hc2 := hc1.only hq2 (by omega) (by omega)
  have hB2 := hB1.trans (hq2.below (B := w.heap.size) (by omega) (by omega))
  have hk2 : SrcC w2 g N C B A l := ⟨hs2, hc2, hBg⟩
  clear hs1 hc1 hs2 hc2 hB1 hq2 b1_0 b1_1
  go_wp2_with fail
  generalize hW : (w2.alloc (.cells #[.int .i64 a, .int .i64 b, .int .i64 q, .bool r] 25)).alloc (.cells #[.int .i64 c, .int .i64 d, .int .i64 e, .int .i64 f] 27) = w3
  have hb3 : Below w2.heap.size w2 w3 := by rw [← hW]; exact ((below_new w2 (.cells #[.int .i64 a, .int .i64 b, .int .i64 q, .bool r] 25)).alloc (by simp <;> omega) (.cells #[.int .i64 c, .int .i64 d, .int .i64 e, .int .i64 f] 27))
  have z3 : w3.heap.size = w2.heap.size + 2 := by rw [← hW]; simp
  have hk3 : SrcC w3 g N C B A l := by rw [← hW]; exact ((hk2.alloc (.cells #[.int .i64 a, .int .i64 b, .int .i64 q, .bool r] 25)).alloc (.cells #[.int .i64 c, .int .i64 d, .int .i64 e, .int .i64 f] 27))
  have k3_0 : Blk w3 (w2.heap.size) #[.int .i64 a, .int .i64 b, .int .i64 q, .bool r] 25 := by rw [← hW]; exact ((Blk.new (w := w2) (g := w2.heap.size) #[.int .i64 a, .int .i64 b, .int .i64 q, .bool r] 25 (by simp)).alloc (.cells #[.int .i64 c, .int .i64 d, .int .i64 e, .int .i64 f] 27))
  have k3_1 : Blk w3 (w2.heap.size + 1) #[.int .i64 c, .int .i64 d, .int .i64 e, .int .i64 f] 27 := by rw [← hW]; exact (Blk.new (w := (w2.alloc (.cells #[.int .i64 a, .int .i64 b, .int .i64 q, .bool r] 25))) (g := w2.heap.size + 1) #[.int .i64 c, .int .i64 d, .int .i64 e, .int .i64 f] 27 (by simp))
  have b3_0 := b2_0.below hb3 (by omega)
  have b3_1 := b2_1.below hb3 (by omega)
  have hB3 := hB2.trans (hb3.mono (by omega))
  clear hW hb3 hB2 b2_0 b2_1 hk2
  have hk3d := hk3.drew
  have hSa : EightV w3.drew (w2.heap.size) (w2.heap.size + 1) (.int .i64 a) (.int .i64 b) (.int .i64 q) (.bool r) (.int .i64 c) (.int .i64 d) (.int .i64 e) (.int .i64 f) := Blk.eight k3_0.drew_ k3_1.drew_
  obtain ⟨c0_, c1_, c2_, c3_, c4_, c5_, c6_, c7_⟩ := Blk.eight k3_0 k3_1
  have hl3 := hk3.lt
  have hne0 : w2.heap.size ≠ g := by omega
  have hne1 : w2.heap.size + 1 ≠ g := by omega
  have hne2 : w.heap.size ≠ g := by omega
  have hne3 : w.heap.size + 1 ≠ g := by omega
  go_region_held3 (fun V => V.cell? ⟨w2.heap.size, 0, none⟩ = some (.int .i64 a) ∧ V.cell? ⟨w2.heap.size, 1, none⟩ = some (.int .i64 b) ∧ V.cell? ⟨w2.heap.size, 2, none⟩ = some (.int .i64 q) ∧ V.cell? ⟨w2.heap.size, 3, none⟩ = some (.bool r) ∧ V.cell? ⟨w2.heap.size + 1, 0, none⟩ = some (.int .i64 c) ∧ V.cell? ⟨w2.heap.size + 1, 1, none⟩ = some (.int .i64 d) ∧ V.cell? ⟨w2.heap.size + 1, 2, none⟩ = some (.int .i64 e) ∧ V.cell? ⟨w2.heap.size + 1, 3, none⟩ = some (.int .i64 f))
    (first | with_reducible exact hSa | with_reducible exact hS4 | with_reducible exact hSc | with_reducible exact hSd | go_keep)
    (first
      | (go_at_call 43; with_reducible refine (next_ex g N C B A l 2 _ hk3d hl hN (by decide) (by decide)).mono ?_; rintro e' w4 ⟨v4, rfl, ⟨v4_0, v4_1⟩, hk4, hq4⟩; have k4_0 := Blk.move k3_0.drew_ hq4 hne0; have k4_1 := Blk.move k3_1.drew_ hq4 hne1; have b4_0 := Blk.move b3_0.drew_ hq4 hne2; have b4_1 := Blk.move b3_1.drew_ hq4 hne3; have hS4 : EightV w4 (w2.heap.size) (w2.heap.size + 1) (.int .i64 a) (.int .i64 b) (.int .i64 q) (.bool r) (.int .i64 c) (.int .i64 d) (.int .i64 e) (.int .i64 f) := Blk.eight k4_0 k4_1; obtain ⟨rb, hrb⟩ : ∃ rb : Bool, (v4 == 0) = rb := ⟨_, rfl⟩; have hrb2 := eq_dec hrb; have Qk := b4_1.keep4 (show w.heap.size + 1 ≠ w.heap.size by omega) (.int .i64 a) (.int .i64 b) (.int .i64 q) (.bool r); obtain ⟨x0, x1, x2, x3⟩ := b4_0.four; have p0 := b4_0.free 0; have p1 := b4_0.free 1; have p2 := b4_0.free 2; have p3 := b4_0.free 3; obtain ⟨q0, q1, q2, q3⟩ := Qk.four; have r0 := Qk.free 0; have r1 := Qk.free 1; have r2 := Qk.free 2; have r3 := Qk.free 3; have hSc : EightV (put4w w4 w.heap.size (.int .i64 a) (.int .i64 b) (.int .i64 q) (.bool r)) (w2.heap.size) (w2.heap.size + 1) (.int .i64 a) (.int .i64 b) (.int .i64 q) (.bool r) (.int .i64 c) (.int .i64 d) (.int .i64 e) (.int .i64 f) := Blk.eight (k4_0.keep4 (show w2.heap.size ≠ w.heap.size by omega) _ _ _ _) (k4_1.keep4 (show w2.heap.size + 1 ≠ w.heap.size by omega) _ _ _ _); have hSd : EightV (put4w (put4w w4 w.heap.size (.int .i64 a) (.int .i64 b) (.int .i64 q) (.bool r)) (w.heap.size + 1) (.int .i64 c) (.int .i64 d) (.int .i64 e) (.int .i64 f)) (w2.heap.size) (w2.heap.size + 1) (.int .i64 a) (.int .i64 b) (.int .i64 q) (.bool r) (.int .i64 c) (.int .i64 d) (.int .i64 e) (.int .i64 f) := Blk.eight ((k4_0.keep4 (show w2.heap.size ≠ w.heap.size by omega) _ _ _ _).keep4 (show w2.heap.size ≠ w.heap.size + 1 by omega) _ _ _ _) ((k4_1.keep4 (show w2.heap.size + 1 ≠ w.heap.size by omega) _ _ _ _).keep4 (show w2.heap.size + 1 ≠ w.heap.size + 1 by omega) _ _ _ _)))
  have hqq : Only g (g + 1) w3 w4 := (show Only g (g + 1) w3 w3.drew from (Only.refl _ _ _).drewN 1).trans (hq4)
  have hBB := hB3.trans (hqq.below (B := w.heap.size) (by omega) (by omega))
  have S4 := Lib.hid ((b4_0.put4 (.int .i64 a) (.int .i64 b) (.int .i64 q) (.bool r)).keep4 (show w.heap.size ≠ w.heap.size + 1 by omega) (.int .i64 c) (.int .i64 d) (.int .i64 e) (.int .i64 f))
  have S5 := Lib.hid (Qk.put4 (.int .i64 c) (.int .i64 d) (.int .i64 e) (.int .i64 f))
  go_wp2_with fail
  obtain ⟨d0, d1, d2, d3⟩ := S4.out.four
  obtain ⟨g0, g1, g2, g3⟩ := S5.out.four
  exact bodyPost_ret (v := .tuple #[PV a b q r, TV c d e f, .bool rb]) (by simp [results, Try.results26, go_sem, d0, d1, d2, d3, g0, g1, g2, g3]) rfl (DPTo.mk_ (below_put4 (below_put4 hBB (Nat.le_refl _) _ _ _ _) (by omega) _ _ _ _))
end Go.Proofs.Ythepfejoneeaeaa
