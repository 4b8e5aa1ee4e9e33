/- Further words on rows of pieces. -/
import Derived.Test.YtbhofhobnbhhhaaGreatDoorGuAf
namespace Go.Proofs.YtbhofhobnbhhhaaGreatDoor
open Go.RowKit
set_option linter.unusedVariables false

theorem step_spreadPcN (w : World) {ops : Array Oper} {o : Oper} {a : Act} {K : Act → World → Prop} {Qx : Exit → Act → World → Prop} {E : Prop} (hgd : o.guard = none) (s x : Operand) (ts : TypeId)
    (ho : o.op = .call { callee := .builtin .append, args := #[s, x], argTypes := #[ts, ts] }) (ht : Tryz.prog.underlying ts = some (.slice 25))
    (A : Option Addr) (n c : Nat) (l : List Pc) (lo hi' : Nat) (hs : a.eval s = .slice A n c) (hown : OwnS Pc.S w lo hi' (.slice A n c) l) (A2 : Option Addr) (m c2 B : Nat) (l2 : List Pc) (hx : a.eval x = .slice A2 m c2) (hr : RdS Pc.S w B A2 m l2)
    (N : Nat) (L : List Pc) (hN : n + m = N) (hL : l ++ l2 = L) (hn : n + m ≤ 1099511627776) (hbase : lo ≤ w.heap.size)
    (h : ∀ A' c' w', OwnS Pc.S w' lo w'.heap.size (.slice A' N c') L → Only lo hi' w w' → K (a.put o.dst (.slice A' N c')) w') :
    if Region.wanted o (yielded ops a.tmps) = true then Oper.wp Tryz.prog o a w K Qx else E := by
  subst hN hL
  exact step_spreadPc w hgd s x ts ho ht A n c l lo hi' hs hown A2 m c2 B l2 hx hr hn hbase h
theorem below_drew9 {B : Nat} {w W : World} (h : Below B w W) : Below B w W.drew := below_drewN' h 1
/-- The world at hand is w: looked at without unfolding. -/
theorem atW {c : Prop} [Decidable c] {P : Program} {o : Oper} {a : Act} {K : Act → World → Prop} {Qx : Exit → Act → World → Prop} {E : Prop} (w : World) (h : if c then Oper.wp P o a w K Qx else E) : if c then Oper.wp P o a w K Qx else E := h
/-- Two pieces that lie in a block, as a list that is read. -/
theorem RdS.blk2 {w : World} {g : Nat} {f s : Pc} (h : Blk w g #[.int .i64 f.w, .int .i64 f.h, .int .i64 s.w, .int .i64 s.h] 25) : RdS Pc.S w (g + 1) (some ⟨g, 0, none⟩) 2 [f, s] := by
  refine ⟨rfl, fun _ => ⟨g, 0, rfl, by omega, fun j x hx i u hu => ?_⟩⟩
  have hj : j < 2 := (List.getElem?_eq_some_iff.1 hx).1
  have hi : i < 2 := by have := (List.getElem?_eq_some_iff.1 hu).1; rwa [Pc.S.len] at this
  rw [Nat.zero_add]
  match j, i, hj, hi with
  | 0, 0, _, _ => simp at hx; subst hx; exact h.cell 0 hu
  | 0, 1, _, _ => simp at hx; subst hx; exact h.cell 1 hu
  | 1, 0, _, _ => simp at hx; subst hx; exact h.cell 2 hu
  | 1, 1, _, _ => simp at hx; subst hx; exact h.cell 3 hu
/-- Ahead of the model's last statement: the boxes of the cut, of the piece and of its two parts. -/
structure LcM (w : World) (i : Int) (a : Bool) (t : Int) (x : Pc) (G1 G2 : Nat) (f s : Pc) (W : World) : Prop where
  c : Blk W w.heap.size #[.int .i64 i, .bool a, .int .i64 t] 50
  p : Blk W (w.heap.size + 1) #[.int .i64 x.w, .int .i64 x.h] 25
  e1 : Blk W G1 #[.int .i64 f.w, .int .i64 f.h] 25
  e2 : Blk W G2 #[.int .i64 s.w, .int .i64 s.h] 25
  g1 : w.heap.size + 2 ≤ G1
  g2 : w.heap.size + 2 ≤ G2
  ne : G1 ≠ G2
  b : Below w.heap.size w W
abbrev LcS (w : World) (k : Int) (a : Bool) (t : Int) (x : Pc) (V : World) : Prop :=
  V.cell? ⟨w.heap.size, 0, none⟩ = some (.int .i64 k) ∧ V.cell? ⟨w.heap.size, 1, none⟩ = some (.bool a) ∧ V.cell? ⟨w.heap.size, 2, none⟩ = some (.int .i64 t) ∧ V.cell? ⟨w.heap.size + 1, 0, none⟩ = some (.int .i64 x.w) ∧ V.cell? ⟨w.heap.size + 1, 1, none⟩ = some (.int .i64 x.h)
section
variable {w V V' : World} {k t : Int} {a : Bool} {x : Pc}
theorem LcS.alloc (h : LcS w k a t x V) (h2 : w.heap.size + 1 < V.heap.size) (o : Obj) : LcS w k a t x (V.alloc o) :=
  ⟨(World.cell?_alloc_lt V o _ (show w.heap.size < _ by omega)).trans h.1, (World.cell?_alloc_lt V o _ (show w.heap.size < _ by omega)).trans h.2.1, (World.cell?_alloc_lt V o _ (show w.heap.size < _ by omega)).trans h.2.2.1, (World.cell?_alloc_lt V o _ h2).trans h.2.2.2.1, (World.cell?_alloc_lt V o _ h2).trans h.2.2.2.2⟩
theorem LcS.drew (h : LcS w k a t x V) : LcS w k a t x V.drew := h
theorem LcS.set (h : LcS w k a t x V) (g i : Nat) (v : Value) (h1 : w.heap.size ≠ g) (h2 : w.heap.size + 1 ≠ g) : LcS w k a t x (V.setCell ⟨g, i, none⟩ v) :=
  ⟨(cell_other9 h1).trans h.1, (cell_other9 h1).trans h.2.1, (cell_other9 h1).trans h.2.2.1, (cell_other9 h2).trans h.2.2.2.1, (cell_other9 h2).trans h.2.2.2.2⟩
end
end Go.Proofs.YtbhofhobnbhhhaaGreatDoor
