/- A source and its code in one word, its draws, and what they leave as it was: free of any chapter. -/
import Derived.Test.YtnfnmdeiaihgnaaSrc
import Derived.Test.YtnfnmdeiaihgnaaSgDo
import Derived.Test.YtnfnmdeiaihgnaaIn
namespace Go.Proofs.Ytnfnmdeiaihgnaa
open Go.RowKit
set_option linter.unusedVariables false

theorem below_newS (w : World) (o : Obj) : Below w.heap.size w (w.alloc o) := (Below.refl _ _).alloc (Nat.le_refl _) o
/-- A source and its code, in one word. -/
structure SrcG (w : World) (g N C B : Nat) (A : Option Addr) (l : List Int) : Prop where
  s : Src w g A N C
  c : Rd U w B A N l
  b : B ≤ g
theorem SrcG.alloc {w : World} {g N C B : Nat} {A : Option Addr} {l : List Int} (h : SrcG w g N C B A l) (o : Obj) : SrcG (w.alloc o) g N C B A l := ⟨h.s.below (below_newS w o) h.s.lt, h.c.below (below_newS w o) (Nat.le_trans h.b (Nat.le_of_lt h.s.lt)), h.b⟩
theorem SrcG.drew {w : World} {g N C B : Nat} {A : Option Addr} {l : List Int} (h : SrcG w g N C B A l) : SrcG w.drew g N C B A l := ⟨h.s.q (Q.drewN w 1), h.c.drewN 1, h.b⟩
theorem SrcG.lt {w : World} {g N C B : Nat} {A : Option Addr} {l : List Int} (h : SrcG w g N C B A l) : g < w.heap.size := h.s.lt
theorem nextG_ex (g N C B : Nat) (A : Option Addr) (l : List Int) (n : Int) (w : World) (h : SrcG w g N C B A l) (hl : inByte l) (hN : N ≤ 1048576) (h1 : 1 ≤ n) (h2 : n ≤ 100000) :
    Calls Try.prog 60 #[.pointer (some ⟨g, 0, none⟩), .int .i64 n] w fun e' w' => ∃ v, e' = .returned (.int .i64 v) ∧ (0 ≤ v ∧ v < n) ∧ SrcG w' g N C B A l ∧ Only g (g + 1) w w' := by
  refine (l01Next_any g N C B A l n w h.s h.c hl h.b hN (by omega)).mono ?_
  rintro e' w' ⟨v, rfl, v0, v1, _, hs, ho⟩
  exact ⟨v, rfl, ⟨v0, v1 h1⟩, ⟨hs, h.c.only ho (by have := h.b; omega) (by have := h.b; have := h.s.lt; omega), h.b⟩, ho⟩
theorem pickG_ex (g N C B q n : Nat) (A : Option Addr) (l l' : List Int) (cs : Array Value) (w : World) (h : SrcG w g N C B A l) (hl : inByte l) (hN : N ≤ 1048576) (hb : Blk w q cs 2) (hcs : cs = (l'.map I).toArray) (hn : n = l'.length) (h1 : 1 ≤ n) (h2 : n ≤ 100) (hq : q ≠ g) :
    Calls Try.prog 97 #[.pointer (some ⟨g, 0, none⟩), .slice (some ⟨q, 0, none⟩) n n] w fun e' w' => ∃ x, e' = .returned (.int .i64 x) ∧ x ∈ l' ∧ SrcG w' g N C B A l ∧ Only g (g + 1) w w' := by
  subst hcs hn
  have hrd : ∀ V, Blk V q (l'.map I).toArray 2 → Rd I V (q + 1) (some ⟨q, 0, none⟩) l'.length l' := fun V hV => ⟨rfl, fun _ => ⟨q, 0, rfl, Nat.lt_succ_self _, fun j x hx => by
    rw [Nat.zero_add]
    exact hV.cell j (by simp [hx])⟩⟩
  refine (l01Pick_any g N C B (q + 1) l'.length l'.length A _ l l' w h.s h.c hl h.b hN (hrd w hb) h1 (by omega) (fun _ w' ho => hrd w' (hb.only ho (by omega)))).mono ?_
  rintro e' w' ⟨x, rfl, hx, hs, ho⟩
  exact ⟨x, rfl, hx, ⟨hs, h.c.only ho (by have := h.b; omega) (by have := h.b; have := h.s.lt; omega), h.b⟩, ho⟩
theorem Blk.moveG {V V' : World} {g q : Nat} {cs : Array Value} {t : TypeId} (h : Blk V q cs t) (ho : Only g (g + 1) V V') (hq : q ≠ g) : Blk V' q cs t := h.only ho (by omega)
theorem Blk.drewG {w : World} {k : Nat} {cs : Array Value} {t : TypeId} (h : Blk w k cs t) : Blk w.drew k cs t := h
abbrev TwoG (V : World) (q : Nat) (v0 v1 : Value) : Prop := V.cell? ⟨q, 0, none⟩ = some v0 ∧ V.cell? ⟨q, 1, none⟩ = some v1
theorem Blk.twoG {V : World} {q : Nat} {v0 v1 : Value} {ty : TypeId} (h : Blk V q #[v0, v1] ty) : TwoG V q v0 v1 := ⟨h.cell 0 rfl, h.cell 1 rfl⟩
theorem keepPutG {V : World} {q k : Nat} {v0 v1 a b : Value} (hne : q ≠ k) (h : TwoG V q v0 v1) : TwoG ((V.setCell ⟨k, 0, none⟩ a).setCell ⟨k, 1, none⟩ b) q v0 v1 :=
  ⟨(World.cell?_of_block ((heap_setCell_other _ ⟨k, 1, none⟩ q b hne).trans (heap_setCell_other V ⟨k, 0, none⟩ q a hne))).trans h.1, (World.cell?_of_block ((heap_setCell_other _ ⟨k, 1, none⟩ q b hne).trans (heap_setCell_other V ⟨k, 0, none⟩ q a hne))).trans h.2⟩
theorem below_setS {w w' : World} {B k i : Nat} (h : Below B w w') (u : Value) (hk : B ≤ k) : Below B w (w'.setCell ⟨k, i, none⟩ u) :=
  ⟨h.os, h.tape, h.output, by simpa using h.size, fun j hj => (heap_setCell_other w' ⟨k, i, none⟩ j u (fun e => by have e' : j = k := e; omega)).trans (h.block j hj)⟩
theorem SrcG.setS {V : World} {g N C B X i : Nat} {A : Option Addr} {l : List Int} (h : SrcG V g N C B A l) (a : Value) (hX : g < X) : SrcG (V.setCell ⟨X, i, none⟩ a) g N C B A l := by
  have h1 := h.b
  have h2 := h.lt
  obtain ⟨u, s, h3, h4⟩ := h.s
  exact ⟨⟨u, s, (heap_setCell_other V ⟨X, i, none⟩ g a (by show g ≠ X; omega)).trans h3, h4⟩, h.c.keep fun p hp => World.cell?_of_block (heap_setCell_other V ⟨X, i, none⟩ p.block a (by show p.block ≠ X; omega)), h1⟩
theorem SrcG.below {V V' : World} {g N C B : Nat} {A : Option Addr} {l : List Int} (h : SrcG V g N C B A l) (hb : Below V.heap.size V V') : SrcG V' g N C B A l := ⟨h.s.below hb h.s.lt, h.c.below hb (Nat.le_trans h.b (Nat.le_of_lt h.s.lt)), h.b⟩
theorem SrcG.only {V V' : World} {g N C B lo hi : Nat} {A : Option Addr} {l : List Int} (h : SrcG V g N C B A l) (ho : Only lo hi V V') (hg : g < lo) : SrcG V' g N C B A l := ⟨h.s.only ho (.inl hg), h.c.only ho (by have := h.b; omega) (by have := h.b; have := h.s.lt; omega), h.b⟩
end Go.Proofs.Ytnfnmdeiaihgnaa
