/- Contracts of the helpers of the exact laws at a form: its size, a copy of it, two equal forms, marks in its lists. -/
import Derived.Test.YtfiefjbipjalpaaFmIm
import Derived.Test.YtfiefjbipjalpaaMark
namespace Go.Proofs.Ytfiefjbipjalpaa
open Go.RowKit

/-- The form's lists are the call's own, each in blocks of its own. -/
structure OF (w : World) (lo hi : Nat) (f : Fv) (F G H : List Int) : Prop where
  of_ : ∃ m1 m2, lo ≤ m1 ∧ m1 ≤ m2 ∧ m2 ≤ hi ∧ Own I w lo m1 2 (.slice f.A1 f.n1 f.c1) F ∧ Own I w m1 m2 2 (.slice f.A2 f.n2 f.c2) G ∧ Own I w m2 hi 2 (.slice f.A3 f.n3 f.c3) H
/-- The form's lists are the call's own. -/
structure SF (w : World) (lo hi : Nat) (f : Fv) (F G H : List Int) : Prop where
  o1 : Own I w lo hi 2 (.slice f.A1 f.n1 f.c1) F
  o2 : Own I w lo hi 2 (.slice f.A2 f.n2 f.c2) G
  o3 : Own I w lo hi 2 (.slice f.A3 f.n3 f.c3) H
section
variable {w w' : World} {lo hi lo' hi' B : Nat} {f : Fv} {F G H : List Int}
theorem OF.sf (h : OF w lo hi f F G H) : SF w lo hi f F G H := by
  obtain ⟨⟨m1, m2, h1, h2, h3, o1, o2, o3⟩⟩ := h
  exact ⟨o1.mono (Nat.le_refl _) (by omega), o2.mono h1 h3, o3.mono (by omega) (Nat.le_refl _)⟩
theorem SF.rf (h : SF w lo hi f F G H) : RF w hi f F G H := ⟨h.o1.rd, h.o2.rd, h.o3.rd⟩
theorem OF.rf (h : OF w lo hi f F G H) : RF w hi f F G H := h.sf.rf
theorem SF.mono (h : SF w lo hi f F G H) (h1 : lo' ≤ lo) (h2 : hi ≤ hi') : SF w lo' hi' f F G H := ⟨h.o1.mono h1 h2, h.o2.mono h1 h2, h.o3.mono h1 h2⟩
theorem OF.mono (h : OF w lo hi f F G H) (h1 : lo' ≤ lo) (h2 : hi ≤ hi') : OF w lo' hi' f F G H := by
  obtain ⟨⟨m1, m2, q1, q2, q3, o1, o2, o3⟩⟩ := h
  exact ⟨⟨m1, m2, by omega, q2, by omega, o1.mono h1 (Nat.le_refl _), o2, o3.mono (Nat.le_refl _) h2⟩⟩
theorem SF.below (h : SF w lo hi f F G H) (hb : Below B w w') (hB : hi ≤ B) : SF w' lo hi f F G H := ⟨h.o1.below hb hB, h.o2.below hb hB, h.o3.below hb hB⟩
theorem OF.below (h : OF w lo hi f F G H) (hb : Below B w w') (hB : hi ≤ B) : OF w' lo hi f F G H := by
  obtain ⟨⟨m1, m2, q1, q2, q3, o1, o2, o3⟩⟩ := h
  exact ⟨⟨m1, m2, q1, q2, q3, o1.below hb (by omega), o2.below hb (by omega), o3.below hb hB⟩⟩
theorem SF.q (h : SF w lo hi f F G H) (hq : Q w w') : SF w' lo hi f F G H := ⟨h.o1.q hq, h.o2.q hq, h.o3.q hq⟩
theorem OF.q (h : OF w lo hi f F G H) (hq : Q w w') : OF w' lo hi f F G H := by
  obtain ⟨⟨m1, m2, q1, q2, q3, o1, o2, o3⟩⟩ := h
  exact ⟨⟨m1, m2, q1, q2, q3, o1.q hq, o2.q hq, o3.q hq⟩⟩
theorem OF.drewN (h : OF w lo hi f F G H) (k : Nat) : OF (w.drewN k) lo hi f F G H := h.q (Q.drewN w k)
theorem SF.drewN (h : SF w lo hi f F G H) (k : Nat) : SF (w.drewN k) lo hi f F G H := h.q (Q.drewN w k)
theorem SF.alloc (h : SF w lo hi f F G H) (o : Obj) : SF (w.alloc o) lo hi f F G H := ⟨h.o1.alloc o, h.o2.alloc o, h.o3.alloc o⟩
theorem OF.alloc (h : OF w lo hi f F G H) (o : Obj) : OF (w.alloc o) lo hi f F G H := by
  obtain ⟨⟨m1, m2, q1, q2, q3, o1, o2, o3⟩⟩ := h
  exact ⟨⟨m1, m2, q1, q2, q3, o1.alloc o, o2.alloc o, o3.alloc o⟩⟩
theorem SF.only (h : SF w lo hi f F G H) (ho : Only lo' hi' w w') (hB : hi ≤ lo' ∨ hi' ≤ lo) : SF w' lo hi f F G H := ⟨h.o1.only ho hB, h.o2.only ho hB, h.o3.only ho hB⟩
theorem OF.only (h : OF w lo hi f F G H) (ho : Only lo' hi' w w') (hB : hi ≤ lo' ∨ hi' ≤ lo) : OF w' lo hi f F G H := by
  obtain ⟨⟨m1, m2, q1, q2, q3, o1, o2, o3⟩⟩ := h
  exact ⟨⟨m1, m2, q1, q2, q3, o1.only ho (by omega), o2.only ho (by omega), o3.only ho (by omega)⟩⟩
theorem SF.len (h : SF w lo hi f F G H) : F.length = f.n1 ∧ G.length = f.n2 ∧ H.length = f.n3 := h.rf.len
theorem OF.len (h : OF w lo hi f F G H) : F.length = f.n1 ∧ G.length = f.n2 ∧ H.length = f.n3 := h.rf.len
end
/-- The empty form. -/
abbrev fv0 : Fv := ⟨0, 0, none, 0, 0, none, 0, 0, none, 0, 0⟩
theorem OF.zero (w : World) (lo hi : Nat) (h : lo ≤ hi) : OF w lo hi fv0 [] [] [] := ⟨⟨lo, lo, Nat.le_refl _, Nat.le_refl _, h, Own.nil_, Own.nil_, Own.nil_⟩⟩
theorem SF.zero (w : World) (lo hi : Nat) : SF w lo hi fv0 [] [] [] := ⟨Own.nil_, Own.nil_, Own.nil_⟩
/-- A form and a code are handed back: by the program, by the model. -/
def FC (w : World) (a b : Int) (F G H : List Int) (C : Int) (e : Ending) (w' : World) : Prop :=
  ∃ f : Fv, (f.a = a ∧ f.b = b) ∧ e = .returned (.tuple #[f.v, .int .i64 C]) ∧ OF w' w.heap.size w'.heap.size f F G H ∧ f.le 64 ∧ Below w.heap.size w w'
def SC5 (w : World) (a b : Int) (F G H : List Int) (C : Int) (e : Ending) (w' : World) : Prop :=
  ∃ f : Fv, (f.a = a ∧ f.b = b) ∧ e = .returned (.tuple #[f.v, .int .i64 C]) ∧ SF w' w.heap.size w'.heap.size f F G H ∧ f.le 64 ∧ Below w.heap.size w w'

def szR (n1 n2 n3 : Nat) : Int := if (n1 : Int) + n2 + n3 ≤ 1048576 then 1048576 - n1 - n2 - n3 else -1
/-- A copy of a form, with blocks of its own. -/
def ToP (w : World) (f : Fv) (F G H : List Int) (e : Ending) (w' : World) : Prop :=
  ∃ g1 g2 g3, e = .returned (Fv.v ⟨f.a, f.b, some ⟨g1, 0, none⟩, f.n1, f.n1, some ⟨g2, 0, none⟩, f.n2, f.n2, some ⟨g3, 0, none⟩, f.n3, f.n3⟩) ∧
    OF w' w.heap.size w'.heap.size ⟨f.a, f.b, some ⟨g1, 0, none⟩, f.n1, f.n1, some ⟨g2, 0, none⟩, f.n2, f.n2, some ⟨g3, 0, none⟩, f.n3, f.n3⟩ F G H ∧ Below w.heap.size w w'
theorem Own.put {α : Type} {enc : α → Value} {w : World} {lo hi g i : Nat} {e : TypeId} {v : Value} {l : List α} (h : Own enc w lo hi e v l) (u : Value) (hg : g < lo ∨ hi ≤ g) : Own enc (w.setCell ⟨g, i, none⟩ u) lo hi e v l :=
  h.other _ _ (fun hh => by have := h.lt g hh; omega)
end Go.Proofs.Ytfiefjbipjalpaa
