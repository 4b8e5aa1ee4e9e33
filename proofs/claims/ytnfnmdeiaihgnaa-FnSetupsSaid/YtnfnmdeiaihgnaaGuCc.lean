/- Contracts of the test whether a cut is possible, the program's and the model's, and of the pieces that a cut makes of one. -/
import Derived.Test.YtnfnmdeiaihgnaaGuIm
import Derived.BigQuiet
import Derived.Deep.QuietTactic
namespace Go.Proofs.Ytnfnmdeiaihgnaa
open Go.RowKit
set_option linter.unusedVariables false

theorem Gu.can_len {l : List Pc} {n : Nat} {c : Ct} (hl : l.length = n) (h : 80 ≤ n) : Gu.can l c = false := decide_eq_false fun h1 => by have := h1.1; omega
theorem Gu.can_ix {l : List Pc} {n : Nat} {c : Ct} (hl : l.length = n) (h : c.i < 0 ∨ (n : Int) ≤ c.i) : Gu.can l c = false := decide_eq_false fun h1 => by have h2 := h1.2.1; have h3 := h1.2.2.1; rw [hl] at h3; omega
theorem Gu.can_at {l : List Pc} {n k : Nat} {a : Bool} {t : Int} {p : Pc} (hl : l.length = n) (hn : n < 80) (hp : l[k]? = some p) : Gu.can l ⟨(k : Int), a, t⟩ = decide (1 ≤ t ∧ t < if a then p.h else p.w) := by
  have hk : k < l.length := (List.getElem?_eq_some_iff.1 hp).1
  have hg : Gu.atI l (k : Int) = p := Gu.atI_get (by simpa using hp)
  apply Bool.eq_iff_iff.2
  simp only [Gu.can, decide_eq_true_eq, Gu.canP, Gu.side, hg]
  constructor
  · exact fun h => h.2.2.2
  · exact fun h => ⟨by omega, by omega, by omega, h⟩
theorem Gu.cc_no {l : List Pc} {c : Ct} (h : Gu.okL l = false) : Gu.ccB l c = false := by unfold Gu.ccB; rw [h]; rfl
theorem Gu.cc_of {l : List Pc} {c : Ct} {b : Bool} (h : Gu.okL l = true) (h1 : Gu.can l c = b) : Gu.ccB l c = b := by unfold Gu.ccB; rw [h, h1]; rfl
theorem Gu.side_of {l : List Pc} {k : Nat} {p : Pc} (h : Gu.okL l = true) (hp : l[k]? = some p) : 1 ≤ p.w ∧ p.w ≤ 20000 ∧ 1 ≤ p.h ∧ p.h ≤ 20000 :=
  Gu.okP_iff.1 ((Gu.okL_all h).2 p (List.mem_of_getElem? hp))

theorem two_new (w : World) (o o2 : Obj) : Below w.heap.size w ((w.alloc o).alloc o2) := (below_new9 w o).alloc (by simp) _
end Go.Proofs.Ytnfnmdeiaihgnaa
