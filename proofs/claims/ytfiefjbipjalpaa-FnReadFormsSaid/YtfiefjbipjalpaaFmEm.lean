/- Contract of the program's emptyForm. -/
import Derived.Test.YtfiefjbipjalpaaFmRd
namespace Go.Proofs.Ytfiefjbipjalpaa
open Go.RowKit

/-- A form without a print, with blocks of its own. -/
def EmR (w : World) (a b : Int) (N : Nat) (e : Ending) (w' : World) : Prop :=
  ∃ g1 g2 g3, e = .returned (Fv.v ⟨a, b, some ⟨g1, 0, none⟩, N, N, some ⟨g2, 0, none⟩, N, N, some ⟨g3, 0, none⟩, N, N⟩) ∧
    OF w' w.heap.size w'.heap.size ⟨a, b, some ⟨g1, 0, none⟩, N, N, some ⟨g2, 0, none⟩, N, N, some ⟨g3, 0, none⟩, N, N⟩ (List.replicate N 0) (List.replicate N 0) (List.replicate N 0) ∧ Below w.heap.size w w'
abbrev sl0 : Value := .slice none 0 0
abbrev slN (g N : Nat) : Value := .slice (some ⟨g, 0, none⟩) N N
theorem slN_one (g N : Nat) : (slN g N).oneCell' = true := rfl
/-- The form so far: k of its lists are made. -/
structure EmI (w : World) (a b : Int) (N k : Nat) (wr : World) : Prop where
  res : Blk wr w.heap.size (Fv.cs fv0) 26
  bel : Below w.heap.size w wr
  sz : w.heap.size + 2 ≤ wr.heap.size
  ex : ∃ g1 g2 g3 m1 m2, Blk wr (w.heap.size + 1) #[.int .i64 a, .int .i64 b, if 0 < k then slN g1 N else sl0, if 1 < k then slN g2 N else sl0, if 2 < k then slN g3 N else sl0] 26 ∧
    (0 < k → w.heap.size + 2 ≤ m1 ∧ m1 ≤ wr.heap.size ∧ Own I wr (w.heap.size + 2) m1 2 (slN g1 N) (List.replicate N 0)) ∧
    (1 < k → m1 ≤ m2 ∧ m2 ≤ wr.heap.size ∧ Own I wr m1 m2 2 (slN g2 N) (List.replicate N 0)) ∧
    (2 < k → Own I wr m2 wr.heap.size 2 (slN g3 N) (List.replicate N 0))
/-- One more list is made. -/
theorem EmI.next {w wr w' : World} {a b : Int} {N k g : Nat} (h : EmI w a b N k wr) (hk : k < 3) (ho : Own I w' wr.heap.size w'.heap.size 2 (slN g N) (List.replicate N 0)) (hb : Below wr.heap.size wr w') :
    EmI w a b N (k + 1) (w'.setCell ⟨w.heap.size + 1, k + 2, none⟩ (slN g N)) := by
  obtain ⟨r, bl, sz, g1, g2, g3, m1, m2, hB, h1, h2, h3⟩ := h
  have z := hb.size
  have hB' := (hB.below hb (by omega)).set (k + 2) (slN g N)
  have r' := (r.below hb (by omega)).other ⟨w.heap.size + 1, k + 2, none⟩ (slN g N) (by show w.heap.size ≠ w.heap.size + 1; omega)
  have bl' : Below w.heap.size w (w'.setCell ⟨w.heap.size + 1, k + 2, none⟩ (slN g N)) := (bl.trans (hb.mono (by omega))).setCell (by show w.heap.size ≤ w.heap.size + 1; omega) _
  have ho' := ho.put (slN g N) (g := w.heap.size + 1) (i := k + 2) (.inl (by omega))
  obtain rfl | rfl | rfl : k = 0 ∨ k = 1 ∨ k = 2 := by omega
  · refine ⟨r', bl', by simp; omega, g, g2, g3, w'.heap.size, m2, by simpa using hB', fun _ => ⟨by omega, by simp, ho'.mono (by omega) (Nat.le_refl _)⟩, by omega, by omega⟩
  · obtain ⟨q1, q2, q3⟩ := h1 (by omega)
    refine ⟨r', bl', by simp; omega, g1, g, g3, m1, w'.heap.size, by simpa using hB', fun _ => ⟨q1, by simp; omega, (q3.below hb q2).put _ (.inl (by omega))⟩, fun _ => ⟨by omega, by simp, ho'.mono q2 (Nat.le_refl _)⟩, by omega⟩
  · obtain ⟨q1, q2, q3⟩ := h1 (by omega)
    obtain ⟨p1, p2, p3⟩ := h2 (by omega)
    refine ⟨r', bl', by simp; omega, g1, g2, g, m1, m2, by simpa using hB', fun _ => ⟨q1, by simp; omega, (q3.below hb q2).put _ (.inl (by omega))⟩, fun _ => ⟨p1, by simp; omega, (p3.below hb p2).put _ (.inl (by omega))⟩, fun _ => ho'.mono p2 (by simp)⟩
end Go.Proofs.Ytfiefjbipjalpaa
