/- The table of the roman signs as it lies in memory, and an element of it. -/
import Derived.Test.YtoanopgafihjiaaDoorRoSpec
import Derived.Laws.Rows
namespace Go.Proofs.YtoanopgafihjiaaDoor
open Go.RowKit Ro

/-- The cells of the table of signs. -/
def signCells : Array Value := #[.string ⟨#[109]⟩, .int .i64 1000, .string ⟨#[99, 109]⟩, .int .i64 900, .string ⟨#[100]⟩, .int .i64 500, .string ⟨#[99, 100]⟩, .int .i64 400,
  .string ⟨#[99]⟩, .int .i64 100, .string ⟨#[120, 99]⟩, .int .i64 90, .string ⟨#[108]⟩, .int .i64 50, .string ⟨#[120, 108]⟩, .int .i64 40, .string ⟨#[120]⟩, .int .i64 10,
  .string ⟨#[105, 120]⟩, .int .i64 9, .string ⟨#[118]⟩, .int .i64 5, .string ⟨#[105, 118]⟩, .int .i64 4, .string ⟨#[105]⟩, .int .i64 1]
def sgS (k : Nat) : List UInt8 := ((signs[k]?).getD ([], 0)).1
def sgV (k : Nat) : Nat := ((signs[k]?).getD ([], 0)).2
theorem sign_at (k : Nat) (h : k < 13) : signs.drop k = (sgS k, sgV k) :: signs.drop (k + 1) ∧ 1 ≤ sgV k ∧ sgV k ≤ 1000 ∧ 1 ≤ (sgS k).length ∧ (sgS k).length ≤ 2 := by
  have hc : k = 0 ∨ k = 1 ∨ k = 2 ∨ k = 3 ∨ k = 4 ∨ k = 5 ∨ k = 6 ∨ k = 7 ∨ k = 8 ∨ k = 9 ∨ k = 10 ∨ k = 11 ∨ k = 12 := by omega
  rcases hc with rfl | rfl | rfl | rfl | rfl | rfl | rfl | rfl | rfl | rfl | rfl | rfl | rfl <;> exact ⟨rfl, by decide, by decide, by decide, by decide⟩
theorem sign_index (k : Nat) (h : k < 13) (w : World) : (Instr.index 72 (.agg signCells) (.int .i64 k)).run Tryd.prog w = .ok (.agg #[.string (St (sgS k)), .int .i64 (sgV k)]) w := by
  have hc : k = 0 ∨ k = 1 ∨ k = 2 ∨ k = 3 ∨ k = 4 ∨ k = 5 ∨ k = 6 ∨ k = 7 ∨ k = 8 ∨ k = 9 ∨ k = 10 ∨ k = 11 ∨ k = 12 := by omega
  rcases hc with rfl | rfl | rfl | rfl | rfl | rfl | rfl | rfl | rfl | rfl | rfl | rfl | rfl <;> (show _ = _; kernel_rfl)
/-- The table lies in memory. -/
def Sg (w : World) : Prop := ∃ t fr, w.heap[0]? = some (.cells signCells t fr)
theorem Sg.below {w w' : World} {B : Nat} (h : Sg w) (hb : Below B w w') (hB : 0 < B) : Sg w' := by
  obtain ⟨t, fr, hg⟩ := h
  exact ⟨t, fr, (hb.block _ hB).trans hg⟩
theorem Sg.lt {w : World} (h : Sg w) : 0 < w.heap.size := by
  obtain ⟨t, fr, hg⟩ := h
  exact (Array.getElem?_eq_some_iff.1 hg).1
end Go.Proofs.YtoanopgafihjiaaDoor
