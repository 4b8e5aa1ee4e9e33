/- The contract of the program's PlaceOf. -/
import Derived.Test.YtjpfbonnohodhaaGreatDoorStPl
namespace Go.Proofs.YtjpfbonnohodhaaGreatDoor
open Go.RowKit Go.Shelf
attribute [local go_sem] Oper.semAt_some
theorem Boxed.below {W W' : World} {B B' : Nat} {t : TypeId} {v : Value} (h : Boxed W B t v) (hb : Below B' W W') (hB : B < B') : Boxed W' B t v := (hb.block B hB).trans h

def lastOf (pre : List Nat) : Nat := pre.getLast?.getD 0
theorem lastOf_snoc (pre : List Nat) (x : Nat) : lastOf (pre ++ [x]) = x := by simp [lastOf]
theorem getD_range {l : List UInt8} {N k : Nat} (hf : St.foldsB l = true) (hN : N = 2 ^ l.length) (hk : k < N) : (St.stack l)[k]? = some (mkB l k) := by
  rw [← marks_map l hf, List.getElem?_map, ← hN, List.getElem?_range hk]
  rfl
theorem pl_hit {l : List UInt8} {cell : Int} {N k : Nat} (hf : St.foldsB l = true) (hN : N = 2 ^ l.length) (hk : k < N) (hc : St.cellOf (mkB l k) = cell) (hno : ∀ y ∈ List.range k, St.cellOf (mkB l y) ≠ cell) : plR l cell = (k : Int) ∧ plC l cell = 0 := by
  have h := plI_some (getD_range hf hN hk) hc (fun y hy => by
    have : (St.stack l).take k = (List.range k).map (mkB l) := by
      rw [← marks_map l hf, ← hN, ← List.map_take, List.take_range, Nat.min_eq_left (by omega)]
    rw [this, List.mem_map] at hy
    obtain ⟨j, hj, rfl⟩ := hy
    exact hno j hj)
  unfold plR plC
  rw [if_pos hf, if_pos hf, h]
  exact ⟨rfl, rfl⟩
theorem pl_miss {l : List UInt8} {cell : Int} {N : Nat} (hf : St.foldsB l = true) (hN : N = 2 ^ l.length) (hno : ∀ y ∈ List.range N, St.cellOf (mkB l y) ≠ cell) : plR l cell = 0 ∧ plC l cell = 2 := by
  have h := plI_none (l := l) (cell := cell) (fun y hy => by
    rw [← marks_map l hf, ← hN, List.mem_map] at hy
    obtain ⟨j, hj, rfl⟩ := hy
    exact hno j hj)
  unfold plR plC
  rw [if_pos hf, if_pos hf, h]
  exact ⟨rfl, rfl⟩
/-- The three variables, laid. -/
def threeW (w : World) (cell : Int) : World := ((w.alloc (.cells #[.int .i64 cell] 2)).alloc (.cells #[.int .i64 0] 2)).alloc (.cells #[.int .i64 0] 2)
theorem threeW_size (w : World) (cell : Int) : (threeW w cell).heap.size = w.heap.size + 3 := by simp [threeW]
theorem threeW_below (w : World) (cell : Int) : Below w.heap.size w (threeW w cell) := (((Below.refl _ w).alloc (Nat.le_refl _) _).alloc (by simp) _).alloc (by simp; omega) _
theorem threeW_box (w : World) (cell : Int) : Boxed (threeW w cell) w.heap.size 2 (.int .i64 cell) ∧ Boxed (threeW w cell) (w.heap.size + 1) 2 (.int .i64 0) ∧ Boxed (threeW w cell) (w.heap.size + 2) 2 (.int .i64 0) := by
  have b0 := Boxed.new w 2 (.int .i64 cell)
  have b1 := Boxed.new (w.alloc (.cells #[.int .i64 cell] 2)) 2 (.int .i64 0)
  have b2 := Boxed.new ((w.alloc (.cells #[.int .i64 cell] 2)).alloc (.cells #[.int .i64 0] 2)) 2 (.int .i64 0)
  simp only [World.size_alloc] at b1 b2
  exact ⟨(b0.alloc _).alloc _, b1.alloc _, b2⟩

end Go.Proofs.YtjpfbonnohodhaaGreatDoor
