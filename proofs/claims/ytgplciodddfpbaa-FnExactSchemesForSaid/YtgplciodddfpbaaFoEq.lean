/- Two leaves compared. -/
import Derived.Test.YtgplciodddfpbaaFoSf
import Derived.Laws.StructEq
import Derived.Deep.RegionLaw
import Derived.BigQuiet
import Derived.Deep.QuietTactic
namespace Go.Proofs.Ytgplciodddfpbaa
open Go.RowKit

def Lv.eqv (x y : Lv) : Bool := x.x == y.x && x.y == y.y && x.fx == y.fx && x.fy == y.fy
theorem Lv.eqv_iff (x y : Lv) : x.eqv y = true ↔ x = y := by
  obtain ⟨a, b, c, d⟩ := x
  obtain ⟨a', b', c', d'⟩ := y
  simp [Lv.eqv, and_assoc]
set_option maxRecDepth 100000 in
theorem eqLf (x y : Lv) (W : World) : (Op.equalIn 10000 66 x.agg y.agg).run Try.prog W = .ok (x.eqv y) W := by
  have hf : Try.prog.underlying 66 = some (.struct (Try.prog.fieldsOf 66)) := by kernel_rfl
  have hp : Try.prog.stoodInHeld 66 = false := by kernel_rfl
  rw [run_equalIn_struct W 9999 _ _ _ hf hp]
  have hu := Try.underlying66
  rw [hf] at hu
  injection hu with hu
  injection hu with hu
  rw [hu]
  simp [Op.eqFields, go_sem, Try.underlying2, Try.underlying4]
  unfold Lv.eqv
  by_cases h1 : x.x = y.x <;> by_cases h2 : x.y = y.y <;> by_cases h3 : x.fx = y.fx <;> by_cases h4 : x.fy = y.fy <;> simp [h1, h2, h3, h4]
theorem neLf (x y : Lv) (W : World) : (binOp .neq 66 x.agg y.agg).run Try.prog W = .ok (.bool (!x.eqv y)) W := by
  rw [run_neq_struct, eqLf]
  rfl

/-- Are two lists of leaves one? -/
def smB : List Lv → List Lv → Bool
  | [], [] => true
  | x :: xs, y :: ys => x.eqv y && smB xs ys
  | _, _ => false
theorem smB_iff : ∀ (l m : List Lv), smB l m = true ↔ l = m := by
  intro l
  induction l with
  | nil => intro m; cases m <;> simp [smB]
  | cons x l ih =>
    intro m
    cases m with
    | nil => simp [smB]
    | cons y m => simp [smB, Lv.eqv_iff, ih]
theorem smB_len {l m : List Lv} (h : l.length ≠ m.length) : smB l m = false := by
  rw [← Bool.not_eq_true, smB_iff]
  exact fun e => h (by rw [e])
theorem smB_at {l m : List Lv} {k : Nat} {x y : Lv} (hx : l[k]? = some x) (hy : m[k]? = some y) (h : x.eqv y = false) : smB l m = false := by
  rw [← Bool.not_eq_true, smB_iff]
  intro e
  subst e
  rw [hx] at hy
  injection hy with hy
  subst hy
  have := (Lv.eqv_iff x x).2 rfl
  rw [h] at this
  cases this
theorem smB_all {l m : List Lv} {n : Nat} (hl : l.length = n) (hm : m.length = n) (h : l.take n = m.take n) : smB l m = true := by
  rw [smB_iff]
  rwa [List.take_of_length_le (by omega), List.take_of_length_le (by omega)] at h
theorem take_eq_next {l m : List Lv} {k : Nat} {x y : Lv} (h : l.take k = m.take k) (hx : l[k]? = some x) (hy : m[k]? = some y) (he : x.eqv y = true) : l.take (k + 1) = m.take (k + 1) := by
  rw [List.take_add_one, List.take_add_one, h, hx, hy, (Lv.eqv_iff x y).1 he]

end Go.Proofs.Ytgplciodddfpbaa
