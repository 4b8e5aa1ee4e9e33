/- The cells of the leaves of a scheme: each cell of the sheet once. No program is called here. -/
import Derived.Test.YtfiefjbipjalpaaFoLv
namespace Go.Proofs.Ytfiefjbipjalpaa
open Go.RowKit

/-- The cell of the leaf at a place. -/
def cellX (l : List UInt8) (j : Nat) : Int := (Fo.leaf l.reverse 1 1 0 0 j).v.x
def cellY (l : List UInt8) (j : Nat) : Int := (Fo.leaf l.reverse 1 1 0 0 j).v.y
theorem sheet_side {a b : Int} {l : List UInt8} (h : Fo.scheme a b l = true) : a = ((2 ^ Fo.nX l.reverse : Nat) : Int) ∧ b = ((2 ^ Fo.nY l.reverse : Nat) : Int) := by
  obtain ⟨_, h1, h2, h3, h4, _⟩ := Fo.scheme_len h
  rw [Fo.nX_rev, Fo.nY_rev, h1, h2]
  exact ⟨(Fo.side_pow h3).1, (Fo.side_pow h4).1⟩
theorem cell_in {a b : Int} {l : List UInt8} (h : Fo.scheme a b l = true) {j : Nat} (hj : j < 2 ^ l.length) : 0 ≤ cellX l j ∧ cellX l j < a ∧ 0 ≤ cellY l j ∧ cellY l j < b := by
  obtain ⟨ha, hb⟩ := sheet_side h
  have h1 := Fo.leaf_in l.reverse 1 1 0 0 j (by omega) (by omega) (by rw [List.length_reverse]; exact hj)
  rw [Nat.one_mul, Nat.one_mul] at h1
  rw [ha, hb]
  unfold cellX cellY Fo.Lf.v
  exact ⟨Int.natCast_nonneg _, Int.ofNat_lt.2 h1.1, Int.natCast_nonneg _, Int.ofNat_lt.2 h1.2⟩
theorem cell_on {a b : Int} {l : List UInt8} (h : Fo.scheme a b l = true) {x y : Int} (hx : 0 ≤ x) (hx' : x < a) (hy : 0 ≤ y) (hy' : y < b) : ∃ j, j < 2 ^ l.length ∧ cellX l j = x ∧ cellY l j = y := by
  obtain ⟨ha, hb⟩ := sheet_side h
  obtain ⟨xn, rfl⟩ := Int.eq_ofNat_of_zero_le hx
  obtain ⟨yn, rfl⟩ := Int.eq_ofNat_of_zero_le hy
  rw [ha] at hx'
  rw [hb] at hy'
  obtain ⟨x0, y0, k, h1, h2, h3, h4, h5⟩ := Fo.leaf_onto l.reverse 1 1 xn yn (by rw [Nat.one_mul]; exact Int.ofNat_lt.1 hx') (by rw [Nat.one_mul]; exact Int.ofNat_lt.1 hy')
  obtain rfl : x0 = 0 := by omega
  obtain rfl : y0 = 0 := by omega
  rw [List.length_reverse] at h3
  exact ⟨k, h3, by unfold cellX Fo.Lf.v; simp [h4], by unfold cellY Fo.Lf.v; simp [h5]⟩
theorem cell_inj (l : List UInt8) {i j : Nat} (hi : i < 2 ^ l.length) (hj : j < 2 ^ l.length) (h1 : cellX l i = cellX l j) (h2 : cellY l i = cellY l j) : i = j := by
  have e1 : (Fo.leaf l.reverse 1 1 0 0 i).x = (Fo.leaf l.reverse 1 1 0 0 j).x := by
    unfold cellX Fo.Lf.v at h1
    exact Int.ofNat_inj.1 h1
  have e2 : (Fo.leaf l.reverse 1 1 0 0 i).y = (Fo.leaf l.reverse 1 1 0 0 j).y := by
    unfold cellY Fo.Lf.v at h2
    exact Int.ofNat_inj.1 h2
  exact (Fo.leaf_inj l.reverse 1 1 0 0 i 0 0 j (by omega) (by omega) (by rw [List.length_reverse]; exact hi) (by omega) (by omega) (by rw [List.length_reverse]; exact hj) e1 e2).2.2
theorem LVs_cell {l : List UInt8} {j : Nat} {v : Lv} (h : (LVs l)[j]? = some v) : j < 2 ^ l.length ∧ v.x = cellX l j ∧ v.y = cellY l j := by
  have hj : j < 2 ^ l.length := by
    have := (List.getElem?_eq_some_iff.1 h).1
    rwa [LVs_len] at this
  rw [LVs_get l j hj] at h
  injection h with h
  subst h
  exact ⟨hj, rfl, rfl⟩

theorem leaf_bnd (l : List UInt8) (k : Nat) (h6 : l.length ≤ 6) (hk : k < 2 ^ l.length) : (Fo.leaf l.reverse 1 1 0 0 k).x < 64 ∧ (Fo.leaf l.reverse 1 1 0 0 k).y < 64 := by
  have h1 := Fo.leaf_in l.reverse 1 1 0 0 k (by omega) (by omega) (by rw [List.length_reverse]; exact hk)
  rw [Nat.one_mul, Nat.one_mul] at h1
  have h2 := Fo.nX_add_nY l.reverse
  rw [List.length_reverse] at h2
  have h3 := pow_le6' (show Fo.nX l.reverse ≤ 6 by omega)
  have h4 := pow_le6' (show Fo.nY l.reverse ≤ 6 by omega)
  exact ⟨by omega, by omega⟩
theorem cell_small (l : List UInt8) (k : Nat) (h6 : l.length ≤ 6) (hk : k < 2 ^ l.length) : -64 ≤ cellX l k ∧ cellX l k ≤ 64 ∧ -64 ≤ cellY l k ∧ cellY l k ≤ 64 := by
  obtain ⟨h1, h2⟩ := leaf_bnd l k h6 hk
  unfold cellX cellY Fo.Lf.v
  simp only
  omega

/-- The code of a sheet, a scheme and a cell. -/
def loC (a b : Int) (l : List UInt8) (x y : Int) : Int := if Fo.code a b l = 0 then (if 0 ≤ x ∧ x < a ∧ 0 ≤ y ∧ y < b then 0 else 2) else Fo.code a b l
/-- The first place with a cell. -/
def plc (l : List UInt8) (x y : Int) : Nat → Nat → Nat
  | 0, i => i
  | f + 1, i => if cellX l i = x ∧ cellY l i = y then i else plc l x y f (i + 1)
def loR (a b : Int) (l : List UInt8) (x y : Int) : Nat := if loC a b l x y = 0 then plc l x y (2 ^ l.length) 0 else 0
theorem plc_at (l : List UInt8) (x y : Int) (j : Nat) (hj : j < 2 ^ l.length) (h : cellX l j = x ∧ cellY l j = y) : ∀ (f i : Nat), i ≤ j → j < i + f → plc l x y f i = j := by
  intro f
  induction f with
  | zero => intro i h1 h2; omega
  | succ f ih =>
    intro i h1 h2
    rw [plc]
    by_cases hi : cellX l i = x ∧ cellY l i = y
    · rw [if_pos hi]
      exact cell_inj l (by omega) hj (hi.1.trans h.1.symm) (hi.2.trans h.2.symm)
    · rw [if_neg hi]
      have : i ≠ j := fun e => hi (by rw [e]; exact h)
      exact ih (i + 1) (by omega) (by omega)
theorem loR_at {a b : Int} {l : List UInt8} {x y : Int} {j : Nat} (hj : j < 2 ^ l.length) (h : cellX l j = x ∧ cellY l j = y) (h0 : loC a b l x y = 0) : loR a b l x y = j := by
  unfold loR
  rw [if_pos h0]
  exact plc_at l x y j hj h _ 0 (by omega) (by omega)
end Go.Proofs.Ytfiefjbipjalpaa
