/- Mathematics of chapter 12: catalogues, the best kind, the density bound, the best values of all sheets. -/
import Derived.Test.YtbhofhobnbhhhaaDoorKd
namespace Go.Proofs.YtbhofhobnbhhhaaDoor
open Go.RowKit
namespace Bc
def okS (w h : Int) : Bool := decide (1 ≤ w ∧ w ≤ 40) && decide (1 ≤ h ∧ h ≤ 40)
def okK (k : Kd) : Bool := okS k.w k.h && decide (0 ≤ k.v ∧ k.v ≤ 1000)
def okL (l : List Kd) : Bool := l.all okK && decide (1 ≤ l.length ∧ l.length ≤ 6)
def code (w h : Int) (l : List Kd) : Int := if okL l then (if okS w h then 0 else 2) else 1
theorem okS_iff {w h : Int} : okS w h = true ↔ (1 ≤ w ∧ w ≤ 40) ∧ (1 ≤ h ∧ h ≤ 40) := by
  unfold okS
  simp only [Bool.and_eq_true, decide_eq_true_eq]
theorem okK_iff {k : Kd} : okK k = true ↔ (1 ≤ k.w ∧ k.w ≤ 40) ∧ (1 ≤ k.h ∧ k.h ≤ 40) ∧ (0 ≤ k.v ∧ k.v ≤ 1000) := by
  unfold okK
  simp only [Bool.and_eq_true, decide_eq_true_eq, okS_iff, and_assoc]
theorem okL_iff {l : List Kd} : okL l = true ↔ (∀ k ∈ l, okK k = true) ∧ (1 ≤ l.length ∧ l.length ≤ 6) := by
  unfold okL
  simp only [Bool.and_eq_true, decide_eq_true_eq, List.all_eq_true]
theorem okL_at {l : List Kd} {k : Nat} {x : Kd} (hx : l[k]? = some x) (h : okK x = false) : okL l = false := by
  cases e : okL l
  · rfl
  · have := (okL_iff.1 e).1 x (List.mem_of_getElem? hx)
    rw [h] at this
    cases this
theorem okL_end {l : List Kd} {n : Nat} (hl : l.length = n) (h : ∀ j y, j < n → l[j]? = some y → okK y = true) : okL l = decide (1 ≤ n ∧ n ≤ 6) := by
  unfold okL
  rw [hl, List.all_eq_true.2 fun y hy => by
    obtain ⟨j, hj⟩ := List.getElem?_of_mem hy
    have h2 := (List.getElem?_eq_some_iff.1 hj).1
    exact h j y (by omega) hj]
  rfl
theorem code0 {w h : Int} {l : List Kd} (hc : code w h l = 0) : okL l = true ∧ okS w h = true := by
  unfold code at hc
  cases e1 : okL l <;> cases e2 : okS w h <;> simp [e1, e2] at hc ⊢
/-- The value of the grid of a kind. -/
def kv (w h : Int) (k : Kd) : Int := w / k.w * (h / k.h) * k.v
/-- The best kind of the first n ones, with its value. -/
def bkT (w h : Int) (l : List Kd) : Nat → Int × Int
  | 0 => (0, -1)
  | n + 1 => if (bkT w h l n).2 < kv w h (l.getD n Kd.zero) then ((n : Int), kv w h (l.getD n Kd.zero)) else bkT w h l n
def bkI (w h : Int) (l : List Kd) : Int := if code w h l = 0 then (bkT w h l l.length).1 else 0
def bkV (w h : Int) (l : List Kd) : Int := if code w h l = 0 then (bkT w h l l.length).2 else 0
theorem getD_some {l : List Kd} {n : Nat} {x : Kd} (h : l[n]? = some x) : l.getD n Kd.zero = x := by rw [List.getD_eq_getElem?_getD, h]; rfl
theorem bkT_lt {w h v : Int} {l : List Kd} {n : Nat} {x : Kd} (hx : l[n]? = some x) (hv : kv w h x = v) (h1 : (bkT w h l n).2 < v) : bkT w h l (n + 1) = ((n : Int), v) := by
  unfold bkT
  rw [getD_some hx, hv, if_pos h1]
theorem bkT_ge {w h v : Int} {l : List Kd} {n : Nat} {x : Kd} (hx : l[n]? = some x) (hv : kv w h x = v) (h1 : ¬ (bkT w h l n).2 < v) : bkT w h l (n + 1) = bkT w h l n := by
  rw [bkT, getD_some hx, hv, if_neg h1]
theorem div_bd {a b m : Int} (ha : 0 ≤ a ∧ a ≤ m) (hb : 1 ≤ b) : 0 ≤ a / b ∧ a / b ≤ m := by
  have h1 : a / b * b ≤ a := Int.ediv_mul_le a (by omega)
  have h2 : 0 ≤ a / b := Int.ediv_nonneg ha.1 (by omega)
  have h3 : a / b * 1 ≤ a / b * b := Int.mul_le_mul_of_nonneg_left hb h2
  omega
theorem mul_bd {a b m n : Int} (ha : 0 ≤ a ∧ a ≤ m) (hb : 0 ≤ b ∧ b ≤ n) : 0 ≤ a * b ∧ a * b ≤ m * n :=
  ⟨Int.mul_nonneg ha.1 hb.1, Int.mul_le_mul ha.2 hb.2 hb.1 (by omega)⟩
theorem kv_bd {w h : Int} {k : Kd} (hs : okS w h = true) (hk : okK k = true) :
    (0 ≤ w / k.w ∧ w / k.w ≤ 40) ∧ (0 ≤ h / k.h ∧ h / k.h ≤ 40) ∧ (0 ≤ w / k.w * (h / k.h) ∧ w / k.w * (h / k.h) ≤ 1600) ∧ (0 ≤ kv w h k ∧ kv w h k ≤ 1600000) := by
  have h1 := okS_iff.1 hs
  have h2 := okK_iff.1 hk
  have a1 := div_bd (a := w) (b := k.w) (m := 40) (by omega) (by omega)
  have a2 := div_bd (a := h) (b := k.h) (m := 40) (by omega) (by omega)
  have a3 := mul_bd a1 a2
  have a4 := mul_bd a3 h2.2.2
  exact ⟨a1, a2, by omega, by unfold kv; omega⟩
/-- The density bound over the first n kinds. -/
def dv (w h : Int) (k : Kd) : Int := w * h * k.v / (k.w * k.h)
def dnT (w h : Int) (l : List Kd) : Nat → Int
  | 0 => 0
  | n + 1 => max (dnT w h l n) (dv w h (l.getD n Kd.zero))
def dnR (w h : Int) (l : List Kd) : Int := if code w h l = 0 then dnT w h l l.length else 0
theorem dnT_next {w h v : Int} {l : List Kd} {n : Nat} {x : Kd} (hx : l[n]? = some x) (hv : dv w h x = v) : dnT w h l (n + 1) = max (dnT w h l n) v := by
  rw [dnT, getD_some hx, hv]
theorem dv_bd {w h : Int} {k : Kd} (hs : okS w h = true) (hk : okK k = true) :
    (0 ≤ w * h ∧ w * h ≤ 1600) ∧ (0 ≤ w * h * k.v ∧ w * h * k.v ≤ 1600000) ∧ (1 ≤ k.w * k.h ∧ k.w * k.h ≤ 1600) ∧ (0 ≤ dv w h k ∧ dv w h k ≤ 1600000) := by
  have h1 := okS_iff.1 hs
  have h2 := okK_iff.1 hk
  have a1 := mul_bd (a := w) (b := h) (m := 40) (n := 40) (by omega) (by omega)
  have a2 := mul_bd a1 h2.2.2
  have a3 := mul_bd (a := k.w) (b := k.h) (m := 40) (n := 40) (by omega) (by omega)
  have a4 : 1 ≤ k.w * k.h := by
    have := Int.mul_le_mul (a := 1) (b := 1) (c := k.w) (d := k.h) (by omega) (by omega) (by omega) (by omega)
    omega
  have a5 := div_bd (a := w * h * k.v) (b := k.w * k.h) (m := 1600000) (by omega) a4
  exact ⟨by omega, by omega, by omega, a5⟩
end Bc
end Go.Proofs.YtbhofhobnbhhhaaDoor
