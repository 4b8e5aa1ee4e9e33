/- Mathematics of chapter 12: the best values of all sheets. -/
import Derived.Test.YtbhofhobnbhhhaaDoorBcMath
namespace Go.Proofs.YtbhofhobnbhhhaaDoor
open Go.RowKit
namespace Bc
/-- The greatest of s and g 1, .. g n. -/
def mxT (g : Nat → Int) (s : Int) : Nat → Int
  | 0 => s
  | n + 1 => max (mxT g s n) (g (n + 1))
theorem mxT_congr {g k : Nat → Int} {s : Int} : ∀ {n : Nat}, (∀ x, 1 ≤ x → x ≤ n → g x = k x) → mxT g s n = mxT k s n
  | 0, _ => rfl
  | n + 1, h => by
    unfold mxT
    rw [mxT_congr (n := n) fun x h1 h2 => h x h1 (by omega), h (n + 1) (by omega) (by omega)]
theorem mxT_le {g : Nat → Int} {s m : Int} (hs : s ≤ m) : ∀ {n : Nat}, (∀ x, 1 ≤ x → x ≤ n → g x ≤ m) → mxT g s n ≤ m
  | 0, _ => hs
  | n + 1, h => by
    have h1 := mxT_le hs (n := n) fun x h1 h2 => h x h1 (by omega)
    have h2 := h (n + 1) (by omega) (by omega)
    unfold mxT
    omega
theorem mxT_ge (g : Nat → Int) (s : Int) : ∀ n, s ≤ mxT g s n
  | 0 => Int.le_refl _
  | n + 1 => by
    have h1 := mxT_ge g s n
    unfold mxT
    omega
theorem mxT_in {g : Nat → Int} {s : Int} : ∀ {n x : Nat}, 1 ≤ x → x ≤ n → g x ≤ mxT g s n
  | 0, x, h1, h2 => by omega
  | n + 1, x, h1, h2 => by
    unfold mxT
    by_cases e : x = n + 1
    · subst e; omega
    · have := mxT_in (g := g) (s := s) (n := n) (x := x) h1 (by omega)
      omega
/-- Whatever bounds s and all of g bounds the greatest; and the greatest is one of them. -/
theorem mxT_is {g : Nat → Int} {s : Int} : ∀ {n : Nat}, mxT g s n = s ∨ ∃ x, 1 ≤ x ∧ x ≤ n ∧ mxT g s n = g x
  | 0 => .inl rfl
  | n + 1 => by
    unfold mxT
    rcases Int.le_total (mxT g s n) (g (n + 1)) with h | h
    · exact .inr ⟨n + 1, by omega, by omega, by omega⟩
    · rcases mxT_is (g := g) (s := s) (n := n) with e | ⟨x, h1, h2, e⟩
      · exact .inl (by omega)
      · exact .inr ⟨x, h1, by omega, by omega⟩
/-- The value of a kind on a sheet where it fits, else 0. -/
def fitV (W H : Int) (k : Kd) : Int := if k.w ≤ W ∧ k.h ≤ H then k.v else 0
/-- The greatest value of the first n kinds that fit. -/
def fitT (l : List Kd) (W H : Int) : Nat → Int
  | 0 => 0
  | n + 1 => max (fitT l W H n) (fitV W H (l.getD n Kd.zero))
theorem fitT_next {l : List Kd} {W H : Int} {n : Nat} {x : Kd} (hx : l[n]? = some x) : fitT l W H (n + 1) = max (fitT l W H n) (fitV W H x) := by
  rw [fitT, getD_some hx]
def VF (l : List Kd) : Nat → Nat → Nat → Int
  | 0, _, _ => 0
  | f + 1, W, H => if W = 0 ∨ H = 0 then 0 else
      mxT (fun y => VF l f W y + VF l f W (H - y)) (mxT (fun x => VF l f x H + VF l f (W - x) H) (fitT l W H l.length) (W - 1)) (H - 1)
def V (l : List Kd) (W H : Nat) : Int := VF l (W + H) W H
theorem VF_zero (l : List Kd) (f : Nat) {W H : Nat} (h : W = 0 ∨ H = 0) : VF l f W H = 0 := by
  cases f with
  | zero => rfl
  | succ f => unfold VF; rw [if_pos h]
theorem VF_fuel (l : List Kd) : ∀ (f g W H : Nat), W + H ≤ f → W + H ≤ g → VF l f W H = VF l g W H := by
  intro f
  induction f with
  | zero =>
    intro g W H hf hg
    rw [VF_zero l g (by omega)]
    rfl
  | succ f ih =>
    intro g W H hf hg
    by_cases h0 : W = 0 ∨ H = 0
    · rw [VF_zero l _ h0, VF_zero l _ h0]
    · cases g with
      | zero => omega
      | succ g =>
        unfold VF
        rw [if_neg h0, if_neg h0]
        have e1 : mxT (fun x => VF l f x H + VF l f (W - x) H) (fitT l W H l.length) (W - 1) = mxT (fun x => VF l g x H + VF l g (W - x) H) (fitT l W H l.length) (W - 1) :=
          mxT_congr fun x h1 h2 => by
            show VF l f x H + VF l f (W - x) H = VF l g x H + VF l g (W - x) H
            rw [ih g x H (by omega) (by omega), ih g (W - x) H (by omega) (by omega)]
        rw [e1]
        exact mxT_congr fun y h1 h2 => by
          show VF l f W y + VF l f W (H - y) = VF l g W y + VF l g W (H - y)
          rw [ih g W y (by omega) (by omega), ih g W (H - y) (by omega) (by omega)]
theorem V_zero (l : List Kd) {W H : Nat} (h : W = 0 ∨ H = 0) : V l W H = 0 := VF_zero l _ h
/-- The three rounds that give a value. -/
def VX (l : List Kd) (W H n : Nat) : Int := mxT (fun x => V l x H + V l (W - x) H) (fitT l W H l.length) n
def VY (l : List Kd) (W H n : Nat) : Int := mxT (fun y => V l W y + V l W (H - y)) (VX l W H (W - 1)) n
theorem V_eq (l : List Kd) {W H : Nat} (h : ¬ (W = 0 ∨ H = 0)) : V l W H = VY l W H (H - 1) := by
  have e : W + H = (W + H - 1) + 1 := by omega
  unfold V VY VX
  rw [e]
  rw [VF, if_neg h]
  have e1 : mxT (fun x => VF l (W + H - 1) x H + VF l (W + H - 1) (W - x) H) (fitT l W H l.length) (W - 1) = mxT (fun x => V l x H + V l (W - x) H) (fitT l W H l.length) (W - 1) :=
    mxT_congr fun x h1 h2 => by
      show VF l (W + H - 1) x H + VF l (W + H - 1) (W - x) H = VF l (x + H) x H + VF l (W - x + H) (W - x) H
      rw [VF_fuel l (W + H - 1) (x + H) x H (by omega) (by omega), VF_fuel l (W + H - 1) (W - x + H) (W - x) H (by omega) (by omega)]
  rw [e1]
  exact mxT_congr fun y h1 h2 => by
    show VF l (W + H - 1) W y + VF l (W + H - 1) W (H - y) = VF l (W + y) W y + VF l (W + (H - y)) W (H - y)
    rw [VF_fuel l (W + H - 1) (W + y) W y (by omega) (by omega), VF_fuel l (W + H - 1) (W + (H - y)) W (H - y) (by omega) (by omega)]
theorem fitV_bd {W H : Int} {k : Kd} (hk : okK k = true) : 0 ≤ fitV W H k ∧ fitV W H k ≤ 1000 := by
  have h := okK_iff.1 hk
  unfold fitV
  split <;> omega
theorem fitT_bd {l : List Kd} {W H : Int} (hl : ∀ k ∈ l, okK k = true) : ∀ n, n ≤ l.length → 0 ≤ fitT l W H n ∧ fitT l W H n ≤ 1000
  | 0, _ => by unfold fitT; omega
  | n + 1, hn => by
    have h1 := fitT_bd (W := W) (H := H) hl n (by omega)
    have hx : l[n]? = some l[n] := List.getElem?_eq_getElem (by omega)
    have h2 := fitV_bd (W := W) (H := H) (hl _ (List.mem_of_getElem? hx))
    rw [fitT_next hx]
    omega
theorem mul_split (c : Int) (x W H : Nat) (h : x ≤ W) : c * ((x : Int) * H) + c * (((W - x : Nat) : Int) * H) = c * ((W : Int) * H) := by
  rw [← Int.mul_add, ← Int.add_mul]
  congr 2
  omega
theorem mul_split' (c : Int) (y W H : Nat) (h : y ≤ H) : c * ((W : Int) * y) + c * ((W : Int) * ((H - y : Nat) : Int)) = c * ((W : Int) * H) := by
  rw [← Int.mul_add, ← Int.mul_add]
  congr 2
  omega
theorem V_bd {l : List Kd} (hl : ∀ k ∈ l, okK k = true) : ∀ (s W H : Nat), W + H ≤ s → 0 ≤ V l W H ∧ V l W H ≤ 1000 * ((W : Int) * H) := by
  intro s
  induction s with
  | zero =>
    intro W H hs
    rw [V_zero l (by omega)]
    exact ⟨Int.le_refl _, by have : (0 : Int) ≤ (W : Int) * H := Int.mul_nonneg (by omega) (by omega); omega⟩
  | succ s ih =>
    intro W H hs
    have hp : (0 : Int) ≤ (W : Int) * H := Int.mul_nonneg (by omega) (by omega)
    by_cases h0 : W = 0 ∨ H = 0
    · rw [V_zero l h0]
      omega
    · have hp1 : (1 : Int) ≤ (W : Int) * H := by
        have := Int.mul_le_mul (a := 1) (b := 1) (c := (W : Int)) (d := (H : Int)) (by omega) (by omega) (by omega) (by omega)
        omega
      have hf := fitT_bd (W := W) (H := H) hl l.length (Nat.le_refl _)
      have hx : VX l W H (W - 1) ≤ 1000 * ((W : Int) * H) := mxT_le (by omega) fun x h1 h2 => by
        have a := (ih x H (by omega)).2
        have b := (ih (W - x) H (by omega)).2
        have c := mul_split 1000 x W H (by omega)
        show V l x H + V l (W - x) H ≤ _
        omega
      have hx0 := mxT_ge (fun x => V l x H + V l (W - x) H) (fitT l W H l.length) (W - 1)
      have hy : VY l W H (H - 1) ≤ 1000 * ((W : Int) * H) := mxT_le hx fun y h1 h2 => by
        have a := (ih W y (by omega)).2
        have b := (ih W (H - y) (by omega)).2
        have c := mul_split' 1000 y W H (by omega)
        show V l W y + V l W (H - y) ≤ _
        omega
      have hy0 := mxT_ge (fun y => V l W y + V l W (H - y)) (VX l W H (W - 1)) (H - 1)
      rw [V_eq l h0]
      refine ⟨?_, hy⟩
      have e1 : fitT l W H l.length ≤ VX l W H (W - 1) := hx0
      have e2 : VX l W H (W - 1) ≤ VY l W H (H - 1) := hy0
      omega
/-- Within the greatest table. -/
theorem V_le {l : List Kd} (hl : ∀ k ∈ l, okK k = true) {W H : Nat} (hW : W ≤ 40) (hH : H ≤ 40) : 0 ≤ V l W H ∧ V l W H ≤ 1600000 := by
  have h := V_bd hl (W + H) W H (Nat.le_refl _)
  have h2 := Int.mul_le_mul (a := (W : Int)) (b := (H : Int)) (c := 40) (d := 40) (by omega) (by omega) (by omega) (by omega)
  omega
/-- A row of the table. -/
def tRow (l : List Kd) (W n : Nat) : List Int := (List.range n).map fun h => V l W h
theorem tRow_len (l : List Kd) (W n : Nat) : (tRow l W n).length = n := by simp [tRow]
theorem tRow_at {l : List Kd} {W n k : Nat} (hk : k < n) : (tRow l W n)[k]? = some (V l W k) := by
  unfold tRow
  rw [List.getElem?_map, List.getElem?_range hk]
  rfl
theorem tRow_next (l : List Kd) (W n : Nat) : tRow l W (n + 1) = tRow l W n ++ [V l W n] := by
  unfold tRow
  rw [List.range_succ, List.map_append]
  rfl
theorem tRow_0 (l : List Kd) (n : Nat) : tRow l 0 n = List.replicate n 0 := by
  unfold tRow
  apply List.ext_getElem?
  intro k
  by_cases hk : k < n
  · rw [List.getElem?_map, List.getElem?_range hk, List.getElem?_replicate, if_pos hk]
    exact congrArg some (V_zero l (.inl rfl))
  · rw [List.getElem?_eq_none (by simp; omega), List.getElem?_eq_none (by simp; omega)]
end Bc
end Go.Proofs.YtbhofhobnbhhhaaDoor
