/- Mathematics of chapter 13: sizes of a sheet while it is folded, and the set-up of a scheme. -/
import Derived.Test.YtnfnmdeiaihgnaaFoMath
import Derived.Test.YtnfnmdeiaihgnaaGuMath
import Derived.Test.YtnfnmdeiaihgnaaUn
namespace Go.Proofs.Ytnfnmdeiaihgnaa
open Go.RowKit
set_option linter.unusedVariables false
namespace Su
def code (w h : Int) (c : Pc) (s : List UInt8) : Int := if Fo.sheet w h = true ∧ Gu.okP c = true then (if Fo.scheme w h s = true then 0 else 2) else 1
def stp (p : Pc) (x : UInt8) : Pc := if Fo.isX x then ⟨p.w / 2, p.h⟩ else ⟨p.w, p.h / 2⟩
def sz (w h : Int) (c : Pc) (s : List UInt8) (k : Nat) : Pc := (s.take k).foldl stp ⟨w * c.w, h * c.h⟩
theorem sz_zero (w h : Int) (c : Pc) (s : List UInt8) : sz w h c s 0 = ⟨w * c.w, h * c.h⟩ := by unfold sz; rw [List.take_zero]; rfl
theorem sz_next {w h : Int} {c : Pc} {s : List UInt8} {k : Nat} {x : UInt8} (hx : s[k]? = some x) : sz w h c s (k + 1) = stp (sz w h c s k) x := by
  unfold sz
  rw [List.take_add_one, hx]
  simp [List.foldl_append]
def small (p : Pc) : Prop := (0 ≤ p.w ∧ p.w ≤ 160000) ∧ (0 ≤ p.h ∧ p.h ≤ 160000)
theorem stp_small {p : Pc} (h : small p) (x : UInt8) : small (stp p x) := by
  unfold small at h
  unfold stp
  by_cases hx : Fo.isX x = true
  · rw [if_pos hx]; show (0 ≤ p.w / 2 ∧ p.w / 2 ≤ 160000) ∧ (0 ≤ p.h ∧ p.h ≤ 160000); omega
  · rw [if_neg hx]; show (0 ≤ p.w ∧ p.w ≤ 160000) ∧ (0 ≤ p.h / 2 ∧ p.h / 2 ≤ 160000); omega
theorem fold_small : ∀ (l : List UInt8) {p : Pc}, small p → small (l.foldl stp p)
  | [], _, h => h
  | x :: l, _, h => fold_small l (stp_small h x)
theorem side_bd {n : Int} (h : Fo.side n = true) : 1 ≤ n ∧ n ≤ 8 := by
  rcases Fo.side_cases h with ⟨h1, _⟩ | ⟨h1, _⟩ | ⟨h1, _⟩ | ⟨h1, _⟩ <;> omega
theorem mul_bd {a b : Int} (ha : 1 ≤ a ∧ a ≤ 8) (hb : 1 ≤ b ∧ b ≤ 20000) : 0 ≤ a * b ∧ a * b ≤ 160000 := by
  have h1 := Int.mul_nonneg (a := a) (b := b) (by omega) (by omega)
  have h2 := Int.mul_le_mul (a := a) (b := b) (c := 8) (d := 20000) (by omega) (by omega) (by omega) (by omega)
  omega
theorem sz_small {w h : Int} {c : Pc} (hw : 1 ≤ w ∧ w ≤ 8) (hh : 1 ≤ h ∧ h ≤ 8) (hc : Gu.okP c = true) (s : List UInt8) (k : Nat) : small (sz w h c s k) := by
  have h1 := of_decide_eq_true hc
  exact fold_small _ ⟨mul_bd hw ⟨h1.1, h1.2.1⟩, mul_bd hh ⟨h1.2.2.1, h1.2.2.2⟩⟩
/-- The unit of a letter. -/
def unit (p : Pc) (x : UInt8) : Un := ⟨Fo.isX x, if Fo.isX x then p.w / 2 else p.h / 2, x == 76 || x == 84⟩
def suT (w h : Int) (c : Pc) (s : List UInt8) : Nat → List Un
  | 0 => []
  | k + 1 => suT w h c s k ++ [unit (sz w h c s k) (s.getD k 0)]
theorem suT_next {w h : Int} {c : Pc} {s : List UInt8} {k : Nat} {x : UInt8} (hx : s[k]? = some x) : suT w h c s (k + 1) = suT w h c s k ++ [unit (sz w h c s k) x] := by
  show suT w h c s k ++ [unit (sz w h c s k) (s.getD k 0)] = _
  rw [List.getD_eq_getElem?_getD, hx]
  rfl
theorem suT_len (w h : Int) (c : Pc) (s : List UInt8) (k : Nat) : (suT w h c s k).length = k := by
  induction k with
  | zero => rfl
  | succ k ih => simp [suT, ih]
def suR (w h : Int) (c : Pc) (s : List UInt8) : List Un := if code w h c s = 0 then suT w h c s s.length else []
theorem code0 {w h : Int} {c : Pc} {s : List UInt8} (hc : code w h c s = 0) : Gu.okP c = true ∧ Fo.scheme w h s = true := by
  unfold code at hc
  split at hc
  · rename_i h1
    split at hc
    · rename_i h2; exact ⟨h1.2, h2⟩
    · omega
  · omega
theorem scheme_facts {w h : Int} {s : List UInt8} (hs : Fo.scheme w h s = true) : (1 ≤ w ∧ w ≤ 8) ∧ (1 ≤ h ∧ h ≤ 8) ∧ s.length ≤ 6 ∧ Fo.ok s = true := by
  unfold Fo.scheme Fo.sheet at hs
  simp only [Bool.and_eq_true, beq_iff_eq] at hs
  obtain ⟨⟨⟨⟨h1, h2⟩, h3⟩, h4⟩, h5⟩ := hs
  have e1 := (Fo.side_pow h1).2
  have e2 := (Fo.side_pow h2).2
  have e3 : s.length = Fo.nX s + Fo.nY s := by
    unfold Fo.nX Fo.nY
    have := List.length_eq_countP_add_countP (p := Fo.isX) (l := s)
    simpa using this
  exact ⟨side_bd h1, side_bd h2, by omega, h3⟩
/-- A set-up. -/
def okG (u : Un) : Bool := decide (0 ≤ u.g ∧ u.g ≤ 1000000000)
def okU (l : List Un) : Bool := decide (l.length ≤ 6) && l.all okG
/-- The letter of a unit. -/
def ltU (u : Un) : UInt8 := if u.a then (if u.o then 76 else 82) else (if u.o then 84 else 66)
def scR (l : List Un) : List UInt8 := if okU l then l.map ltU else []
def scC (l : List Un) : Int := if okU l then 0 else 1
theorem ltU_unit {p : Pc} {x : UInt8} (h : Fo.isX x = true ∨ Fo.isY x = true) : ltU (unit p x) = x := by
  have e : x = 76 ∨ x = 82 ∨ x = 84 ∨ x = 66 := by
    unfold Fo.isX Fo.isY at h
    simp only [Bool.or_eq_true, beq_iff_eq] at h
    rcases h with (h | h) | (h | h) <;> simp [h]
  rcases e with rfl | rfl | rfl | rfl <;> rfl
end Su
end Go.Proofs.Ytnfnmdeiaihgnaa
