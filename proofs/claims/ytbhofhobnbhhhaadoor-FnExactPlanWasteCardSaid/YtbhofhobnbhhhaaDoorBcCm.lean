/- Mathematics of chapter 12: what counting the pieces of a plan knows. -/
import Derived.Test.YtbhofhobnbhhhaaDoorBcSm
import Derived.Test.YtbhofhobnbhhhaaDoorBcBp
namespace Go.Proofs.YtbhofhobnbhhhaaDoor
open Go.RowKit
set_option linter.unusedVariables false
namespace Bc
/-- One more of each of these kinds. -/
def addP (cs : List Int) (p : List Nat) : List Int := p.foldl (fun c k => c.set k (c.getD k 0 + 1)) cs
theorem addP_append (cs : List Int) (p q : List Nat) : addP cs (p ++ q) = addP (addP cs p) q := List.foldl_append ..
theorem addP_len (p : List Nat) : ∀ cs : List Int, (addP cs p).length = cs.length := by
  induction p with
  | nil => intro cs; rfl
  | cons k p ih => intro cs; show (addP (cs.set k _) p).length = _; rw [ih, List.length_set]
/-- No plan is of this form. -/
theorem no_letter {ks : List Kd} (hk : ks.length ≤ 6) {W H : Nat} {c : UInt8} (h46 : c ≠ 46) (h : ∀ k x, ks[k]? = some x → c.toNat = 97 + k → ¬ (x.w ≤ (W : Int) ∧ x.h ≤ (H : Int))) : ∀ p, ¬ PL ks W H [c] p := by
  intro p hp
  generalize hs : ([c] : List UInt8) = s at hp
  cases hp with
  | dot => injection hs with hs _; exact h46 hs
  | one _ _ k x hx hw hh =>
    have h1 := (List.getElem?_eq_some_iff.1 hx).1
    injection hs with hs _
    exact h k x hx (by rw [hs]; exact ltr_nat (by omega)) ⟨hw, hh⟩
  | ver _ _ x a b => have := cut_long 124 x a b; rw [← hs] at this; simp at this
  | hor _ _ x a b => have := cut_long 45 x a b; rw [← hs] at this; simp at this
theorem no_head {ks : List Kd} {W H : Nat} {s : List UInt8} (hs : s.length ≠ 1) (h1 : s[0]? ≠ some 124) (h2 : s[0]? ≠ some 45) : ∀ p, ¬ PL ks W H s p := by
  intro p hp
  cases hp with
  | dot => simp at hs
  | one => simp at hs
  | ver _ _ x a b => exact h1 rfl
  | hor _ _ x a b => exact h2 rfl
theorem no_split {ks : List Kd} (hk : ks.length ≤ 6) {W H : Nat} (hW : W ≤ 40) (hH : H ≤ 40) {s : List UInt8} (hs : s.length ≠ 1) (h : ∀ (c : UInt8) (x : Nat) (a' b' : List UInt8), x < 10000000000 → Bal a' → Bal b' → s ≠ cutL c x a' b') : ∀ p, ¬ PL ks W H s p := by
  intro p hp
  cases hp with
  | dot => simp at hs
  | one => simp at hs
  | ver _ _ x a b p q h1 h2 ha hb => exact h 124 x a b (by omega) (ha.bal hk) (hb.bal hk) rfl
  | hor _ _ x a b p q h1 h2 ha hb => exact h 45 x a b (by omega) (ha.bal hk) (hb.bal hk) rfl
/-- A plan that is such a cut. -/
theorem PL.of_ver {ks : List Kd} (hk : ks.length ≤ 6) {W H x : Nat} {s a b : List UInt8} {p : List Nat} (h : PL ks W H s p) (hl : s.length ≠ 1) (hc : s[0]? = some 124)
    (hu : ∀ (c' : UInt8) (x' : Nat) (a' b' : List UInt8), Bal a' → Bal b' → s = cutL c' x' a' b' → x' = x ∧ a' = a ∧ b' = b) : 1 ≤ x ∧ x < W ∧ ∃ p1 p2, PL ks x H a p1 ∧ PL ks (W - x) H b p2 ∧ p = p1 ++ p2 := by
  cases h with
  | dot => simp at hl
  | one => simp at hl
  | ver _ _ x' a' b' p q h1 h2 ha hb =>
    obtain ⟨rfl, rfl, rfl⟩ := hu 124 x' a' b' (ha.bal hk) (hb.bal hk) rfl
    exact ⟨h1, h2, p, q, ha, hb, rfl⟩
  | hor _ _ x' a' b' => exact absurd hc (by rw [cut_head]; decide)
theorem PL.of_hor {ks : List Kd} (hk : ks.length ≤ 6) {W H x : Nat} {s a b : List UInt8} {p : List Nat} (h : PL ks W H s p) (hl : s.length ≠ 1) (hc : s[0]? = some 45)
    (hu : ∀ (c' : UInt8) (x' : Nat) (a' b' : List UInt8), Bal a' → Bal b' → s = cutL c' x' a' b' → x' = x ∧ a' = a ∧ b' = b) : 1 ≤ x ∧ x < H ∧ ∃ p1 p2, PL ks W x a p1 ∧ PL ks W (H - x) b p2 ∧ p = p1 ++ p2 := by
  cases h with
  | dot => simp at hl
  | one => simp at hl
  | ver _ _ x' a' b' => exact absurd hc (by rw [cut_head]; decide)
  | hor _ _ x' a' b' p q h1 h2 ha hb =>
    obtain ⟨rfl, rfl, rfl⟩ := hu 45 x' a' b' (ha.bal hk) (hb.bal hk) rfl
    exact ⟨h1, h2, p, q, ha, hb, rfl⟩
theorem cut_parts_len (c : UInt8) (x : Nat) (a b : List UInt8) : a.length ≤ (cutL c x a b).length ∧ b.length ≤ (cutL c x a b).length := by
  unfold cutL
  simp only [List.length_cons, List.length_append, List.length_nil]
  omega
/-- What is known of the counts and the answer. -/
structure CtP (ks : List Kd) (W H : Nat) (s : List UInt8) (M : Int) (cs cs' : List Int) (b : Bool) : Prop where
  yes : b = true → ∃ p, PL ks W H s p ∧ cs' = addP cs p
  no : b = false → ∀ p, ¬ PL ks W H s p
  bd : ∀ x ∈ cs', 0 ≤ x ∧ x ≤ M + (W : Int) * H
theorem area_split (x W H : Nat) (h : x ≤ W) : (x : Int) * H + ((W - x : Nat) : Int) * H = (W : Int) * H := by have := mul_split 1 x W H h; omega
theorem area_split' (y W H : Nat) (h : y ≤ H) : (W : Int) * y + (W : Int) * ((H - y : Nat) : Int) = (W : Int) * H := by have := mul_split' 1 y W H h; omega
end Bc
end Go.Proofs.YtbhofhobnbhhhaaDoor
