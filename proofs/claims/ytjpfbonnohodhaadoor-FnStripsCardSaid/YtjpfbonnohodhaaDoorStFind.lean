/- The mathematics of finding folds: the model's search comes to what the program reckons from the lowest cell. No program is named here. -/
import Derived.Test.YtjpfbonnohodhaaDoorStMath
namespace Go.Proofs.YtjpfbonnohodhaaDoor.St

/-- The folds of the lowest cell. -/
def bot (c : Nat) : Nat → List UInt8
  | 0 => []
  | k + 1 => (if c / 2 ^ k % 2 = 1 then 76 else 82) :: bot c k
theorem bot_len (c k : Nat) : (bot c k).length = k := by
  induction k with
  | zero => rfl
  | succ k ih => simp [bot, ih]
theorem bot_lr (c k : Nat) : (bot c k).all isLR = true := by
  induction k with
  | zero => rfl
  | succ k ih =>
    simp only [bot, List.all_cons, ih, Bool.and_true]
    split <;> rfl
theorem bot_folds (c k : Nat) (h : k ≤ 6) : foldsB (bot c k) = true := by
  unfold foldsB
  rw [bot_lr, bot_len, decide_eq_true h]
  rfl
def lastC (l : List Int) : Nat := ((l.getLast?.getD 0).natAbs - 1)
set_option maxRecDepth 100000 in
theorem bot_all : ∀ l ∈ allFolds, bot (lastC (marksOf l)) l.length = l ∧ (marksOf l).length = 2 ^ l.length := by decide +kernel
theorem bot_stack {l : List UInt8} (h : foldsB l = true) : bot (lastC (stack l)) l.length = l ∧ (stack l).length = 2 ^ l.length := by
  have := bot_all l (folds_mem h)
  rw [marks_stack_all l (folds_mem h)] at this
  exact this

/-- The model's search. -/
def fnd (st : List Int) : Nat → List UInt8 → Option (List UInt8)
  | 0, _ => none
  | f + 1, s =>
    if st.length = 2 ^ s.length then (if stack s = st then some s else none)
    else if st.length < 2 ^ s.length then none
    else match fnd st f (s ++ [76]) with
      | some o => some o
      | none => fnd st f (s ++ [82])

theorem folds_snoc {s : List UInt8} {b : UInt8} (h : foldsB s = true) (h5 : s.length ≤ 5) (hb : b = 76 ∨ b = 82) : foldsB (s ++ [b]) = true := by
  simp only [foldsB, Bool.and_eq_true, decide_eq_true_eq] at h ⊢
  refine ⟨?_, by simp; omega⟩
  rw [List.all_append, h.1]
  rcases hb with rfl | rfl <;> rfl
theorem short_len {st : List Int} {s : List UInt8} (h64 : st.length ≤ 64) (h1 : ¬ st.length = 2 ^ s.length) (h2 : ¬ st.length < 2 ^ s.length) (h6 : s.length ≤ 6) : s.length ≤ 5 := by
  rcases Nat.lt_or_ge s.length 6 with h | h
  · omega
  · have : s.length = 6 := by omega
    rw [this] at h1 h2
    omega
theorem fnd_sound (st : List Int) (h64 : st.length ≤ 64) (f : Nat) : ∀ s, foldsB s = true → ∀ r, fnd st f s = some r → stack r = st ∧ foldsB r = true := by
  induction f with
  | zero => intro s _ r h; simp [fnd] at h
  | succ f ih =>
    intro s hs r h
    have h6 := folds_len hs
    rw [fnd] at h
    split at h
    · split at h
      · injection h with h
        subst h
        exact ⟨by assumption, hs⟩
      · cases h
    · split at h
      · cases h
      · have h5 := short_len h64 (by assumption) (by assumption) h6
        cases hL : fnd st f (s ++ [76]) with
        | some o =>
          rw [hL] at h
          injection h with h
          subst h
          exact ih _ (folds_snoc hs h5 (.inl rfl)) _ hL
        | none =>
          rw [hL] at h
          exact ih _ (folds_snoc hs h5 (.inr rfl)) _ h
theorem fnd_complete (st : List Int) (j : Nat) : ∀ (f : Nat) (s w : List UInt8), w.length = j → j < f → foldsB (s ++ w) = true → stack (s ++ w) = st → (fnd st f s).isSome = true := by
  induction j with
  | zero =>
    intro f s w hw hf hs h
    obtain rfl := List.eq_nil_of_length_eq_zero hw
    rw [List.append_nil] at hs h
    obtain ⟨f, rfl⟩ : ∃ g, f = g + 1 := ⟨f - 1, by omega⟩
    rw [fnd, if_pos (by rw [← h]; exact (bot_stack hs).2), if_pos h]
    rfl
  | succ j ih =>
    intro f s w hw hf hs h
    obtain ⟨f, rfl⟩ : ∃ g, f = g + 1 := ⟨f - 1, by omega⟩
    obtain ⟨b, w, rfl⟩ : ∃ b w', w = b :: w' := by
      cases w with
      | nil => simp at hw
      | cons b w => exact ⟨b, w, rfl⟩
    have hlen : st.length = 2 ^ (s.length + (j + 1)) := by
      rw [← h, (bot_stack hs).2, List.length_append, hw]
    have hgt : 2 ^ s.length < st.length := by
      rw [hlen]
      exact Nat.pow_lt_pow_right (by omega) (by omega)
    have hb := folds_all hs b (by simp)
    have e : s ++ b :: w = s ++ [b] ++ w := by simp
    rw [e] at hs h
    rw [fnd, if_neg (by omega), if_neg (by omega)]
    have := ih f (s ++ [b]) w (by simpa using hw) (by omega) hs h
    rcases hb with rfl | rfl
    · rw [Option.isSome_iff_exists] at this
      obtain ⟨o, ho⟩ := this
      rw [ho]
      rfl
    · cases fnd st f (s ++ [76]) with
      | some o => rfl
      | none => exact this
/-- What both answer. -/
def ans (st : List Int) : Option (List UInt8) := if stack (bot (lastC st) (Nat.log2 st.length)) = st then some (bot (lastC st) (Nat.log2 st.length)) else none
theorem fnd_ans (st : List Int) (h0 : 0 < st.length) (h64 : st.length ≤ 64) : fnd st 7 [] = ans st := by
  have hk : Nat.log2 st.length ≤ 6 := by
    have := (Nat.log2_lt (by omega : st.length ≠ 0)).2 (show st.length < 2 ^ 7 by omega)
    omega
  unfold ans
  cases hf : fnd st 7 [] with
  | some r =>
    obtain ⟨h1, h2⟩ := fnd_sound st h64 7 [] (by decide) r hf
    have hb := bot_stack h2
    rw [h1] at hb
    have hlg : Nat.log2 st.length = r.length := by rw [hb.2, Nat.log2_two_pow]
    rw [hlg, hb.1, if_pos h1]
  | none =>
    by_cases h : stack (bot (lastC st) (Nat.log2 st.length)) = st
    · have hfo := bot_folds (lastC st) _ hk
      have := fnd_complete st (Nat.log2 st.length) 7 [] (bot (lastC st) (Nat.log2 st.length)) (bot_len _ _) (by omega) hfo h
      rw [hf] at this
      cases this
    · rw [if_neg h]
end Go.Proofs.YtjpfbonnohodhaaDoor.St
