/- The labels of a book's pages are pairwise different; what a search finds. -/
import Derived.Test.YtoanopgafihjiaaDoorPol
namespace Go.Proofs.YtoanopgafihjiaaDoor
open Go.RowKit Pg Ro

def dval (l : List UInt8) : Nat := l.foldl (fun a c => a * 10 + (c.toNat - 48)) 0
theorem dval_snoc (l : List UInt8) (c : UInt8) : dval (l ++ [c]) = dval l * 10 + (c.toNat - 48) := by
  unfold dval
  rw [List.foldl_append]
  rfl
theorem dig_nat : ∀ k : Nat, k < 10 → (UInt8.ofNat (48 + k)).toNat - 48 = k := by decide
theorem dig_lt : ∀ k : Nat, k < 10 → (UInt8.ofNat (48 + k)).toNat < 58 := by decide
theorem dval_dec (n : Nat) : dval (Lib.decDigits n) = n := by
  induction n using Nat.strongRecOn with
  | _ n ih =>
    rw [Lib.decDigits]
    split
    · rename_i h
      have := dig_nat n h
      show 0 * 10 + _ = n
      omega
    · rename_i h
      rw [dval_snoc, ih (n / 10) (by omega), dig_nat (n % 10) (by omega)]
      omega
theorem dec_lt (n : Nat) : ∀ c ∈ Lib.decDigits n, c.toNat < 58 := by
  induction n using Nat.strongRecOn with
  | _ n ih =>
    rw [Lib.decDigits]
    split
    · rename_i h
      intro c hc
      rw [List.mem_singleton] at hc
      rw [hc]
      exact dig_lt n h
    · rename_i h
      intro c hc
      rcases List.mem_append.1 hc with hc | hc
      · exact ih (n / 10) (by omega) c hc
      · rw [List.mem_singleton] at hc
        rw [hc]
        exact dig_lt (n % 10) (by omega)
theorem dec_inj {n m : Nat} (h : dec n = dec m) : n = m := by
  have h1 := congrArg (fun s => s.data.toList) h
  simp only [dec] at h1
  rw [← dval_dec n, ← dval_dec m, h1]
theorem labB_inj {s p q : Int} (hs : s ≤ 4000) (hp : 1 ≤ p) (hq : 1 ≤ q) (h : labB s p = labB s q) : p = q := by
  have key : ∀ a b : Int, a < s → 1 ≤ a → ¬ b < s → labB s a = labB s b → False := fun a b ha h1 hb e => by
    unfold labB at e
    rw [if_pos ha, if_neg hb] at e
    have e1 := congrArg (fun s => s.data.toList) e
    simp only [St_list, dec] at e1
    unfold romI at e1
    rw [if_pos ⟨h1, by omega⟩] at e1
    have hne := roman_ne a.toNat (by omega) (by omega)
    obtain ⟨c, t, hc⟩ := List.exists_cons_of_ne_nil hne
    have h58 := roman_big a.toNat (by omega) c (by rw [hc]; exact List.mem_cons_self ..)
    have := dec_lt (b - s + 1).toNat c (by rw [← e1, hc]; exact List.mem_cons_self ..)
    omega
  by_cases h1 : p < s
  · by_cases h2 : q < s
    · unfold labB at h
      rw [if_pos h1, if_pos h2] at h
      have e1 := congrArg (fun s => s.data.toList) h
      simp only [St_list] at e1
      unfold romI at e1
      rw [if_pos ⟨hp, by omega⟩, if_pos ⟨hq, by omega⟩] at e1
      have := roman_inj _ _ (by omega) (by omega) e1
      omega
    · exact (key p q h1 hp h2 h).elim
  · by_cases h2 : q < s
    · exact (key q p h2 hq h1 h.symm).elim
    · unfold labB at h
      rw [if_neg h1, if_neg h2] at h
      have := dec_inj h
      omega
theorem fnd_is {s : Int} {t : ByteArray} {n : Nat} {a p : Int} (h : fnd s t n a = some p) : labB s p = t ∧ a ≤ p ∧ p < a + n := by
  induction n generalizing a with
  | zero => cases h
  | succ n ih =>
    rw [fnd] at h
    split at h
    · rename_i he
      injection h with h
      subst h
      exact ⟨he, by omega, by omega⟩
    · obtain ⟨h1, h2, h3⟩ := ih h
      exact ⟨h1, by omega, by omega⟩
theorem fnd_has {s : Int} {n : Nat} {a p : Int} (hs : s ≤ 4000) (ha : 1 ≤ a) (h1 : a ≤ p) (h2 : p < a + n) : fnd s (labB s p) n a = some p := by
  induction n generalizing a with
  | zero => omega
  | succ n ih =>
    rw [fnd]
    split
    · rename_i he
      rw [labB_inj hs ha (by omega) he]
    · rename_i he
      have : a ≠ p := fun e => he (by rw [e])
      exact ih (by omega) (by omega) (by omega)
theorem up_le (r : Bool) (f : Int) (h : f ≤ 40) : up r (f + 1) ≤ 4000 := by
  have := up_ge r (f + 1)
  omega
/-- A page that is found has the label; a label is found on its page. -/
theorem po_back (r : Bool) (f : Int) (l : List Int) (t : ByteArray) (h : poC r f l t = 0) : cpC r f l (poR r f l t) = 0 ∧ loR r f l (poR r f l t) = t := by
  by_cases ho : okB f l = true
  · unfold poC at h
    rw [if_pos ho] at h
    cases hp : poF r f l t with
    | none => rw [hp] at h; simp at h
    | some p =>
      obtain ⟨h1, h2, h3⟩ := fnd_is hp
      rw [(po_found ho hp).1]
      have hc : cpC r f l p = 0 := by
        unfold cpC
        rw [if_pos ho, if_pos ⟨h2, by omega⟩]
      exact ⟨hc, by unfold loR; rw [if_pos hc, h1]⟩
  · unfold poC at h
    rw [if_neg ho] at h
    cases h
theorem po_way (r : Bool) (f : Int) (l : List Int) (p : Int) (h : cpC r f l p = 0) : poC r f l (loR r f l p) = 0 ∧ poR r f l (loR r f l p) = p := by
  have hl : loR r f l p = labB (up r (f + 1)) p := if_pos h
  by_cases ho : okB f l = true
  · unfold cpC at h
    rw [if_pos ho] at h
    have hp : 1 ≤ p ∧ p ≤ stop r (f + 1) l - 1 := by
      refine Classical.byContradiction fun hn => ?_
      rw [if_neg hn] at h
      cases h
    have hf : f ≤ 40 := (of_decide_eq_true ho : okP f l).1.2
    have hF : poF r f l (loR r f l p) = some p := by
      rw [hl]
      exact fnd_has (up_le r f hf) (Int.le_refl _) hp.1 (by omega)
    exact ⟨(po_found ho hF).2, (po_found ho hF).1⟩
  · unfold cpC at h
    rw [if_neg ho] at h
    cases h
theorem romI_len2 (n : Int) : (romI n).length ≤ 15 := by
  unfold romI
  split
  · rename_i h
    exact roman_len _ (by omega)
  · simp
theorem lo_size (r : Bool) (f : Int) (l : List Int) (p : Int) (h : p ≤ 1002002) : (loR r f l p).size ≤ 40 := by
  unfold loR
  split
  · unfold labB
    split
    · rw [St_size]
      have := romI_len2 p
      omega
    · rename_i hc hs
      by_cases hs0 : 0 ≤ up r (f + 1)
      · have := dec_size 8 (p - up r (f + 1) + 1).toNat (by omega) (by omega)
        omega
      · exfalso
        unfold cpC at hc
        split at hc
        · rename_i ho
          have hf : 0 ≤ f := (of_decide_eq_true ho : okP f l).1.1
          have := up_ge r (f + 1)
          omega
        · cases hc
  · simp [ByteArray.size]
end Go.Proofs.YtoanopgafihjiaaDoor
