/- Numbers and their decimal texts, and where a text parts at a mark: what the readers of lengths compute. -/

import Derived.Test.YtbhofhobnbhhhaaDoorDcA
import Derived.Test.YtbhofhobnbhhhaaDoorDecs
import Derived.Lib.ParseIntBTie
namespace Go.Proofs.YtbhofhobnbhhhaaDoor

def isDig (c : UInt8) : Prop := 48 ≤ c.toNat ∧ c.toNat ≤ 57
def valFrom : Nat → List UInt8 → Nat
  | a, [] => a
  | a, c :: r => valFrom (10 * a + (c.toNat - 48)) r
def val (l : List UInt8) : Nat := valFrom 0 l
theorem valFrom_append (a : Nat) (l m : List UInt8) : valFrom a (l ++ m) = valFrom (valFrom a l) m := by
  induction l generalizing a with
  | nil => rfl
  | cons c r ih => exact ih _
theorem val_snoc (l : List UInt8) (c : UInt8) : val (l ++ [c]) = 10 * val l + (c.toNat - 48) := by
  unfold val
  rw [valFrom_append]
  rfl
theorem valFrom_lt (l : List UInt8) : ∀ a k : Nat, a < 10 ^ k → (∀ c ∈ l, isDig c) → valFrom a l < 10 ^ (k + l.length) := by
  induction l with
  | nil => intro a k h _; exact h
  | cons c r ih =>
    intro a k h hd
    have hc := hd c (List.mem_cons_self ..)
    have := ih (10 * a + (c.toNat - 48)) (k + 1) (by rw [Nat.pow_succ]; unfold isDig at hc; omega) (fun x hx => hd x (List.mem_cons_of_mem _ hx))
    rw [show k + (c :: r).length = k + 1 + r.length from by simp; omega]
    exact this
theorem val_lt (l : List UInt8) (hd : ∀ c ∈ l, isDig c) (h : l.length ≤ 10) : val l < 10000000000 := by
  have h1 := valFrom_lt l 0 0 (by omega) hd
  have h2 : 10 ^ (0 + l.length) ≤ 10 ^ 10 := Nat.pow_le_pow_right (by omega) (by omega)
  have h3 : (10 : Nat) ^ 10 = 10000000000 := by decide
  unfold val
  omega

theorem dig_toNat (d : Nat) (h : d < 10) : (UInt8.ofNat (48 + d)).toNat = 48 + d := by
  rw [UInt8.toNat_ofNat']
  omega
theorem decDigits_digs (n : Nat) : ∀ c ∈ Lib.decDigits n, isDig c := by
  induction n using Nat.strongRecOn with
  | _ n ih =>
    rw [Lib.decDigits]
    split
    · intro c hc
      rw [List.mem_singleton] at hc
      subst hc
      unfold isDig
      rw [dig_toNat n (by omega)]
      omega
    · intro c hc
      rw [List.mem_append] at hc
      rcases hc with hc | hc
      · exact ih (n / 10) (by omega) c hc
      · rw [List.mem_singleton] at hc
        subst hc
        unfold isDig
        rw [dig_toNat (n % 10) (by omega)]
        omega
theorem val_decDigits (n : Nat) : val (Lib.decDigits n) = n := by
  induction n using Nat.strongRecOn with
  | _ n ih =>
    rw [Lib.decDigits]
    split
    · show 10 * 0 + ((UInt8.ofNat (48 + n)).toNat - 48) = n
      rw [dig_toNat n (by omega)]
      omega
    · rw [val_snoc, ih (n / 10) (by omega), dig_toNat (n % 10) (by omega)]
      omega
theorem decDigits_ne (n : Nat) : Lib.decDigits n ≠ [] := by
  rw [Lib.decDigits]
  split <;> simp
theorem decDigits_len (n : Nat) (h : n < 10000000000) : (Lib.decDigits n).length ≤ 10 := by
  have := dec_size 10 n (by omega) (by omega)
  simpa [dec, ByteArray.size] using this
theorem dec_data (n : Nat) : (dec n).data.toList = Lib.decDigits n := rfl
theorem dec_eq (s : ByteArray) (n : Nat) : s = dec n ↔ s.data.toList = Lib.decDigits n := by
  constructor
  · rintro rfl; rfl
  · intro h
    obtain ⟨⟨l⟩⟩ := s
    simp at h
    subst h
    rfl

/-- What a reader of digits answers: the number and true, if the text is that of a number below 10^10; else false. -/
def DigR (s : ByteArray) (x : Int) (b : Bool) : Prop :=
  (b = true ∧ ∃ n : Nat, x = n ∧ n < 10000000000 ∧ s = dec n) ∨ (b = false ∧ ∀ n : Nat, n < 10000000000 → s ≠ dec n)
theorem DigR.len {s : ByteArray} (h : s.size < 1 ∨ 10 < s.size) (x : Int) : DigR s x false := by
  refine .inr ⟨rfl, fun n hn he => ?_⟩
  have h1 := decDigits_len n hn
  have h2 := decDigits_ne n
  subst he
  have h3 : (dec n).size = (Lib.decDigits n).length := by simp [dec, ByteArray.size]
  have h4 : 0 < (Lib.decDigits n).length := by
    rcases Nat.eq_zero_or_pos (Lib.decDigits n).length with h | h
    · exact absurd (List.eq_nil_of_length_eq_zero h) h2
    · exact h
  omega
theorem DigR.bad {s : ByteArray} {j : Nat} {c : UInt8} (hc : s.data.toList[j]? = some c) (h : ¬ isDig c) (x : Int) : DigR s x false := by
  refine .inr ⟨rfl, fun n _ he => h ?_⟩
  subst he
  exact decDigits_digs n c (List.mem_of_getElem? (by rw [← dec_data]; exact hc))
theorem DigR.yes {s : ByteArray} {n : Nat} (h : n < 10000000000) (he : dec n = s) : DigR s n true := .inl ⟨rfl, n, rfl, h, he.symm⟩
theorem DigR.no {s : ByteArray} {n : Nat} (hn : n = val s.data.toList) (he : ¬ dec n = s) (x : Int) : DigR s x false := by
  refine .inr ⟨rfl, fun m _ hm => he ?_⟩
  subst hm
  rw [hn, dec_data, val_decDigits]

/-- Where a text parts at a mark. -/
def spl (by' : UInt8) (done : List ByteArray) (cur : List UInt8) : List UInt8 → List ByteArray
  | [] => done ++ [⟨cur.toArray⟩]
  | c :: r => if c = by' then spl by' (done ++ [⟨cur.toArray⟩]) [] r else spl by' done (cur ++ [c]) r
theorem spl_none (m : UInt8) (l : List UInt8) (h : m ∉ l) : ∀ done cur, spl m done cur l = done ++ [⟨(cur ++ l).toArray⟩] := by
  induction l with
  | nil => intro done cur; simp [spl]
  | cons c r ih =>
    intro done cur
    rw [List.mem_cons, not_or] at h
    rw [spl, if_neg (fun e => h.1 e.symm), ih h.2]
    simp
theorem spl_mark (m : UInt8) (l r : List UInt8) (h : m ∉ l) : ∀ done cur, spl m done cur (l ++ m :: r) = spl m (done ++ [⟨(cur ++ l).toArray⟩]) [] r := by
  induction l with
  | nil => intro done cur; simp [spl]
  | cons c l ih =>
    intro done cur
    rw [List.mem_cons, not_or] at h
    rw [List.cons_append, spl, if_neg (fun e => h.1 e.symm), ih h.2]
    simp
theorem spl_len (m : UInt8) (l : List UInt8) : ∀ done cur, done.length + 1 ≤ (spl m done cur l).length ∧ (spl m done cur l).length ≤ done.length + 1 + l.length := by
  induction l with
  | nil => intro done cur; simp [spl]
  | cons c r ih =>
    intro done cur
    rw [spl]
    split
    · have := ih (done ++ [⟨cur.toArray⟩]) []
      simp at this ⊢
      omega
    · have := ih done (cur ++ [c])
      simp at this ⊢
      omega
/-- Two parts: the text is the one, the mark, and the other. -/
theorem spl_two (m : UInt8) (l : List UInt8) : ∀ cur p q, spl m [] cur l = [p, q] → cur ++ l = p.data.toList ++ m :: q.data.toList := by
  have one : ∀ (l : List UInt8) (a : ByteArray) cur p q, spl m [a] cur l = [p, q] → p = a ∧ q.data.toList = cur ++ l := by
    intro l
    induction l with
    | nil =>
      intro a cur p q h
      simp [spl] at h
      obtain ⟨rfl, rfl⟩ := h
      simp
    | cons c r ih =>
      intro a cur p q h
      rw [spl] at h
      split at h
      · have := (spl_len m r ([a] ++ [⟨cur.toArray⟩]) []).1
        rw [h] at this
        simp at this
      · have := ih a (cur ++ [c]) p q h
        simpa using this
  induction l with
  | nil => intro cur p q h; simp [spl] at h
  | cons c r ih =>
    intro cur p q h
    rw [spl] at h
    split at h
    · rename_i hc
      subst hc
      obtain ⟨rfl, hq⟩ := one r _ _ p q h
      simp [hq]
    · have := ih (cur ++ [c]) p q h
      simpa using this

theorem mark_not_dec (n : Nat) : (46 : UInt8) ∉ Lib.decDigits n := fun h => by
  have := decDigits_digs n _ h
  simp [isDig] at this
theorem part_eq {l l' r r' : List UInt8} {m : UInt8} (h : m ∉ l) (h' : m ∉ l') (e : l ++ m :: r = l' ++ m :: r') : l = l' ∧ r = r' := by
  induction l generalizing l' with
  | nil =>
    cases l' with
    | nil => simpa using e
    | cons c t => simp at e; exact absurd (List.mem_cons.2 (.inl e.1)) h'
  | cons c t ih =>
    cases l' with
    | nil => simp at e; exact absurd (List.mem_cons.2 (.inl e.1.symm)) h
    | cons d u =>
      rw [List.mem_cons, not_or] at h h'
      simp at e
      obtain ⟨rfl, e⟩ := e
      have := ih h.2 h'.2 e
      exact ⟨by rw [this.1], this.2⟩
end Go.Proofs.YtbhofhobnbhhhaaDoor
