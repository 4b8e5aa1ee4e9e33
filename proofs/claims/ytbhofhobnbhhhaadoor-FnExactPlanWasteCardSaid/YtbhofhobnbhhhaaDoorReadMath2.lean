/- What the program's reader of lengths computes: it parts the text at its first mark and reads both parts as one number. -/
import Derived.Test.YtbhofhobnbhhhaaDoorReadMath
import Derived.Lib.IndexMore
namespace Go.Proofs.YtbhofhobnbhhhaaDoor

theorem index_mark (l r : List UInt8) (m : UInt8) (h : m ∉ l) : Lib.index (l ++ m :: r) [m] = l.length := by
  induction l with
  | nil => simp [Lib.index, List.isPrefixOf]
  | cons c l ih =>
    rw [List.mem_cons, not_or] at h
    have hp : List.isPrefixOf [m] (c :: (l ++ m :: r)) = false := by
      simp [List.isPrefixOf]
      exact h.1
    rw [List.cons_append, Lib.index, hp, ih h.2]
    have : ((l.length : Int) == -1) = false := by rw [beq_eq_false_iff_ne]; omega
    simp [this]
theorem cut_mark (l r : List UInt8) (m : UInt8) (h : m ∉ l) : Lib.cut (l ++ m :: r) [m] = (l, r, true) := by
  unfold Lib.cut
  rw [index_mark l r m h, if_pos (by omega)]
  simp
theorem cut_len (l sep : List UInt8) : (Lib.cut l sep).1.length + (Lib.cut l sep).2.1.length ≤ l.length := by
  unfold Lib.cut
  split
  · simp only [List.length_take, List.length_drop]
    omega
  · simp
theorem cut_nil : Lib.cut [] [46] = ([], [], false) := by decide

theorem parse_digs (l : List UInt8) : ∀ acc k : Nat, acc < 10 ^ k → k + l.length ≤ 18 → (∀ c ∈ l, isDig c) → Lib.parseUint10 acc l = .ok (valFrom acc l) := by
  induction l with
  | nil => intro acc k _ _ _; rfl
  | cons c r ih =>
    intro acc k ha hk hd
    simp only [List.length_cons] at hk
    have hc := hd c (List.mem_cons_self ..)
    have h17 : 10 ^ k ≤ 10 ^ 17 := Nat.pow_le_pow_right (by omega) (by omega)
    have e17 : (10 : Nat) ^ 17 = 100000000000000000 := by decide
    unfold isDig at hc
    rw [Lib.parseUint10, if_pos hc, if_neg (by omega), if_neg (by omega), ih _ (k + 1) (by rw [Nat.pow_succ]; omega) (by omega) (fun x hx => hd x (List.mem_cons_of_mem _ hx)), Nat.mul_comm acc 10]
    rfl
theorem atoi_digs (l : List UInt8) (h0 : l ≠ []) (h : l.length ≤ 18) (hd : ∀ c ∈ l, isDig c) : Lib.atoiAll l = .ok (val l) := by
  cases l with
  | nil => exact absurd rfl h0
  | cons c r =>
    have hc := hd c (List.mem_cons_self ..)
    unfold isDig at hc
    have hv : val (c :: r) < 10 ^ 18 := by
      have h1 := valFrom_lt (c :: r) 0 0 (by omega) hd
      have h2 : 10 ^ (0 + (c :: r).length) ≤ 10 ^ 18 := Nat.pow_le_pow_right (by omega) (by omega)
      unfold val
      omega
    have hm : Lib.parseMag (c :: r) = .ok (val (c :: r)) := by
      unfold Lib.parseMag
      rw [if_neg (by simp), parse_digs _ 0 0 (by omega) (by omega) hd]
      rfl
    simp only [Lib.atoiAll]
    rw [if_neg (show ¬ (c.toNat = 43 ∨ c.toNat = 45) from by omega), hm]
    simp only
    rw [if_neg (by omega), if_neg (by omega), if_neg (by omega)]
theorem atoi_in (l : List UInt8) (v : Int) (h : Lib.atoiAll l = .ok v) : -9223372036854775808 ≤ v ∧ v ≤ 9223372036854775807 := by
  cases l with
  | nil => cases h
  | cons c r =>
    simp only [Lib.atoiAll] at h
    split at h
    · cases h
    · cases h
    · split at h
      · cases h
      · split at h
        · cases h
        · rename_i h1 h2
          injection h with h
          subst h
          split <;> omega

end Go.Proofs.YtbhofhobnbhhhaaDoor
