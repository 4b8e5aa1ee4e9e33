/- The mathematics of thickness and creep: creeps in tenths, margins, nested sheets, blocks, spines, and the thicknesses that make one block. No program is named here. -/
import Derived.Test.YtamnhbambklmkaaOrd2
namespace Go.Proofs.Ytamnhbambklmkaa
namespace Tk
def okT (t : Int) : Bool := decide (1 ≤ t ∧ t ≤ 2000)
def okN (n : Int) : Bool := decide (1 ≤ n ∧ n ≤ 64)
def fits (n t : Int) : Bool := okN n && okT t
theorem fits_out {n t : Int} (h : fits n t = true) : (1 ≤ n ∧ n ≤ 64) ∧ 1 ≤ t ∧ t ≤ 2000 := by
  unfold fits okN okT at h
  simpa using h
theorem fits_mk {n t : Int} (h1 : 1 ≤ n) (h2 : n ≤ 64) (h3 : 1 ≤ t) (h4 : t ≤ 2000) : fits n t = true := by
  unfold fits okN okT
  simp [h1, h2, h3, h4]
theorem fits_no {n t : Int} (h : fits n t = false) : (n < 1 ∨ 64 < n) ∨ ((1 ≤ n ∧ n ≤ 64) ∧ (t < 1 ∨ 2000 < t)) := by
  by_cases h1 : 1 ≤ n ∧ n ≤ 64
  · right
    refine ⟨h1, ?_⟩
    by_cases h2 : t < 1
    · exact .inl h2
    · by_cases h3 : 2000 < t
      · exact .inr h3
      · rw [fits_mk h1.1 h1.2 (by omega) (by omega)] at h
        cases h
  · left
    omega

/-- The creep of a sheet. -/
def coOk (n k t : Int) : Bool := fits n t && decide (0 ≤ k ∧ k < n)
def coR (n k t : Int) : Int := if coOk n k t = true then k * t else 0
def coC (n k t : Int) : Int := if coOk n k t = true then 0 else 2
theorem co_out {n k t : Int} (h : coOk n k t = true) : ((1 ≤ n ∧ n ≤ 64) ∧ 1 ≤ t ∧ t ≤ 2000) ∧ 0 ≤ k ∧ k < n := by
  unfold coOk at h
  rw [Bool.and_eq_true] at h
  exact ⟨fits_out h.1, of_decide_eq_true h.2⟩
theorem co_mk {n k t : Int} (h : fits n t = true) (h1 : 0 ≤ k) (h2 : k < n) : coOk n k t = true := by
  unfold coOk
  simp [h, h1, h2]
theorem co_cases {n k t : Int} (h : coOk n k t = false) : fits n t = false ∨ (fits n t = true ∧ (k < 0 ∨ n ≤ k)) := by
  cases hf : fits n t
  · exact .inl rfl
  · right
    refine ⟨rfl, ?_⟩
    by_cases h1 : k < 0
    · exact .inl h1
    · by_cases h2 : n ≤ k
      · exact .inr h2
      · rw [co_mk hf (by omega) (by omega)] at h
        cases h
theorem co_no {n k t r c : Int} (h : coOk n k t = false) (hr : coR n k t = r) (hc : coC n k t = c) : r = 0 ∧ c = 2 := by
  unfold coR at hr
  unfold coC at hc
  rw [h] at hr hc
  exact ⟨hr.symm, hc.symm⟩
theorem co_yes {n k t r c : Int} (h : coOk n k t = true) (hr : coR n k t = r) (hc : coC n k t = c) : k * t = r ∧ c = 0 := by
  unfold coR at hr
  unfold coC at hc
  rw [h] at hr hc
  exact ⟨hr, hc.symm⟩
theorem mul_bd {k t : Int} (h0 : 0 ≤ k) (h1 : k ≤ 64) (h2 : 1 ≤ t) (h3 : t ≤ 2000) : ∃ x, k * t = x ∧ 0 ≤ x ∧ x ≤ 128000 :=
  ⟨_, rfl, Int.mul_nonneg h0 (by omega), by
    have a := Int.mul_le_mul h1 h3 (by omega) (by omega)
    omega⟩

/-- Micrometres as tenths of a millimetre. -/
def tn (x : Int) : Int := (x + 50) / 100
theorem tn_bd {x : Int} (h0 : 0 ≤ x) (h1 : x ≤ 128000) : 0 ≤ tn x ∧ tn x ≤ 1280 := by
  unfold tn
  omega
def cps (t : Int) (m : Nat) : List Int := (List.range m).map fun j : Nat => tn ((j : Int) * t)
theorem cps_len (t : Int) (m : Nat) : (cps t m).length = m := by simp [cps]
theorem cps_next (t : Int) (m : Nat) : cps t (m + 1) = cps t m ++ [tn ((m : Int) * t)] := by simp [cps, List.range_succ]
theorem cps_at (t : Int) (m k : Nat) (h : k < m) : (cps t m)[k]? = some (tn ((k : Int) * t)) := by simp [cps, h]
theorem cps_zero (t : Int) : cps t 0 = [] := rfl
def ctR (n t : Int) : List Int := if fits n t = true then cps t n.toNat else []
def ctC (n t : Int) : Int := if fits n t = true then 0 else 2
theorem ct_no {n t c : Int} {R : List Int} (h : fits n t = false) (hr : ctR n t = R) (hc : ctC n t = c) : R = [] ∧ c = 2 := by
  unfold ctR at hr
  unfold ctC at hc
  rw [h] at hr hc
  exact ⟨hr.symm, hc.symm⟩
theorem ct_yes {t c : Int} {N : Nat} {R : List Int} (h : fits (N : Int) t = true) (hr : ctR (N : Int) t = R) (hc : ctC (N : Int) t = c) : R = cps t N ∧ c = 0 := by
  unfold ctR at hr
  unfold ctC at hc
  rw [h] at hr hc
  exact ⟨by simpa using hr.symm, hc.symm⟩
theorem ct_step {t : Int} {N k : Nat} (hk : k < N) : (cps t k ++ List.replicate (N - k) 0).set k (tn ((k : Int) * t)) = cps t (k + 1) ++ List.replicate (N - (k + 1)) 0 := by
  rw [show N - k = (N - (k + 1)) + 1 from by omega, List.replicate_succ, set_mid _ _ _ _ _ (cps_len t k), cps_next]
  simp

/-- The creep of the innermost sheet. -/
def tlR (n t : Int) : Int := if fits n t = true then (n - 1) * t else 0
def tlC (n t : Int) : Int := if fits n t = true then 0 else 2
theorem tl_co (n m t : Int) (h : fits n t = false ∨ m = n - 1) : coR n m t = tlR n t ∧ coC n m t = tlC n t := by
  unfold coR coC tlR tlC coOk
  cases hf : fits n t
  · simp
  · rcases h with h | h
    · rw [hf] at h; cases h
    · subst h
      have := fits_out hf
      simp
      omega

/-- The margins that are printed. -/
def mgs (t m : Int) (N : Nat) : List Int := (List.range N).map fun j : Nat => m - tn ((j : Int) * t)
theorem mgs_len (t m : Int) (N : Nat) : (mgs t m N).length = N := by simp [mgs]
theorem mgs_next (t m : Int) (N : Nat) : mgs t m (N + 1) = mgs t m N ++ [m - tn ((N : Int) * t)] := by simp [mgs, List.range_succ]
theorem mgs_at (t m : Int) (N k : Nat) (h : k < N) : (mgs t m N)[k]? = some (m - tn ((k : Int) * t)) := by simp [mgs, h]
def mgIn (n t m : Int) : Bool := fits n t && decide (0 ≤ m ∧ m ≤ 1000000000)
def mgB (t m : Int) (N : Nat) : Bool := decide (∀ j, j < N → tn ((j : Int) * t) ≤ m)
def mgR (n t m : Int) : List Int := if mgIn n t m = true then if mgB t m n.toNat = true then mgs t m n.toNat else [] else []
def mgC (n t m : Int) : Int := if mgIn n t m = true then if mgB t m n.toNat = true then 0 else 5 else 2
theorem mg_out {n t m : Int} (h : mgIn n t m = true) : fits n t = true ∧ 0 ≤ m ∧ m ≤ 1000000000 := by
  unfold mgIn at h
  simpa using h
theorem mg_mk {n t m : Int} (h : fits n t = true) (h0 : 0 ≤ m) (h1 : m ≤ 1000000000) : mgIn n t m = true := by
  unfold mgIn
  simp [h, h0, h1]
theorem mg_cases {n t m : Int} (h : mgIn n t m = false) : fits n t = false ∨ (fits n t = true ∧ (m < 0 ∨ 1000000000 < m)) := by
  cases hf : fits n t
  · exact .inl rfl
  · right
    refine ⟨rfl, ?_⟩
    by_cases h1 : m < 0
    · exact .inl h1
    · by_cases h2 : 1000000000 < m
      · exact .inr h2
      · rw [mg_mk hf (by omega) (by omega)] at h
        cases h
theorem mg_no {n t m c : Int} {R : List Int} (h : mgIn n t m = false) (hr : mgR n t m = R) (hc : mgC n t m = c) : R = [] ∧ c = 2 := by
  unfold mgR at hr
  unfold mgC at hc
  rw [h] at hr hc
  exact ⟨hr.symm, hc.symm⟩
theorem mg_bad {t m c : Int} {N k : Nat} {R : List Int} (h : mgIn (N : Int) t m = true) (hk : k < N) (hm : m < tn ((k : Int) * t)) (hr : mgR (N : Int) t m = R) (hc : mgC (N : Int) t m = c) : R = [] ∧ c = 5 := by
  have hb : mgB t m N = false := decide_eq_false (fun hh => by have := hh k hk; omega)
  unfold mgR at hr
  unfold mgC at hc
  rw [h] at hr hc
  simp [hb] at hr hc
  exact ⟨hr, hc.symm⟩
theorem mg_yes {t m c : Int} {N : Nat} {R : List Int} (h : mgIn (N : Int) t m = true) (hm : ∀ j, j < N → tn ((j : Int) * t) ≤ m) (hr : mgR (N : Int) t m = R) (hc : mgC (N : Int) t m = c) : R = mgs t m N ∧ c = 0 := by
  have hb : mgB t m N = true := decide_eq_true hm
  unfold mgR at hr
  unfold mgC at hc
  rw [h] at hr hc
  simp [hb] at hr hc
  exact ⟨hr.symm, hc.symm⟩
/-- What a code that is 0 says of margins. -/
theorem mg_zero {n t m : Int} (h : mgC n t m = 0) : fits n t = true ∧ mgR n t m = mgs t m n.toNat := by
  unfold mgC at h
  by_cases h1 : mgIn n t m = true
  · rw [if_pos h1] at h
    by_cases h2 : mgB t m n.toNat = true
    · exact ⟨(mg_out h1).1, by unfold mgR; rw [if_pos h1, if_pos h2]⟩
    · rw [if_neg h2] at h; cases h
  · rw [if_neg h1] at h; cases h

/-- The greatest number of nested sheets that keeps a limit. -/
def mnOk (t l : Int) : Bool := okT t && decide (0 ≤ l ∧ l ≤ 1000000000)
def mnR (t l : Int) : Int := if mnOk t l = true then min 64 (l / t + 1) else 0
def mnC (t l : Int) : Int := if mnOk t l = true then 0 else 2
theorem mn_out {t l : Int} (h : mnOk t l = true) : (1 ≤ t ∧ t ≤ 2000) ∧ 0 ≤ l ∧ l ≤ 1000000000 := by
  unfold mnOk okT at h
  simpa using h
theorem mn_mk {t l : Int} (h : 1 ≤ t ∧ t ≤ 2000) (h1 : 0 ≤ l ∧ l ≤ 1000000000) : mnOk t l = true := by
  unfold mnOk okT
  simp [h, h1]
theorem mn_cases {t l : Int} (h : mnOk t l = false) : (t < 1 ∨ 2000 < t) ∨ ((1 ≤ t ∧ t ≤ 2000) ∧ (l < 0 ∨ 1000000000 < l)) := by
  by_cases h1 : 1 ≤ t ∧ t ≤ 2000
  · right
    refine ⟨h1, ?_⟩
    by_cases h2 : 0 ≤ l ∧ l ≤ 1000000000
    · rw [mn_mk h1 h2] at h; cases h
    · omega
  · left
    omega
theorem mn_no {t l r c : Int} (h : mnOk t l = false) (hr : mnR t l = r) (hc : mnC t l = c) : r = 0 ∧ c = 2 := by
  unfold mnR at hr
  unfold mnC at hc
  rw [h] at hr hc
  exact ⟨hr.symm, hc.symm⟩
theorem mn_yes {t l r c : Int} (h : mnOk t l = true) (hr : mnR t l = r) (hc : mnC t l = c) : r = min 64 (l / t + 1) ∧ c = 0 := by
  unfold mnR at hr
  unfold mnC at hc
  rw [h] at hr hc
  exact ⟨hr.symm, hc.symm⟩
/-- The number that is told keeps the limit, and one more does not. -/
theorem mn_best {t l r : Int} (h : mnOk t l = true) (hr : r = min 64 (l / t + 1)) : 1 ≤ r ∧ r ≤ 64 ∧ (r - 1) * t ≤ l ∧ (r < 64 → l < r * t) := by
  obtain ⟨⟨h1, h2⟩, h3, h4⟩ := mn_out h
  have a0 := Int.ediv_nonneg h3 (show 0 ≤ t by omega)
  have a1 := Int.mul_ediv_add_emod l t
  have a2 := Int.emod_nonneg l (show t ≠ 0 by omega)
  have a3 := Int.emod_lt_of_pos l (show 0 < t by omega)
  obtain ⟨q, hq⟩ : ∃ q, l / t = q := ⟨_, rfl⟩
  rw [hq] at hr a0 a1
  have b1 : 1 ≤ r := by omega
  have b2 : r ≤ 64 := by omega
  refine ⟨b1, b2, ?_, fun h64 => ?_⟩
  · have b3 : r - 1 ≤ q := by omega
    have := Int.mul_le_mul_of_nonneg_right b3 (show 0 ≤ t by omega)
    rw [Int.mul_comm q t] at this
    omega
  · have b3 : r = q + 1 := by omega
    rw [b3, Int.add_mul, Int.mul_comm q t]
    omega

/-- Blocks and spines. -/
def okP (p : Int) : Bool := decide (1 ≤ p ∧ p ≤ 4096)
def leaves (p : Int) : Int := (p + 1) / 2
def bkOk (p t : Int) : Bool := okP p && okT t
def bkR (p t : Int) : Int := if bkOk p t = true then leaves p * t else 0
def bkC (p t : Int) : Int := if bkOk p t = true then 0 else 2
theorem leaves_bd {p : Int} (h : 1 ≤ p ∧ p ≤ 4096) : 1 ≤ leaves p ∧ leaves p ≤ 2048 := by
  unfold leaves
  omega
theorem bk_out {p t : Int} (h : bkOk p t = true) : (1 ≤ p ∧ p ≤ 4096) ∧ 1 ≤ t ∧ t ≤ 2000 := by
  unfold bkOk okP okT at h
  simpa using h
theorem bk_mk {p t : Int} (h : 1 ≤ p ∧ p ≤ 4096) (h1 : 1 ≤ t ∧ t ≤ 2000) : bkOk p t = true := by
  unfold bkOk okP okT
  simp [h, h1]
theorem bk_cases {p t : Int} (h : bkOk p t = false) : (p < 1 ∨ 4096 < p) ∨ ((1 ≤ p ∧ p ≤ 4096) ∧ (t < 1 ∨ 2000 < t)) := by
  by_cases h1 : 1 ≤ p ∧ p ≤ 4096
  · right
    refine ⟨h1, ?_⟩
    by_cases h2 : 1 ≤ t ∧ t ≤ 2000
    · rw [bk_mk h1 h2] at h; cases h
    · omega
  · left
    omega
theorem bk_no {p t r c : Int} (h : bkOk p t = false) (hr : bkR p t = r) (hc : bkC p t = c) : r = 0 ∧ c = 2 := by
  unfold bkR at hr
  unfold bkC at hc
  rw [h] at hr hc
  exact ⟨hr.symm, hc.symm⟩
theorem bk_yes {p t r c : Int} (h : bkOk p t = true) (hr : bkR p t = r) (hc : bkC p t = c) : leaves p * t = r ∧ c = 0 := by
  unfold bkR at hr
  unfold bkC at hc
  rw [h] at hr hc
  exact ⟨hr, hc.symm⟩
theorem bk_bd {q t : Int} (h0 : 1 ≤ q) (h1 : q ≤ 2048) (h2 : 1 ≤ t) (h3 : t ≤ 2000) : ∃ x, q * t = x ∧ 1 ≤ x ∧ x ≤ 4096000 :=
  ⟨_, rfl, by
    have a := Int.mul_le_mul h0 h2 (by omega) (by omega)
    omega, by
    have a := Int.mul_le_mul h1 h3 (by omega) (by omega)
    omega⟩
def spOk (p t g : Int) : Bool := bkOk p t && decide (0 ≤ g ∧ g ≤ 2000)
def up (x : Int) : Int := (x + 100 - 1) / 100
def spR (p t g : Int) : Int := if spOk p t g = true then up (leaves p * t + g) else 0
def spC (p t g : Int) : Int := if spOk p t g = true then 0 else 2
theorem sp_out {p t g : Int} (h : spOk p t g = true) : bkOk p t = true ∧ 0 ≤ g ∧ g ≤ 2000 := by
  unfold spOk at h
  simpa using h
theorem sp_mk {p t g : Int} (h : bkOk p t = true) (h0 : 0 ≤ g) (h1 : g ≤ 2000) : spOk p t g = true := by
  unfold spOk
  simp [h, h0, h1]
theorem sp_cases {p t g : Int} (h : spOk p t g = false) : bkOk p t = false ∨ (bkOk p t = true ∧ (g < 0 ∨ 2000 < g)) := by
  cases hf : bkOk p t
  · exact .inl rfl
  · right
    refine ⟨rfl, ?_⟩
    by_cases h1 : g < 0
    · exact .inl h1
    · by_cases h2 : 2000 < g
      · exact .inr h2
      · rw [sp_mk hf (by omega) (by omega)] at h
        cases h
theorem sp_no {p t g r c : Int} (h : spOk p t g = false) (hr : spR p t g = r) (hc : spC p t g = c) : r = 0 ∧ c = 2 := by
  unfold spR at hr
  unfold spC at hc
  rw [h] at hr hc
  exact ⟨hr.symm, hc.symm⟩
theorem sp_yes {p t g r c : Int} (h : spOk p t g = true) (hr : spR p t g = r) (hc : spC p t g = c) : up (leaves p * t + g) = r ∧ c = 0 := by
  unfold spR at hr
  unfold spC at hc
  rw [h] at hr hc
  exact ⟨hr, hc.symm⟩

/-- The thicknesses that make one block lie side by side. -/
def trA (q b : Int) : Int := if b = 0 then 1 else 100 * (b - 1) / q + 1
def trZ (q b : Int) : Int := min 2000 (100 * b / q)
theorem tr_iff {q b u : Int} (hq : 1 ≤ q) (hb : 0 ≤ b) (h1 : 1 ≤ u) (h2 : u ≤ 2000) : up (q * u) = b ↔ (trA q b ≤ u ∧ u ≤ trZ q b) := by
  have hx : 1 ≤ q * u := by
    have a := Int.mul_le_mul hq h1 (by omega) (by omega)
    omega
  have e1 : up (q * u) = b ↔ (100 * (b - 1) < u * q ∧ u * q ≤ 100 * b) := by
    unfold up
    rw [Int.mul_comm u q]
    generalize q * u = x at hx ⊢
    omega
  rw [e1]
  have e2 : u ≤ trZ q b ↔ u * q ≤ 100 * b := by
    rw [← Int.le_ediv_iff_mul_le (show 0 < q by omega)]
    unfold trZ
    omega
  rw [e2]
  by_cases h0 : b = 0
  · subst h0
    have hu : 0 < u * q := by rw [Int.mul_comm]; omega
    constructor
    · intro h; omega
    · intro h; omega
  · have e3 : trA q b ≤ u ↔ 100 * (b - 1) < u * q := by
      rw [← Int.ediv_lt_iff_lt_mul (show 0 < q by omega)]
      unfold trA
      rw [if_neg h0]
      omega
    rw [e3]
theorem trA_pos {q b : Int} (hq : 1 ≤ q) (hb : 0 ≤ b) : 1 ≤ trA q b := by
  unfold trA
  split
  · omega
  · have := Int.ediv_nonneg (a := 100 * (b - 1)) (b := q) (by omega) (by omega)
    omega
theorem trZ_nonneg {q b : Int} (hq : 1 ≤ q) (hb : 0 ≤ b) : 0 ≤ trZ q b ∧ trZ q b ≤ 2000 := by
  unfold trZ
  have := Int.ediv_nonneg (a := 100 * b) (b := q) (by omega) (by omega)
  omega
def trIn (p b : Int) : Bool := okP p && decide (0 ≤ b ∧ b ≤ 1000000000)
def trB (p b : Int) : Bool := decide (trA (leaves p) b ≤ trZ (leaves p) b)
def trL (p b : Int) : Int := if trIn p b = true then if trB p b = true then trA (leaves p) b else 0 else 0
def trH (p b : Int) : Int := if trIn p b = true then if trB p b = true then trZ (leaves p) b else 0 else 0
def trC (p b : Int) : Int := if trIn p b = true then if trB p b = true then 0 else 4 else 2
theorem tr_out {p b : Int} (h : trIn p b = true) : (1 ≤ p ∧ p ≤ 4096) ∧ 0 ≤ b ∧ b ≤ 1000000000 := by
  unfold trIn okP at h
  simpa using h
theorem tr_mk {p b : Int} (h : 1 ≤ p ∧ p ≤ 4096) (h1 : 0 ≤ b ∧ b ≤ 1000000000) : trIn p b = true := by
  unfold trIn okP
  simp [h, h1]
theorem tr_cases {p b : Int} (h : trIn p b = false) : (p < 1 ∨ 4096 < p) ∨ ((1 ≤ p ∧ p ≤ 4096) ∧ (b < 0 ∨ 1000000000 < b)) := by
  by_cases h1 : 1 ≤ p ∧ p ≤ 4096
  · right
    refine ⟨h1, ?_⟩
    by_cases h2 : 0 ≤ b ∧ b ≤ 1000000000
    · rw [tr_mk h1 h2] at h; cases h
    · omega
  · left
    omega
theorem tr_no {p b l z c : Int} (h : trIn p b = false) (hl : trL p b = l) (hz : trH p b = z) (hc : trC p b = c) : l = 0 ∧ z = 0 ∧ c = 2 := by
  unfold trL at hl
  unfold trH at hz
  unfold trC at hc
  rw [h] at hl hz hc
  exact ⟨hl.symm, hz.symm, hc.symm⟩
theorem tr_none {p b l z c : Int} (h : trIn p b = true) (hn : trZ (leaves p) b < trA (leaves p) b) (hl : trL p b = l) (hz : trH p b = z) (hc : trC p b = c) : l = 0 ∧ z = 0 ∧ c = 4 := by
  have hb : trB p b = false := decide_eq_false (by omega)
  unfold trL at hl
  unfold trH at hz
  unfold trC at hc
  rw [h, hb] at hl hz hc
  exact ⟨hl.symm, hz.symm, hc.symm⟩
theorem tr_yes {p b l z c : Int} (h : trIn p b = true) (hn : trA (leaves p) b ≤ trZ (leaves p) b) (hl : trL p b = l) (hz : trH p b = z) (hc : trC p b = c) : trA (leaves p) b = l ∧ trZ (leaves p) b = z ∧ c = 0 := by
  have hb : trB p b = true := decide_eq_true hn
  unfold trL at hl
  unfold trH at hz
  unfold trC at hc
  rw [h, hb] at hl hz hc
  exact ⟨hl, hz, hc.symm⟩
/-- What a code that is 0 says of thicknesses. -/
theorem tr_zero {p b : Int} (h : trC p b = 0) : trIn p b = true ∧ trA (leaves p) b ≤ trZ (leaves p) b := by
  unfold trC at h
  by_cases h1 : trIn p b = true
  · rw [if_pos h1] at h
    by_cases h2 : trB p b = true
    · exact ⟨h1, of_decide_eq_true h2⟩
    · rw [if_neg h2] at h; cases h
  · rw [if_neg h1] at h; cases h
end Tk
end Go.Proofs.Ytamnhbambklmkaa
