/- Chapter 10 in integers and lists: tasks, loads, packings, first fit, numbering, the search for the best packing. -/
import Derived.Test.YtbhkpjjedeinpaaWords
namespace Go.Proofs.Ytbhkpjjedeinpaa
namespace Rl
def okT (r : Int) (s : List Int) : Bool := decide (1 ≤ r ∧ r ≤ 100000) && (decide (s.length ≤ 12) && s.all fun x => decide (1 ≤ x ∧ x ≤ r))
/-- x more on roll k; rolls that are missing come empty. -/
def addAt : List Int → Nat → Int → List Int
  | [], 0, x => [x]
  | [], k + 1, x => 0 :: addAt [] k x
  | y :: o, 0, x => (y + x) :: o
  | y :: o, k + 1, x => y :: addAt o k x
def loadsF : List Int → List Int → List Int → List Int
  | o, x :: s, k :: p => loadsF (addAt o k.toNat x) s p
  | o, _, _ => o
/-- The sums of the strips of each roll. -/
def loads (s p : List Int) : List Int := loadsF [] s p
/-- The numbers are in order: each at most 1 greater than all before it. -/
def numB : Int → List Int → Bool
  | _, [] => true
  | n, k :: p => decide (0 ≤ k ∧ k ≤ n) && numB (max n (k + 1)) p
def isP (r : Int) (s p : List Int) : Bool := okT r s && (decide (p.length = s.length) && (numB 0 p && (loads s p).all fun x => decide (x ≤ r)))
def tot : List Int → Int
  | [] => 0
  | x :: s => x + tot s
def long (r : Int) : List Int → Int
  | [] => 0
  | x :: s => (if r < 2 * x then 1 else 0) + long r s
def bd (r : Int) (s : List Int) : Int := max (long r s) ((tot s + r - 1) / r)
/-- The first roll that has enough left. -/
def fit (r x : Int) : List Int → Nat
  | [] => 0
  | y :: o => if y + x ≤ r then 0 else fit r x o + 1
def ffG (r : Int) : List Int → List Int → List Int
  | _, [] => []
  | o, x :: s => (fit r x o : Int) :: ffG r (addAt o (fit r x o) x) s
def ff (r : Int) (s : List Int) : List Int := ffG r [] s
/-- First fit in an order, one step: the packing and the loads. -/
def foS (r : Int) (s : List Int) (w : List Int × List Int) (i : Int) : List Int × List Int :=
  (w.1.set i.toNat (fit r (s.getD i.toNat 0) w.2 : Int), addAt w.2 (fit r (s.getD i.toNat 0) w.2) (s.getD i.toNat 0))
def fo (r : Int) (s q : List Int) : List Int × List Int := q.foldl (foS r s) (List.replicate s.length 0, [])
/-- Where a strip goes in the order from the longest to the shortest one. -/
def insA (s : List Int) (x : Int) : List Int → Nat
  | [] => 0
  | j :: q => if x ≤ s.getD j.toNat 0 then insA s x q + 1 else 0
def ord (s : List Int) : Nat → List Int
  | 0 => []
  | i + 1 => (ord s i).take (insA s (s.getD i 0) (ord s i)) ++ (i : Int) :: (ord s i).drop (insA s (s.getD i 0) (ord s i))
/-- Rolls numbered in the order of their first strips. -/
def seen (t : List Int) (k : Int) : List Int := if k ∈ t then t else t ++ [k]
def numS : List Int → List Int → List Int
  | _, [] => []
  | t, k :: p => ((seen t k).idxOf k : Int) :: numS (seen t k) p
def number (p : List Int) : List Int := numS [] p
def lf (r : Int) (s : List Int) : List Int := number (fo r s (ord s s.length)).1

/-! Loads -/
/-- What the strips of one roll sum to. -/
def sumAt (k : Nat) : List Int → List Int → Int
  | x :: s, j :: p => (if j.toNat = k then x else 0) + sumAt k s p
  | _, _ => 0
theorem addAt_get (o : List Int) (k j : Nat) (x : Int) : (addAt o k x).getD j 0 = o.getD j 0 + if k = j then x else 0 := by
  induction o generalizing k j with
  | nil =>
    induction k generalizing j with
    | zero => cases j <;> simp [addAt]
    | succ k ih =>
      cases j with
      | zero => simp [addAt]
      | succ j =>
        have := ih j
        simp only [addAt, List.getD_cons_succ, this]
        simp
  | cons y o ih =>
    cases k with
    | zero => cases j <;> simp [addAt]
    | succ k =>
      cases j with
      | zero => simp [addAt]
      | succ j =>
        have := ih k j
        simp only [addAt, List.getD_cons_succ, this]
        simp
theorem addAt_len (o : List Int) (k : Nat) (x : Int) : (addAt o k x).length = max o.length (k + 1) := by
  induction o generalizing k with
  | nil =>
    induction k with
    | zero => simp [addAt]
    | succ k ih => simp only [addAt, List.length_cons, ih]; simp
  | cons y o ih =>
    cases k with
    | zero => simp only [addAt, List.length_cons]; omega
    | succ k => simp only [addAt, List.length_cons, ih]; omega
theorem loadsF_get (s p o : List Int) (k : Nat) : (loadsF o s p).getD k 0 = o.getD k 0 + sumAt k s p := by
  induction s generalizing p o with
  | nil => simp [loadsF, sumAt]
  | cons x s ih =>
    cases p with
    | nil => simp [loadsF, sumAt]
    | cons j p =>
      simp only [loadsF, sumAt, ih, addAt_get]
      omega
theorem loads_get (s p : List Int) (k : Nat) : (loads s p).getD k 0 = sumAt k s p := by
  unfold loads
  rw [loadsF_get]
  simp
/-- How many rolls a list of numbers has. -/
def rolls : List Int → Nat
  | [] => 0
  | k :: p => max (k.toNat + 1) (rolls p)
theorem loadsF_len (s p o : List Int) (h : p.length ≤ s.length) : (loadsF o s p).length = max o.length (rolls p) := by
  induction s generalizing p o with
  | nil =>
    cases p with
    | nil => simp [loadsF, rolls]
    | cons k p => simp at h
  | cons x s ih =>
    cases p with
    | nil => simp [loadsF, rolls]
    | cons k p =>
      simp only [List.length_cons] at h
      simp only [loadsF, rolls]
      rw [ih p _ (by omega), addAt_len]
      omega
theorem loads_len (s p : List Int) (h : p.length ≤ s.length) : (loads s p).length = rolls p := by
  unfold loads
  rw [loadsF_len s p [] h]
  simp
theorem loadsF_next (s p o : List Int) (i : Nat) (x k : Int) (hx : s[i]? = some x) (hk : p[i]? = some k) : loadsF o (s.take (i + 1)) (p.take (i + 1)) = addAt (loadsF o (s.take i) (p.take i)) k.toNat x := by
  induction i generalizing s p o with
  | zero =>
    cases s with
    | nil => simp at hx
    | cons a s =>
      cases p with
      | nil => simp at hk
      | cons b p =>
        simp at hx hk
        subst hx hk
        simp [loadsF]
  | succ i ih =>
    cases s with
    | nil => simp at hx
    | cons a s =>
      cases p with
      | nil => simp at hk
      | cons b p =>
        simp at hx hk
        simp only [List.take_succ_cons, loadsF]
        exact ih s p _ hx hk
theorem loads_next (s p : List Int) (i : Nat) (x k : Int) (hx : s[i]? = some x) (hk : p[i]? = some k) : loads (s.take (i + 1)) (p.take (i + 1)) = addAt (loads (s.take i) (p.take i)) k.toNat x := loadsF_next s p [] i x k hx hk
theorem loadsF_cut (s p o : List Int) : loadsF o (s.take p.length) p = loadsF o s p := by
  induction s generalizing p o with
  | nil => simp
  | cons x s ih =>
    cases p with
    | nil => simp [loadsF]
    | cons k p => simp only [List.length_cons, List.take_succ_cons, loadsF, ih]
theorem loads_cut (s p : List Int) : loads (s.take p.length) p = loads s p := loadsF_cut s p []
/-- As the loop has it: empty rolls come first, then x is added. -/
theorem addAt_set (o : List Int) (k : Nat) (x : Int) : addAt o k x = (o ++ List.replicate (k + 1 - o.length) 0).set k ((o ++ List.replicate (k + 1 - o.length) 0).getD k 0 + x) := by
  apply List.ext_getElem?
  intro j
  have hl := addAt_len o k x
  by_cases hj : j < max o.length (k + 1)
  · have h1 : (addAt o k x)[j]? = some ((addAt o k x).getD j 0) := by
      rw [List.getD_eq_getElem?_getD, List.getElem?_eq_getElem (by omega)]
      rfl
    rw [h1, addAt_get]
    have hz : ∀ i, (o ++ List.replicate (k + 1 - o.length) 0).getD i 0 = o.getD i 0 := by
      intro i
      simp only [List.getD_eq_getElem?_getD]
      rcases Nat.lt_or_ge i o.length with hi | hi
      · rw [List.getElem?_append_left hi]
      · rw [List.getElem?_append_right hi, List.getElem?_replicate, List.getElem?_eq_none hi]
        split <;> rfl
    by_cases hkj : k = j
    · subst hkj
      rw [List.getElem?_set_self (by simp; omega), if_pos rfl, hz]
    · rw [List.getElem?_set_ne hkj, if_neg hkj, Int.add_zero]
      have h2 : (o ++ List.replicate (k + 1 - o.length) 0)[j]? = some ((o ++ List.replicate (k + 1 - o.length) 0).getD j 0) := by
        rw [List.getD_eq_getElem?_getD, List.getElem?_eq_getElem (by simp; omega)]
        rfl
      rw [h2, hz]
  · rw [List.getElem?_eq_none (by omega), List.getElem?_eq_none (by simp; omega)]
/-! Sums -/
theorem tot_append (a b : List Int) : tot (a ++ b) = tot a + tot b := by
  induction a with
  | nil => simp [tot]
  | cons x a ih => simp only [List.cons_append, tot, ih]; omega
theorem tot_addAt (o : List Int) (k : Nat) (x : Int) : tot (addAt o k x) = tot o + x := by
  induction o generalizing k with
  | nil =>
    induction k with
    | zero => simp [addAt, tot]
    | succ k ih => simp only [addAt, tot, ih]; simp
  | cons y o ih =>
    cases k with
    | zero => simp only [addAt, tot]; omega
    | succ k => simp only [addAt, tot, ih]; omega
theorem tot_loadsF (s p o : List Int) (h : p.length = s.length) : tot (loadsF o s p) = tot o + tot s := by
  induction s generalizing p o with
  | nil =>
    cases p with
    | nil => simp [loadsF, tot]
    | cons k p => simp at h
  | cons x s ih =>
    cases p with
    | nil => simp at h
    | cons k p =>
      simp only [loadsF, tot]
      rw [ih p _ (by simpa using h), tot_addAt]
      omega
theorem tot_loads (s p : List Int) (h : p.length = s.length) : tot (loads s p) = tot s := by
  unfold loads
  rw [tot_loadsF s p [] h]
  simp [tot]
theorem tot_le (r : Int) (o : List Int) (h : ∀ x ∈ o, x ≤ r) : tot o ≤ (o.length : Int) * r := by
  induction o with
  | nil => simp [tot]
  | cons x o ih =>
    have h1 := h x (by simp)
    have h2 := ih fun y hy => h y (by simp [hy])
    simp only [tot, List.length_cons]
    rw [show ((o.length + 1 : Nat) : Int) = (o.length : Int) + 1 from by omega, Int.add_mul]
    omega
/-- Long strips lie on different rolls. -/
theorem sumAt_long (r : Int) (k : Nat) (s p : List Int) (h : ∀ x ∈ s, 1 ≤ x) : (r + 1) * sumAt k (s.map fun x => if r < 2 * x then 1 else 0) p ≤ 2 * sumAt k s p := by
  induction s generalizing p with
  | nil => simp [sumAt]
  | cons x s ih =>
    cases p with
    | nil => simp [sumAt]
    | cons j p =>
      have h1 := ih p fun y hy => h y (by simp [hy])
      have h2 := h x (by simp)
      simp only [List.map_cons, sumAt, Int.mul_add]
      by_cases hj : j.toNat = k
      · simp only [hj, if_true]
        by_cases hx : r < 2 * x
        · simp only [hx, if_true]
          omega
        · simp only [hx, if_false]
          omega
      · simp only [hj, if_false]
        omega
theorem long_tot (r : Int) (s : List Int) : long r s = tot (s.map fun x => if r < 2 * x then 1 else 0) := by
  induction s with
  | nil => rfl
  | cons x s ih => simp only [long, List.map_cons, tot, ih]
theorem tot_ones (o : List Int) (h : ∀ x ∈ o, x ≤ 1) : tot o ≤ (o.length : Int) := by
  have := tot_le 1 o h
  omega
/-- No packing has fewer rolls than the bound. -/
theorem bound_le {r : Int} {s p : List Int} (h : isP r s p = true) : bd r s ≤ (rolls p : Int) := by
  unfold isP okT at h
  simp only [Bool.and_eq_true, decide_eq_true_eq, List.all_eq_true] at h
  obtain ⟨⟨hr, _, hs⟩, hlen, _, hl⟩ := h
  have hL := loads_len s p (by omega)
  have hsum := tot_loads s p hlen
  have hle := tot_le r (loads s p) hl
  rw [hL, hsum] at hle
  have h1 : long r s ≤ (rolls p : Int) := by
    rw [long_tot]
    have hlen' : p.length = (s.map fun x => if r < 2 * x then (1 : Int) else 0).length := by simpa using hlen
    rw [← tot_loads _ p hlen']
    have hL' := loads_len (s.map fun x => if r < 2 * x then (1 : Int) else 0) p (by omega)
    rw [← hL']
    apply tot_ones
    intro y hy
    obtain ⟨k, hk⟩ := List.getElem?_of_mem hy
    have hkl : k < (loads s p).length := by
      have := (List.getElem?_eq_some_iff.1 hk).1
      omega
    have e1 : y = sumAt k (s.map fun x => if r < 2 * x then (1 : Int) else 0) p := by
      rw [← loads_get, List.getD_eq_getElem?_getD, hk]
      rfl
    have e2 : sumAt k s p ≤ r := by
      rw [← loads_get, List.getD_eq_getElem?_getD, List.getElem?_eq_getElem hkl]
      exact hl _ (List.getElem_mem _)
    have h3 := sumAt_long r k s p fun x hx => (hs x hx).1
    rw [← e1] at h3
    rcases Int.lt_or_le 1 y with h4 | h4
    · have : (r + 1) * 2 ≤ (r + 1) * y := Int.mul_le_mul_of_nonneg_left (by omega) (by omega)
      omega
    · exact h4
  have h2 : (tot s + r - 1) / r ≤ (rolls p : Int) := by
    have h3 : (tot s + r - 1) / r ≤ ((rolls p : Int) * r + (r - 1)) / r := Int.ediv_le_ediv (by omega) (by omega)
    have h4 : ((rolls p : Int) * r + (r - 1)) / r = (rolls p : Int) := by
      rw [Int.add_comm, Int.add_mul_ediv_right _ _ (by omega), Int.ediv_eq_zero_of_lt (by omega) (by omega)]
      omega
    omega
  unfold bd
  omega
end Rl
end Go.Proofs.Ytbhkpjjedeinpaa
