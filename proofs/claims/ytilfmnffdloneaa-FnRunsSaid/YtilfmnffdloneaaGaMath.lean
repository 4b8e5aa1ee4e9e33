/- Mathematics of gang sheets: ups, runs, the least run, divisions. -/
namespace Go.Proofs.Ytilfmnffdloneaa
set_option linter.unusedVariables false

namespace Ga
/-- A list of at most so many numbers of lo..hi. -/
def wi (most : Nat) (lo hi : Int) (l : List Int) : Bool := decide (l.length ≤ most) && l.all fun x => decide (lo ≤ x ∧ x ≤ hi)
theorem wi_iff {most : Nat} {lo hi : Int} {l : List Int} : wi most lo hi l = true ↔ l.length ≤ most ∧ ∀ x ∈ l, lo ≤ x ∧ x ≤ hi := by
  unfold wi
  simp only [Bool.and_eq_true, decide_eq_true_eq, List.all_eq_true]
def tot : List Int → Int
  | [] => 0
  | x :: s => x + tot s
theorem tot_append (a b : List Int) : tot (a ++ b) = tot a + tot b := by
  induction a with
  | nil => simp [tot]
  | cons x a ih => simp only [List.cons_append, tot, ih]; omega
theorem tot_le {m : Int} {l : List Int} (h : ∀ x ∈ l, x ≤ m) : tot l ≤ (l.length : Int) * m := by
  induction l with
  | nil => simp [tot]
  | cons x l ih =>
    have h1 := h x (by simp)
    have h2 := ih fun y hy => h y (by simp [hy])
    simp only [tot, List.length_cons, Int.natCast_add, Int.add_mul]
    omega
theorem tot_ge {m : Int} {l : List Int} (h : ∀ x ∈ l, m ≤ x) : (l.length : Int) * m ≤ tot l := by
  induction l with
  | nil => simp [tot]
  | cons x l ih =>
    have h1 := h x (by simp)
    have h2 := ih fun y hy => h y (by simp [hy])
    simp only [tot, List.length_cons, Int.natCast_add, Int.add_mul]
    omega
def ceil (a b : Int) : Int := (a + b - 1) / b
theorem ceil_bd {a b : Int} (ha : 1 ≤ a) (hb : 1 ≤ b) : 1 ≤ ceil a b ∧ ceil a b ≤ a := by
  unfold ceil
  refine ⟨?_, ?_⟩
  · have := (Int.le_ediv_iff_mul_le (a := 1) (b := a + b - 1) (c := b) (by omega)).2 (by omega)
    exact this
  · have h1 : a + b - 1 ≤ a * b := by
      have h2 : (a - 1) * (b - 1) ≥ 0 := Int.mul_nonneg (by omega) (by omega)
      have h3 : (a - 1) * (b - 1) = a * b - a - b + 1 := by rw [Int.sub_mul, Int.mul_sub]; omega
      omega
    have h4 := Int.ediv_le_ediv (c := b) (by omega) h1
    rw [Int.mul_ediv_cancel _ (by omega)] at h4
    exact h4
theorem ceil_le {a b k : Int} (hb : 1 ≤ b) : ceil a b ≤ k ↔ a ≤ k * b := by
  unfold ceil
  constructor
  · intro h
    have h1 : (a + b - 1) / b < k + 1 := by omega
    have h2 := (Int.ediv_lt_iff_lt_mul (by omega : 0 < b)).1 h1
    rw [Int.add_mul] at h2
    omega
  · intro h
    have h2 : (a + b - 1) / b < k + 1 := (Int.ediv_lt_iff_lt_mul (by omega : 0 < b)).2 (by rw [Int.add_mul]; omega)
    omega
theorem ceil_mono {a b c : Int} (ha : 1 ≤ a) (hb : 1 ≤ b) (h : b ≤ c) : ceil a c ≤ ceil a b := by
  have h1 := (ceil_le (a := a) (b := b) (k := ceil a b) hb).1 (Int.le_refl _)
  refine (ceil_le (by omega)).2 ?_
  have h2 := (ceil_bd ha hb).1
  have h3 : ceil a b * b ≤ ceil a b * c := Int.mul_le_mul_of_nonneg_left h (by omega)
  omega
def okG (s : Int) (q : List Int) : Bool := decide (1 ≤ s ∧ s ≤ 32) && (decide (1 ≤ q.length) && (decide ((q.length : Int) ≤ s) && wi 6 1 1000000 q))
theorem okG_iff {s : Int} {q : List Int} : okG s q = true ↔ (1 ≤ s ∧ s ≤ 32) ∧ 1 ≤ q.length ∧ (q.length : Int) ≤ s ∧ q.length ≤ 6 ∧ ∀ x ∈ q, 1 ≤ x ∧ x ≤ 1000000 := by
  unfold okG
  simp only [Bool.and_eq_true, decide_eq_true_eq, wi_iff]
def okU (s : Int) (q u : List Int) : Bool := decide (u.length = q.length) && (wi 6 1 s u && decide (tot u ≤ s))
theorem okU_iff {s : Int} {q u : List Int} : okU s q u = true ↔ u.length = q.length ∧ (u.length ≤ 6 ∧ ∀ x ∈ u, 1 ≤ x ∧ x ≤ s) ∧ tot u ≤ s := by
  unfold okU
  simp only [Bool.and_eq_true, decide_eq_true_eq, wi_iff]
/-- As many sheets as the greatest quotient. -/
def run : List Int → List Int → Int
  | a :: q, b :: u => max (ceil a b) (run q u)
  | _, _ => 0
theorem run_pos (q u : List Int) : 0 ≤ run q u := by
  induction q generalizing u with
  | nil => cases u <;> exact Int.le_refl 0
  | cons a q ih =>
    cases u with
    | nil => exact Int.le_refl 0
    | cons b u => have := ih u; simp only [run]; omega
theorem run_snoc {q u : List Int} (a b : Int) (h : q.length = u.length) : run (q ++ [a]) (u ++ [b]) = max (run q u) (ceil a b) := by
  induction q generalizing u with
  | nil =>
    have : u = [] := List.eq_nil_of_length_eq_zero h.symm
    subst this
    simp only [List.nil_append, run]
    omega
  | cons x q ih =>
    cases u with
    | nil => simp at h
    | cons y u => simp only [List.cons_append, run, ih (by simpa using h)]; omega
theorem run_bd {q u : List Int} (hq : ∀ x ∈ q, 1 ≤ x ∧ x ≤ 1000000) (hu : ∀ x ∈ u, 1 ≤ x) : run q u ≤ 1000000 := by
  induction q generalizing u with
  | nil => cases u <;> simp [run]
  | cons a q ih =>
    cases u with
    | nil => simp [run]
    | cons b u =>
      have h1 := ih (u := u) (fun x hx => hq x (by simp [hx])) fun x hx => hu x (by simp [hx])
      have h2 := hq a (by simp)
      have h3 := ceil_bd h2.1 (hu b (by simp))
      simp only [run]
      omega
theorem run_ge {q u : List Int} {k : Nat} {a b : Int} (ha : q[k]? = some a) (hb : u[k]? = some b) : ceil a b ≤ run q u := by
  induction q generalizing u k with
  | nil => simp at ha
  | cons x q ih =>
    cases u with
    | nil => simp at hb
    | cons y u =>
      simp only [run]
      cases k with
      | zero => simp at ha hb; subst ha hb; omega
      | succ k => have := ih (u := u) (k := k) (by simpa using ha) (by simpa using hb); omega
theorem run_le {q u : List Int} {r : Int} (h0 : 0 ≤ r) (h : ∀ (k : Nat) (a b : Int), q[k]? = some a → u[k]? = some b → ceil a b ≤ r) : run q u ≤ r := by
  induction q generalizing u with
  | nil => cases u <;> exact h0
  | cons x q ih =>
    cases u with
    | nil => exact h0
    | cons y u =>
      have h1 := h 0 x y rfl rfl
      have h2 := ih (u := u) fun k a b ha hb => h (k + 1) a b (by simpa using ha) (by simpa using hb)
      simp only [run]
      omega
def overs (r : Int) : List Int → List Int → List Int
  | a :: q, b :: u => (b * r - a) :: overs r q u
  | _, _ => []
theorem overs_len {r : Int} {q u : List Int} (h : u.length = q.length) : (overs r q u).length = q.length := by
  induction q generalizing u with
  | nil => cases u <;> rfl
  | cons a q ih =>
    cases u with
    | nil => simp at h
    | cons b u => simp only [overs, List.length_cons, ih (by simpa using h)]
theorem overs_at {r : Int} {q u : List Int} {k : Nat} {a b : Int} (ha : q[k]? = some a) (hb : u[k]? = some b) : (overs r q u)[k]? = some (b * r - a) := by
  induction q generalizing u k with
  | nil => simp at ha
  | cons x q ih =>
    cases u with
    | nil => simp at hb
    | cons y u =>
      simp only [overs]
      cases k with
      | zero => simp at ha hb; subst ha hb; rfl
      | succ k => simpa using ih (u := u) (k := k) (by simpa using ha) (by simpa using hb)
/-- The least ups with which a run is enough. -/
def forR (q : List Int) (r : Int) : List Int := q.map fun a => ceil a r
theorem forR_len (q : List Int) (r : Int) : (forR q r).length = q.length := by simp [forR]
theorem forR_mono {q : List Int} {r t : Int} (hq : ∀ x ∈ q, 1 ≤ x) (hr : 1 ≤ r) (h : r ≤ t) : tot (forR q t) ≤ tot (forR q r) := by
  induction q with
  | nil => simp [forR, tot]
  | cons a q ih =>
    have h1 := ceil_mono (hq a (by simp)) hr h
    have h2 := ih fun x hx => hq x (by simp [hx])
    simp only [forR, List.map_cons, tot] at h2 ⊢
    omega
theorem forR_bd {q : List Int} {r : Int} (hq : ∀ x ∈ q, 1 ≤ x ∧ x ≤ 1000000) (hr : 1 ≤ r) : ∀ x ∈ forR q r, 1 ≤ x ∧ x ≤ 1000000 := by
  intro x hx
  obtain ⟨a, ha, rfl⟩ := List.mem_map.1 hx
  have h1 := hq a ha
  have h2 := ceil_bd h1.1 hr
  omega
theorem forR_top {q : List Int} (hq : ∀ x ∈ q, 1 ≤ x ∧ x ≤ 1000000) : tot (forR q 1000000) = (q.length : Int) := by
  induction q with
  | nil => rfl
  | cons a q ih =>
    have h1 := hq a (by simp)
    have h2 := ih fun x hx => hq x (by simp [hx])
    have h3 : ceil a 1000000 = 1 := by
      have h4 := (ceil_bd h1.1 (by omega : (1 : Int) ≤ 1000000)).1
      have h5 := (ceil_le (a := a) (b := 1000000) (k := 1) (by omega)).2 (by omega)
      omega
    simp only [forR, List.map_cons, tot, h3] at h2 ⊢
    simp only [List.length_cons, Int.natCast_add]
    omega
/-- The run L is the least one that leaves room. -/
def LeastP (s : Int) (q : List Int) (L : Int) : Prop := (1 ≤ L ∧ L ≤ 1000000) ∧ tot (forR q L) ≤ s ∧ ∀ k, 1 ≤ k → k < L → s < tot (forR q k)
theorem LeastP.same {s : Int} {q : List Int} {L K : Int} (h : LeastP s q L) (k : LeastP s q K) : L = K := by
  rcases Int.lt_trichotomy L K with h1 | h1 | h1
  · have := k.2.2 L h.1.1 h1; have := h.2.1; omega
  · exact h1
  · have := h.2.2 K k.1.1 h1; have := k.2.1; omega
def leastF (N : Nat) (s : Int) (q : List Int) : Int := match (List.range N).find? fun k : Nat => decide (tot (forR q ((k : Int) + 1)) ≤ s) with
  | some k => (k : Int) + 1
  | none => (N : Int)
theorem leastF_P {N : Nat} {s : Int} {q : List Int} (hN : 1 ≤ N) (hs : tot (forR q (N : Int)) ≤ s) : (1 ≤ leastF N s q ∧ leastF N s q ≤ (N : Int)) ∧ tot (forR q (leastF N s q)) ≤ s ∧ ∀ k, 1 ≤ k → k < leastF N s q → s < tot (forR q k) := by
  unfold leastF
  cases hf : (List.range N).find? fun k : Nat => decide (tot (forR q ((k : Int) + 1)) ≤ s) with
  | none =>
    have h1 := List.find?_eq_none.1 hf (N - 1) (List.mem_range.2 (by omega))
    have h3 : ((N - 1 : Nat) : Int) + 1 = (N : Int) := by omega
    rw [h3] at h1
    exact absurd hs (by simpa using h1)
  | some k =>
    have h1 := List.find?_some hf
    obtain ⟨_, as, bs, h3, h4⟩ := List.find?_eq_some_iff_append.1 hf
    have hk := List.mem_range.1 (List.mem_of_find?_eq_some hf)
    refine ⟨by show 1 ≤ (k : Int) + 1 ∧ (k : Int) + 1 ≤ (N : Int); omega, by simpa using h1, fun j hj1 hj2 => ?_⟩
    obtain ⟨i, rfl⟩ : ∃ i : Nat, j = (i : Int) + 1 := ⟨(j - 1).toNat, by omega⟩
    have hik : i < k := by
      have : (i : Int) + 1 < (k : Int) + 1 := hj2
      omega
    have hmem : i ∈ as := by
      have e1 : as.length = k := by
        have h5 : (List.range N)[as.length]? = some k := by rw [h3]; simp
        rw [List.getElem?_eq_some_iff] at h5
        obtain ⟨_, h6⟩ := h5
        simpa using h6
      have h7 : (List.range N)[i]? = some i := List.getElem?_range (by omega)
      rw [h3, List.getElem?_append_left (by omega)] at h7
      exact List.mem_of_getElem? h7
    have := h4 i hmem
    simp at this
    exact this
def top : Nat := 1000000
theorem top_is : (top : Int) = 1000000 := rfl
theorem top_pos : 1 ≤ top := by decide
def least (s : Int) (q : List Int) : Int := leastF top s q
theorem least_P {s : Int} {q : List Int} (hq : ∀ x ∈ q, 1 ≤ x ∧ x ≤ 1000000) (hs : (q.length : Int) ≤ s) : LeastP s q (least s q) := by
  have h := leastF_P (N := top) (s := s) (q := q) top_pos (by rw [top_is, forR_top hq]; exact hs)
  rw [top_is] at h
  exact h
theorem least_is {s : Int} {q : List Int} {L : Int} (hq : ∀ x ∈ q, 1 ≤ x ∧ x ≤ 1000000) (hs : (q.length : Int) ≤ s) (h : LeastP s q L) : least s q = L := (least_P hq hs).same h
end Ga
end Go.Proofs.Ytilfmnffdloneaa
