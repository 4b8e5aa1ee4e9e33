/- The mathematics of gathered and nested books: units, signatures, their pages, best units, and the places of a nested book. No program is named here. -/
import Derived.Test.YtamnhbambklmkaaOrd2
namespace Go.Proofs.Ytamnhbambklmkaa
namespace Sg
/-- The folds of a unit; 0 for what is none. -/
def folds (u : Int) : Int := if u = 128 then 6 else if u = 64 then 5 else if u = 32 then 4 else if u = 16 then 3 else if u = 8 then 2 else if u = 4 then 1 else 0
abbrev allU : List Int := [4, 8, 16, 32, 64, 128]
def un (u : Int) : Bool := decide (u ∈ allU)
theorem un_cases {u : Int} (h : un u = true) : u = 4 ∨ u = 8 ∨ u = 16 ∨ u = 32 ∨ u = 64 ∨ u = 128 := by
  have := of_decide_eq_true h
  simpa using this
theorem un_folds (u : Int) : decide (0 < folds u) = un u := by
  unfold folds un
  split
  · subst_vars; decide
  split
  · subst_vars; decide
  split
  · subst_vars; decide
  split
  · subst_vars; decide
  split
  · subst_vars; decide
  split
  · subst_vars; decide
  · rw [decide_eq_decide]; simp; omega
theorem folds_nonneg (u : Int) : 0 ≤ folds u := by
  unfold folds
  repeat (split; · omega)
  omega
theorem folds_lt {a b : Int} (ha : un a = true) (hb : un b = true) : folds a < folds b ↔ a < b := by
  rcases un_cases ha with rfl | rfl | rfl | rfl | rfl | rfl <;> rcases un_cases hb with rfl | rfl | rfl | rfl | rfl | rfl <;> decide
def inP (p : Int) : Bool := decide (1 ≤ p ∧ p ≤ 4096)
def fits (p u : Int) : Bool := inP p && un u
def ceil (p u : Int) : Int := (p + u - 1) / u
def scR (p u : Int) : Int := if fits p u = true then ceil p u else 0
def scC (p u : Int) : Int := if fits p u = true then 0 else 2
theorem fits_out {p u : Int} (h : fits p u = true) : (1 ≤ p ∧ p ≤ 4096) ∧ un u = true := by
  unfold fits inP at h
  simpa using h
theorem un_bd {u : Int} (h : un u = true) : 4 ≤ u ∧ u ≤ 128 := by rcases un_cases h with rfl | rfl | rfl | rfl | rfl | rfl <;> decide
theorem ceil_bd {p u : Int} (h : fits p u = true) : 1 ≤ ceil p u ∧ ceil p u ≤ 1024 ∧ p ≤ ceil p u * u ∧ ceil p u * u < p + u := by
  obtain ⟨⟨h1, h2⟩, hu⟩ := fits_out h
  unfold ceil
  rcases un_cases hu with rfl | rfl | rfl | rfl | rfl | rfl <;> omega
/-- Signature and number of a page. -/
def soOk (p u x : Int) : Bool := fits p u && decide (1 ≤ x ∧ x ≤ p)
def soR (p u x : Int) : Int := if soOk p u x = true then (x - 1) / u else 0
def soK (p u x : Int) : Int := if soOk p u x = true then (x - 1) % u + 1 else 0
def soC (p u x : Int) : Int := if soOk p u x = true then 0 else 2
theorem so_out {p u x : Int} (h : soOk p u x = true) : fits p u = true ∧ 1 ≤ x ∧ x ≤ p := by
  unfold soOk at h
  simpa using h
theorem so_mk {p u x : Int} (h : fits p u = true) (h1 : 1 ≤ x) (h2 : x ≤ p) : soOk p u x = true := by
  unfold soOk
  simp [h, h1, h2]

/-- The chain of the program's test of units. -/
def cg : Int → List Int → Option Int
  | f, [] => some f
  | f, u :: t => if folds u ≤ f then none else cg (folds u) t
def canE (p : Int) : Option Int → Bool
  | none => false
  | some f => decide (0 < f) && inP p
def canB (p : Int) (L : List Int) : Bool := canE p (cg 0 L)
theorem can_one (p u : Int) : canB p [u] = fits p u := by
  unfold canB cg cg fits
  have h := un_folds u
  by_cases h0 : folds u ≤ 0
  · rw [if_pos h0]
    have : un u = false := by rw [← h]; simpa using h0
    simp [canE, this]
  · rw [if_neg h0]
    have h1 : 0 < folds u := by omega
    have : un u = true := by rw [← h]; simpa using h1
    simp [canE, this, h1]
def rises : List Int → Bool
  | a :: b :: t => decide (a < b) && rises (b :: t)
  | _ => true
theorem cg_some : ∀ (L : List Int) (a : Int), un a = true → (match cg (folds a) L with | none => false | some f => decide (0 < f)) = (rises (a :: L) && L.all un) := by
  intro L
  induction L with
  | nil =>
    intro a ha
    have := un_folds a
    rw [ha] at this
    simp only [cg, rises]
    simpa using this
  | cons b t ih =>
    intro a ha
    unfold cg
    by_cases hb : un b = true
    · by_cases hf : folds b ≤ folds a
      · rw [if_pos hf]
        have : ¬ a < b := fun h => by have := (folds_lt ha hb).2 h; omega
        simp [rises, this]
      · rw [if_neg hf]
        have h1 : a < b := (folds_lt ha hb).1 (by omega)
        rw [ih b hb]
        simp [rises, h1, hb]
    · have h0 : folds b ≤ folds a := by
        have := un_folds b
        have h1 := folds_nonneg a
        have h2 : un b = false := by simpa using hb
        rw [h2] at this
        have := of_decide_eq_false this
        omega
      rw [if_pos h0]
      have h2 : un b = false := by simpa using hb
      simp [h2]
theorem can_iff (p : Int) (L : List Int) : canB p L = (inP p && (decide (L ≠ []) && (rises L && L.all un))) := by
  cases L with
  | nil => simp [canB, canE, cg]
  | cons a t =>
    unfold canB cg
    by_cases ha : un a = true
    · have h0 := un_folds a
      rw [ha] at h0
      have h1 : ¬ folds a ≤ 0 := by have := of_decide_eq_true h0; omega
      rw [if_neg h1]
      have := cg_some t a ha
      cases hc : cg (folds a) t with
      | none => rw [hc] at this; simp only at this; simp [canE, ha, ← this]
      | some f =>
        rw [hc] at this
        simp only at this
        simp only [canE, this, ha, List.all_cons]
        cases inP p <;> simp
    · have h2 : un a = false := by simpa using ha
      have h0 := un_folds a
      rw [h2] at h0
      have := of_decide_eq_false h0
      rw [if_pos (by omega)]
      simp [canE, h2]

/-- The page that is printed, or 0. -/
def pg (p x : Int) : Int := if p < x then 0 else x
def row (p u i : Int) (m : Nat) : List Int := (List.range m).map fun j : Nat => pg p (i * u + (j : Int) + 1)
theorem row_next (p u i : Int) (m : Nat) : row p u i (m + 1) = row p u i m ++ [pg p (i * u + (m : Int) + 1)] := by simp [row, List.range_succ]
theorem row_len (p u i : Int) (m : Nat) : (row p u i m).length = m := by simp [row]
def gath (p u : Int) (m : Nat) (L : List Int) : List Int := L.flatMap fun i => row p u i m
theorem gath_nil (p u : Int) (m : Nat) : gath p u m [] = [] := rfl
theorem gath_next (p u : Int) (m : Nat) (L : List Int) (i : Int) : gath p u m (L ++ [i]) = gath p u m L ++ row p u i m := by simp [gath]
theorem gath_len (p u : Int) (m : Nat) (L : List Int) : (gath p u m L).length = L.length * m := by
  induction L with
  | nil => simp [gath]
  | cons a t ih =>
    have : gath p u m (a :: t) = row p u a m ++ gath p u m t := by simp [gath]
    rw [this, List.length_append, ih, row_len, List.length_cons, Nat.add_mul, Nat.one_mul, Nat.add_comm]
theorem gath_at (p u : Int) (m : Nat) : ∀ (L : List Int) (k j : Nat) (i : Int), L[k]? = some i → j < m → (gath p u m L)[k * m + j]? = some (pg p (i * u + (j : Int) + 1)) := by
  intro L
  induction L with
  | nil => intro k j i h; simp at h
  | cons a t ih =>
    intro k j i h hj
    have e : gath p u m (a :: t) = row p u a m ++ gath p u m t := by simp [gath]
    rw [e]
    cases k with
    | zero =>
      simp at h
      subst h
      rw [List.getElem?_append_left (by rw [row_len]; omega)]
      simp [row, hj]
    | succ k =>
      simp only [List.getElem?_cons_succ] at h
      rw [List.getElem?_append_right (by rw [row_len, Nat.add_mul]; omega), row_len]
      have : (k + 1) * m + j - m = k * m + j := by rw [Nat.add_mul]; omega
      rw [this]
      exact ih k j i h hj
def gaOk (p u : Int) (L : List Int) : Bool := fits p u && (isOrdB L && decide ((L.length : Int) = ceil p u))
def gaR (p u : Int) (L : List Int) : List Int := if gaOk p u L = true then gath p u u.toNat L else []
def gaC (p u : Int) (L : List Int) : Int := if gaOk p u L = true then 0 else 2

/-- How many signatures of each unit, and what is left. -/
def bs (X : Int) : List Int → List Int × Int
  | [] => ([], X)
  | u :: t => ((bs X t).2 / u :: (bs X t).1, (bs X t).2 % u)
theorem bs_len (X : Int) (L : List Int) : (bs X L).1.length = L.length := by
  induction L with
  | nil => rfl
  | cons u t ih => simp [bs, ih]
theorem bs_at (X : Int) (L : List Int) (k : Nat) (u : Int) (h : L[k]? = some u) : bs X (L.drop k) = ((bs X (L.drop (k + 1))).2 / u :: (bs X (L.drop (k + 1))).1, (bs X (L.drop (k + 1))).2 % u) := by
  have hk : k < L.length := (List.getElem?_eq_some_iff.1 h).1
  have e : L.drop k = u :: L.drop (k + 1) := by
    rw [List.drop_eq_getElem_cons hk]
    congr 1
    exact (List.getElem?_eq_some_iff.1 h).2
  rw [e]
  rfl
theorem bs_step (X : Int) (L : List Int) (k : Nat) (u : Int) (h : L[k]? = some u) :
    (List.replicate (k + 1) 0 ++ (bs X (L.drop (k + 1))).1).set k ((bs X (L.drop (k + 1))).2 / u) = List.replicate k 0 ++ (bs X (L.drop k)).1 := by
  rw [bs_at X L k u h, List.replicate_succ', List.append_assoc]
  simp only [List.singleton_append]
  exact set_mid _ _ _ _ _ (by simp)
theorem bs_bd (X : Int) (h0 : 0 ≤ X) (L : List Int) (hu : L.all un = true) : 0 ≤ (bs X L).2 ∧ (bs X L).2 ≤ X := by
  induction L with
  | nil => exact ⟨h0, Int.le_refl _⟩
  | cons u t ih =>
    simp only [List.all_cons, Bool.and_eq_true] at hu
    obtain ⟨h1, h2⟩ := ih hu.2
    have hb := un_bd hu.1
    simp only [bs]
    have h3 := Int.emod_nonneg (bs X t).2 (show u ≠ 0 by omega)
    have h4 : (bs X t).2 % u ≤ (bs X t).2 := by
      have e1 := Int.mul_ediv_add_emod (bs X t).2 u
      have e2 := Int.mul_nonneg (show 0 ≤ u by omega) (Int.ediv_nonneg h1 (show 0 ≤ u by omega))
      omega
    omega
theorem all_drop {L : List Int} (h : L.all un = true) (k : Nat) : (L.drop k).all un = true := by
  rw [List.all_eq_true] at h ⊢
  exact fun x hx => h x (List.mem_of_mem_drop hx)
def first : List Int → Int
  | [] => 1
  | u :: _ => u
def least (p : Int) (L : List Int) : Int := ceil p (first L) * first L
def buR (p : Int) (L : List Int) : List Int := if canB p L = true then (bs (least p L) L).1 else []
def buC (p : Int) (L : List Int) : Int := if canB p L = true then 0 else 2

/-- A nested book: sheet and index of a page. -/
def nsOk (n p : Int) : Bool := decide ((1 ≤ n ∧ n ≤ 64) ∧ 1 ≤ p ∧ p ≤ 4 * n)
def nsK (n p : Int) : Int := if p ≤ 2 * n then (p - 1) / 2 else (4 * n - p) / 2
def nsI (n p : Int) : Int := if p ≤ 2 * n then (if p % 2 = 1 then 1 else 2) else (if p % 2 = 0 then 0 else 3)
def nsA (n p : Int) : Int := if nsOk n p = true then nsK n p else 0
def nsB (n p : Int) : Int := if nsOk n p = true then nsI n p else 0
def nsC (n p : Int) : Int := if nsOk n p = true then 0 else 2
def ptR (n p : Int) : Int := if nsOk n p = true then 4 * n + 1 - p else 0
def four (n k : Int) : List Int := [4 * n - 2 * k, 2 * k + 1, 2 * k + 2, 4 * n - 2 * k - 1]
def npOk (n k : Int) : Bool := decide ((1 ≤ n ∧ n ≤ 64) ∧ 0 ≤ k ∧ k < n)
def npR (n k : Int) : List Int := if npOk n k = true then four n k else []
def npC (n k : Int) : Int := if npOk n k = true then 0 else 2
theorem ns_bd {n p : Int} (h : nsOk n p = true) : 0 ≤ nsK n p ∧ nsK n p < n ∧ 0 ≤ nsI n p ∧ nsI n p ≤ 3 := by
  have := of_decide_eq_true h
  unfold nsK nsI
  refine ⟨?_, ?_, ?_, ?_⟩ <;> (repeat' split) <;> omega
theorem four_here {n p : Int} (h : nsOk n p = true) : (if p ∈ four n (nsK n p) then ((four n (nsK n p)).idxOf p : Int) else -1) = nsI n p := by
  have h' := of_decide_eq_true h
  by_cases h1 : p ≤ 2 * n
  · have hK : nsK n p = (p - 1) / 2 := if_pos h1
    have hI : nsI n p = if p % 2 = 1 then 1 else 2 := if_pos h1
    rw [hI]
    generalize nsK n p = k at hK
    by_cases h2 : p % 2 = 1
    · rw [if_pos h2]
      have a1 : ¬ (4 * n - 2 * k = p) := by omega
      have a2 : 2 * k + 1 = p := by omega
      rw [if_pos (by simp [four]; omega)]
      have b1 : (4 * n - 2 * k == p) = false := by simpa using a1
      simp [four, List.idxOf_cons, b1, a2]
    · rw [if_neg h2]
      have a1 : ¬ (4 * n - 2 * k = p) := by omega
      have a2 : ¬ (2 * k + 1 = p) := by omega
      have a3 : 2 * k + 2 = p := by omega
      rw [if_pos (by simp [four]; omega)]
      have b1 : (4 * n - 2 * k == p) = false := by simpa using a1
      have b2 : (2 * k + 1 == p) = false := by simpa using a2
      simp [four, List.idxOf_cons, b1, b2, a3]
  · have hK : nsK n p = (4 * n - p) / 2 := if_neg h1
    have hI : nsI n p = if p % 2 = 0 then 0 else 3 := if_neg h1
    rw [hI]
    generalize nsK n p = k at hK
    by_cases h2 : p % 2 = 0
    · rw [if_pos h2]
      have a1 : 4 * n - 2 * k = p := by omega
      rw [if_pos (by simp [four]; omega)]
      simp [four, a1]
    · rw [if_neg h2]
      have a1 : ¬ (4 * n - 2 * k = p) := by omega
      have a2 : ¬ (2 * k + 1 = p) := by omega
      have a3 : ¬ (2 * k + 2 = p) := by omega
      have a4 : 4 * n - 2 * k - 1 = p := by omega
      rw [if_pos (by simp [four]; omega)]
      have b1 : (4 * n - 2 * k == p) = false := by simpa using a1
      have b2 : (2 * k + 1 == p) = false := by simpa using a2
      have b3 : (2 * k + 2 == p) = false := by simpa using a3
      simp [four, List.idxOf_cons, b1, b2, b3, a4]
theorem four_not {n p k : Int} (h0 : 0 ≤ k) (h1 : k < n) (h : nsOk n p = false ∨ k ≠ nsK n p) (hn : n ≤ 64) : p ∉ four n k := by
  intro hm
  have hp : p = 4 * n - 2 * k ∨ p = 2 * k + 1 ∨ p = 2 * k + 2 ∨ p = 4 * n - 2 * k - 1 := by simpa [four] using hm
  have hok : nsOk n p = true := decide_eq_true (by omega)
  rcases h with h | h
  · rw [hok] at h; cases h
  · apply h
    unfold nsK
    split <;> omega
end Sg
end Go.Proofs.Ytamnhbambklmkaa
