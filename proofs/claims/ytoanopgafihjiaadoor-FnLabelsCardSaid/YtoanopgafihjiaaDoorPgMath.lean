/- The pages of a book as lists of numbers: first pages, runs, blank pages, the chapter of a page. Plain mathematics. -/
import Derived.Test.YtoanopgafihjiaaDoorWords
namespace Go.Proofs.YtoanopgafihjiaaDoor.Pg
/-- The page on which a chapter begins, if the next free page is n. -/
def up (r : Bool) (n : Int) : Int := if r = true ∧ n % 2 = 0 then n + 1 else n
/-- The first pages of the chapters l, if the next free page is n. -/
def starts (r : Bool) : Int → List Int → List Int
  | _, [] => []
  | n, c :: cs => up r n :: starts r (up r n + c) cs
/-- The free page behind the chapters l. -/
def stop (r : Bool) : Int → List Int → Int
  | n, [] => n
  | n, c :: cs => stop r (up r n + c) cs
/-- The first and the last page of each chapter, one behind the other. -/
def runs (r : Bool) : Int → List Int → List Int
  | _, [] => []
  | n, c :: cs => up r n :: (up r n + c - 1) :: runs r (up r n + c) cs
/-- The blank pages before the chapters l. -/
def blanks (r : Bool) : Int → List Int → List Int
  | _, [] => []
  | n, c :: cs => (if n < up r n then [n] else []) ++ blanks r (up r n + c) cs
/-- The chapter of a page, the first one being k, or -1. -/
def chap (r : Bool) : Int → List Int → Int → Int → Int
  | _, [], _, _ => -1
  | n, c :: cs, p, k => if up r n ≤ p ∧ p ≤ up r n + c - 1 then k else chap r (up r n + c) cs p (k + 1)

theorem up_ge (r : Bool) (n : Int) : n ≤ up r n ∧ up r n ≤ n + 1 := by unfold up; split <;> omega
theorem up_odd (n : Int) : up true n % 2 = 1 := by unfold up; split <;> simp_all <;> omega
theorem up_false (n : Int) : up false n = n := by simp [up]

theorem starts_snoc (r : Bool) (n : Int) (l : List Int) (c : Int) : starts r n (l ++ [c]) = starts r n l ++ [up r (stop r n l)] := by
  induction l generalizing n with
  | nil => rfl
  | cons a l ih => simp [starts, stop, ih]
theorem stop_snoc (r : Bool) (n : Int) (l : List Int) (c : Int) : stop r n (l ++ [c]) = up r (stop r n l) + c := by
  induction l generalizing n with
  | nil => rfl
  | cons a l ih => simp [stop, ih]
theorem runs_snoc (r : Bool) (n : Int) (l : List Int) (c : Int) : runs r n (l ++ [c]) = runs r n l ++ [up r (stop r n l), up r (stop r n l) + c - 1] := by
  induction l generalizing n with
  | nil => rfl
  | cons a l ih => simp [runs, stop, ih]
theorem blanks_snoc (r : Bool) (n : Int) (l : List Int) (c : Int) : blanks r n (l ++ [c]) = blanks r n l ++ (if stop r n l < up r (stop r n l) then [stop r n l] else []) := by
  induction l generalizing n with
  | nil => exact List.append_nil _
  | cons a l ih =>
    show _ ++ blanks r _ (l ++ [c]) = (_ ++ blanks r _ l) ++ _
    rw [ih, List.append_assoc]
    rfl
theorem starts_len (r : Bool) (n : Int) (l : List Int) : (starts r n l).length = l.length := by
  induction l generalizing n with
  | nil => rfl
  | cons a l ih => simp [starts, ih]
theorem runs_len (r : Bool) (n : Int) (l : List Int) : (runs r n l).length = 2 * l.length := by
  induction l generalizing n with
  | nil => rfl
  | cons a l ih => simp [runs, ih]; omega
theorem take_snoc {α : Type} (l : List α) (k : Nat) (x : α) (hx : l[k]? = some x) : l.take (k + 1) = l.take k ++ [x] := by
  rw [List.take_add_one, hx]; rfl
theorem starts_at (r : Bool) (n : Int) (l : List Int) (k : Nat) (h : k < l.length) : (starts r n l)[k]? = some (up r (stop r n (l.take k))) := by
  induction l generalizing n k with
  | nil => simp at h
  | cons a l ih =>
    cases k with
    | zero => rfl
    | succ k => simpa [starts, stop] using ih (up r n + a) k (by simpa using h)
theorem runs_at (r : Bool) (n : Int) (l : List Int) (k : Nat) (c : Int) (h : l[k]? = some c) :
    (runs r n l)[2 * k]? = some (up r (stop r n (l.take k))) ∧ (runs r n l)[2 * k + 1]? = some (up r (stop r n (l.take k)) + c - 1) := by
  induction l generalizing n k with
  | nil => simp at h
  | cons a l ih =>
    cases k with
    | zero => simp at h; subst h; exact ⟨rfl, rfl⟩
    | succ k =>
      have := ih (up r n + a) k (by simpa using h)
      rw [show 2 * (k + 1) = 2 * k + 1 + 1 from by omega]
      simpa [runs, stop] using this
theorem stop_ge (r : Bool) (n : Int) (l : List Int) (h : ∀ c ∈ l, 0 ≤ c) : n ≤ stop r n l := by
  induction l generalizing n with
  | nil => exact Int.le_refl _
  | cons a l ih =>
    have h1 := ih (up r n + a) (fun c hc => h c (by simp [hc]))
    have h2 := up_ge r n
    have h3 := h a (by simp)
    show n ≤ stop r (up r n + a) l
    omega
theorem stop_le (r : Bool) (n : Int) (l : List Int) (M : Int) (h : ∀ c ∈ l, c ≤ M) : stop r n l ≤ n + l.length * (M + 1) := by
  induction l generalizing n with
  | nil => simp [stop]
  | cons a l ih =>
    have h1 := ih (up r n + a) (fun c hc => h c (by simp [hc]))
    have h2 := up_ge r n
    have h3 := h a (by simp)
    show stop r (up r n + a) l ≤ _
    rw [List.length_cons, Int.natCast_add, Int.add_mul]
    simp only [Int.natCast_one, Int.one_mul]
    omega
theorem chap_at (r : Bool) (n : Int) (l : List Int) (p k : Int) (j : Nat) (c : Int) (h : l[j]? = some c) (hrel : chap r n l p k = chap r (stop r n (l.take j)) (l.drop j) p (k + j)) :
    chap r n l p k = if up r (stop r n (l.take j)) ≤ p ∧ p ≤ up r (stop r n (l.take j)) + c - 1 then k + j else chap r (stop r n (l.take (j + 1))) (l.drop (j + 1)) p (k + (j + 1 : Nat)) := by
  obtain ⟨hj, hc⟩ := List.getElem?_eq_some_iff.1 h
  rw [hrel, List.drop_eq_getElem_cons hj, hc, chap, take_snoc l j c h, stop_snoc]
  simp [Int.add_assoc]
theorem chap_ge (r : Bool) (n : Int) (l : List Int) (p k : Int) : chap r n l p k = -1 ∨ k ≤ chap r n l p k := by
  induction l generalizing n k with
  | nil => exact .inl rfl
  | cons a l ih =>
    rw [chap]
    split
    · exact .inr (Int.le_refl _)
    · rcases ih (up r n + a) (k + 1) with h | h
      · exact .inl h
      · exact .inr (by omega)
theorem chap_lt (r : Bool) (n : Int) (l : List Int) (p k : Int) (hk : 0 ≤ k) : chap r n l p k < k + l.length := by
  induction l generalizing n k with
  | nil => simp [chap]; omega
  | cons a l ih =>
    rw [chap]
    split
    · simp
      omega
    · have := ih (up r n + a) (k + 1) (by omega)
      simp
      omega
theorem chap_spot (r : Bool) (n : Int) (l : List Int) (p : Int) (k m : Nat) (h : chap r n l p k = (m : Int)) (hk : k ≤ m) :
    ∃ c, l[m - k]? = some c ∧ up r (stop r n (l.take (m - k))) ≤ p ∧ p ≤ up r (stop r n (l.take (m - k))) + c - 1 := by
  induction l generalizing n k with
  | nil => simp [chap] at h
  | cons a l ih =>
    rw [chap] at h
    split at h
    · rename_i hp
      have : k = m := by omega
      subst this
      simpa [stop] using hp
    · have hlt : k + 1 ≤ m := by
        rcases chap_ge r (up r n + a) l p (k + 1) with h1 | h1 <;> omega
      have := ih (up r n + a) (k + 1) (by simpa using h) hlt
      rw [show m - k = (m - (k + 1)) + 1 from by omega]
      simpa [stop] using this

theorem blanks_mem (r : Bool) (n : Int) (l : List Int) (k : Int) (hk : 0 ≤ k) (h : ∀ c ∈ l, 1 ≤ c) (p : Int) : p ∈ blanks r n l ↔ n ≤ p ∧ p < stop r n l ∧ chap r n l p k = -1 := by
  induction l generalizing n k with
  | nil => simp [blanks, stop]; omega
  | cons a l ih =>
    have h1 := ih (up r n + a) (k + 1) (by omega) (fun c hc => h c (by simp [hc]))
    have h2 := up_ge r n
    have h3 := h a (by simp)
    have h4 := stop_ge r (up r n + a) l (fun c hc => by have := h c (by simp [hc]); omega)
    rw [blanks, List.mem_append, h1, stop, chap]
    have h5 : chap r (up r n + a) l p (k + 1) = -1 ∨ up r n + a ≤ p := by
      clear h1
      rcases Int.lt_or_le p (up r n + a) with hlt | hge
      · left
        have aux : ∀ (q : Int) (m : Int) (cs : List Int), p < q → (∀ c ∈ cs, 1 ≤ c) → chap r q cs p m = -1 := by
          intro q m cs hq hcs
          induction cs generalizing q m with
          | nil => rfl
          | cons b cs ihc =>
            have := up_ge r q
            have hb := hcs b (by simp)
            rw [chap, if_neg (by omega)]
            exact ihc _ _ (by omega) (fun c hc => hcs c (by simp [hc]))
        exact aux _ _ _ hlt (fun c hc => h c (by simp [hc]))
      · exact .inr hge
    by_cases hn : n < up r n
    · rw [if_pos hn]
      simp only [List.mem_singleton]
      constructor
      · rintro (rfl | ⟨ha, hb, hc⟩)
        · refine ⟨Int.le_refl _, by omega, ?_⟩
          rw [if_neg (by omega)]
          rcases h5 with h5 | h5
          · exact h5
          · omega
        · exact ⟨by omega, hb, by rw [if_neg (by omega)]; exact hc⟩
      · rintro ⟨ha, hb, hc⟩
        by_cases hin : up r n ≤ p ∧ p ≤ up r n + a - 1
        · rw [if_pos hin] at hc
          omega
        · rw [if_neg hin] at hc
          by_cases hp : p = n
          · exact .inl hp
          · right
            exact ⟨by omega, hb, hc⟩
    · rw [if_neg hn]
      simp only [List.not_mem_nil, false_or]
      constructor
      · rintro ⟨ha, hb, hc⟩
        exact ⟨by omega, hb, by rw [if_neg (by omega)]; exact hc⟩
      · rintro ⟨ha, hb, hc⟩
        by_cases hin : up r n ≤ p ∧ p ≤ up r n + a - 1
        · rw [if_pos hin] at hc
          omega
        · rw [if_neg hin] at hc
          exact ⟨by omega, hb, hc⟩
theorem blanks_ge (r : Bool) (n : Int) (l : List Int) (h : ∀ c ∈ l, 1 ≤ c) (p : Int) (hp : p ∈ blanks r n l) : n ≤ p ∧ p < stop r n l := by
  have := (blanks_mem r n l 0 (by omega) h p).1 hp
  exact ⟨this.1, this.2.1⟩
theorem blanks_sorted (r : Bool) (n : Int) (l : List Int) (h : ∀ c ∈ l, 1 ≤ c) : (blanks r n l).Pairwise (· < ·) := by
  induction l generalizing n with
  | nil => exact List.Pairwise.nil
  | cons a l ih =>
    have hl : ∀ c ∈ l, 1 ≤ c := fun c hc => h c (by simp [hc])
    have h1 := ih (up r n + a) hl
    have h2 := up_ge r n
    have h3 := h a (by simp)
    rw [blanks]
    split
    · rw [List.singleton_append, List.pairwise_cons]
      exact ⟨fun q hq => by have := (blanks_ge r _ l hl q hq).1; omega, h1⟩
    · simpa using h1
theorem filter_next (l : List Int) (p : Int) (h : l.Pairwise (· < ·)) : l.filter (fun x => decide (x < p + 1)) = l.filter (fun x => decide (x < p)) ++ (if p ∈ l then [p] else []) := by
  induction l with
  | nil => simp
  | cons a l ih =>
    rw [List.pairwise_cons] at h
    obtain ⟨ha, hl⟩ := h
    have hi := ih hl
    rcases Int.lt_trichotomy a p with hlt | rfl | hgt
    · rw [List.filter_cons_of_pos (by simp; omega), List.filter_cons_of_pos (by simp; omega), hi]
      have : (p ∈ a :: l) ↔ p ∈ l := by simp; omega
      simp only [this, List.cons_append]
    · have hnone : ∀ q : Int, q ≤ a + 1 → l.filter (fun x => decide (x < q)) = [] := by
        intro q hq
        rw [List.filter_eq_nil_iff]
        intro x hx
        have := ha x hx
        simp
        omega
      rw [List.filter_cons_of_pos (by simp; omega), List.filter_cons_of_neg (by simp), hnone _ (Int.le_refl _), hnone _ (by omega)]
      simp
    · have hnone : ∀ q : Int, q ≤ p + 1 → (a :: l).filter (fun x => decide (x < q)) = [] := by
        intro q hq
        rw [List.filter_eq_nil_iff]
        intro x hx
        rcases List.mem_cons.1 hx with rfl | hx
        · simp; omega
        · have := ha x hx; simp; omega
      rw [hnone _ (Int.le_refl _), hnone _ (by omega), if_neg]
      · rfl
      · intro hp
        rcases List.mem_cons.1 hp with rfl | hp
        · omega
        · have := ha p hp; omega
theorem filter_all (l : List Int) (p : Int) (h : ∀ x ∈ l, x < p) : l.filter (fun x => decide (x < p)) = l := by
  rw [List.filter_eq_self]
  intro x hx
  simpa using h x hx
theorem filter_none (l : List Int) (p : Int) (h : ∀ x ∈ l, p ≤ x) : l.filter (fun x => decide (x < p)) = [] := by
  rw [List.filter_eq_nil_iff]
  intro x hx
  have := h x hx
  simp; omega
theorem blanks_len (r : Bool) (n : Int) (l : List Int) : (blanks r n l).length ≤ l.length := by
  induction l generalizing n with
  | nil => simp [blanks]
  | cons a l ih =>
    have := ih (up r n + a)
    rw [blanks, List.length_append, List.length_cons]
    split <;> simp <;> omega
theorem stop_sum (r : Bool) (n : Int) (l : List Int) : stop r n l = n + l.sum + (blanks r n l).length := by
  induction l generalizing n with
  | nil => simp [stop, blanks]
  | cons a l ih =>
    rw [stop, ih, blanks, List.length_append, List.sum_cons]
    have := up_ge r n
    split <;> simp <;> omega
theorem blanks_false (n : Int) (l : List Int) : blanks false n l = [] := by
  induction l generalizing n with
  | nil => rfl
  | cons a l ih => simp [blanks, up_false, ih]
theorem starts_odd (n : Int) (l : List Int) (k : Nat) (x : Int) (hx : (starts true n l)[k]? = some x) : x % 2 = 1 := by
  induction l generalizing n k with
  | nil => simp [starts] at hx
  | cons a l ih =>
    cases k with
    | zero => simp [starts] at hx; subst hx; exact up_odd n
    | succ k => exact ih (up true n + a) k (by simpa [starts] using hx)
end Go.Proofs.YtoanopgafihjiaaDoor.Pg
