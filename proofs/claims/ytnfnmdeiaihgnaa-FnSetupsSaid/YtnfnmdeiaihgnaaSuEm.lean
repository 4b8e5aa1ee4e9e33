/- Mathematics of chapter 13: changes and efforts, and the best order of jobs. -/
import Derived.Test.YtnfnmdeiaihgnaaSuMath
import Derived.Test.YtnfnmdeiaihgnaaRkM
namespace Go.Proofs.Ytnfnmdeiaihgnaa
open Go.RowKit
set_option linter.unusedVariables false
namespace Su
/-- The changes up to an index. -/
def chT (a b : List Un) : Nat → Int
  | 0 => 0
  | k + 1 => chT a b k + (if a[k]? = b[k]? then 0 else 1)
def chR (a b : List Un) : Int := chT a b (max a.length b.length)
def ccC (a b : List Un) : Int := if okU a = true ∧ okU b = true then 0 else 1
def ccR (a b : List Un) : Int := if okU a = true ∧ okU b = true then chR a b else 0
theorem chT_bd (a b : List Un) (k : Nat) : 0 ≤ chT a b k ∧ chT a b k ≤ k := by
  induction k with
  | zero => exact ⟨Int.le_refl _, Int.le_refl _⟩
  | succ k ih =>
    unfold chT
    split <;> omega
theorem chT_same {a b : List Un} {k : Nat} (h : a[k]? = b[k]?) : chT a b (k + 1) = chT a b k := by
  show chT a b k + (if a[k]? = b[k]? then 0 else 1) = _
  rw [if_pos h]; omega
theorem chT_diff {a b : List Un} {k : Nat} (h : a[k]? ≠ b[k]?) : chT a b (k + 1) = chT a b k + 1 := by
  show chT a b k + (if a[k]? = b[k]? then 0 else 1) = _
  rw [if_neg h]
theorem chR_bd {a b : List Un} (ha : a.length ≤ 6) (hb : b.length ≤ 6) : 0 ≤ chR a b ∧ chR a b ≤ 6 := by
  have h := chT_bd a b (max a.length b.length)
  unfold chR
  omega
theorem chT_comm (a b : List Un) (k : Nat) : chT a b k = chT b a k := by
  induction k with
  | zero => rfl
  | succ k ih =>
    show chT a b k + _ = chT b a k + _
    rw [ih]
    by_cases h : a[k]? = b[k]?
    · rw [if_pos h, if_pos h.symm]
    · rw [if_neg h, if_neg (fun e => h e.symm)]
/-- The set-up of a job. -/
def job (ls : List (List Un)) (x : Int) : List Un := (ls[x.toNat]?).getD []
/-- The set-up of the machine after the first k jobs. -/
def lastU (ls : List (List Un)) (o : List Int) : Nat → List Un
  | 0 => []
  | k + 1 => job ls (o.getD k 0)
def efT (ls : List (List Un)) (o : List Int) : Nat → Int
  | 0 => 0
  | k + 1 => efT ls o k + chR (lastU ls o k) (lastU ls o (k + 1))
def efR (ls : List (List Un)) (o : List Int) : Int := efT ls o o.length
theorem lastU_next {ls : List (List Un)} {o : List Int} {k x : Nat} {l : List Un} (hx : o[k]? = some (x : Int)) (hl : ls[x]? = some l) : lastU ls o (k + 1) = l := by
  show job ls (o.getD k 0) = l
  unfold job
  rw [List.getD_eq_getElem?_getD, hx]
  show (ls[(x : Int).toNat]?).getD [] = l
  rw [Int.toNat_natCast, hl]
  rfl
theorem job_len {ls : List (List Un)} (h : ∀ l ∈ ls, l.length ≤ 6) (x : Int) : (job ls x).length ≤ 6 := by
  unfold job
  cases e : ls[x.toNat]? with
  | none => exact Nat.zero_le _
  | some l => exact h l (List.mem_of_getElem? e)
theorem lastU_len {ls : List (List Un)} (h : ∀ l ∈ ls, l.length ≤ 6) (o : List Int) : ∀ k, (lastU ls o k).length ≤ 6
  | 0 => Nat.zero_le _
  | k + 1 => job_len h _
theorem efT_bd {ls : List (List Un)} (h : ∀ l ∈ ls, l.length ≤ 6) (o : List Int) (k : Nat) : 0 ≤ efT ls o k ∧ efT ls o k ≤ 6 * k := by
  induction k with
  | zero => exact ⟨Int.le_refl _, Int.le_refl _⟩
  | succ k ih =>
    have := chR_bd (lastU_len h o k) (lastU_len h o (k + 1))
    show 0 ≤ efT ls o k + _ ∧ efT ls o k + _ ≤ _
    omega
/-- The code of several set-ups, and of an order of them. -/
def jbC (ls : List (List Un)) : Int := if ls.all okU = true then (if ls.length ≤ 7 then 0 else 2) else 1
def jfC (ls : List (List Un)) (o : List Int) : Int := if jbC ls = 0 then (if isOrd o ∧ o.length = ls.length then 0 else 2) else jbC ls
def jfR (ls : List (List Un)) (o : List Int) : Int := if jfC ls o = 0 then efR ls o else 0
theorem jbC0 {ls : List (List Un)} (h : jbC ls = 0) : ls.length ≤ 7 ∧ ∀ l ∈ ls, l.length ≤ 6 := by
  unfold jbC at h
  split at h
  · rename_i h1
    split at h
    · rename_i h2
      refine ⟨h2, fun l hl => ?_⟩
      have := List.all_eq_true.1 h1 l hl
      unfold okU at this
      simp only [Bool.and_eq_true, decide_eq_true_eq] at this
      exact this.1
    · omega
  · omega
/-- The effort of the order with a rank. -/
def bjE (ls : List (List Un)) (r : Nat) : Int := efR ls (oO ls.length r ls.length)
/-- The best order of those with ranks below k. -/
def BjK (ls : List (List Un)) (k : Nat) (o : List Int) (e : Int) : Prop :=
  (k = 0 ∧ o = [] ∧ e = -1) ∨ ∃ r : Nat, r < k ∧ o = oO ls.length r ls.length ∧ e = bjE ls r ∧ ∀ q : Nat, q < k → e ≤ bjE ls q ∧ (q < r → e < bjE ls q)
theorem BjK.zero (ls : List (List Un)) : BjK ls 0 [] (-1) := .inl ⟨rfl, rfl, rfl⟩
theorem BjK.take {ls : List (List Un)} {k : Nat} {o : List Int} {e : Int} (h : BjK ls k o e) (hb : ∀ q, 0 ≤ bjE ls q) (hlt : e < 0 ∨ bjE ls k < e) : BjK ls (k + 1) (oO ls.length k ls.length) (bjE ls k) := by
  refine .inr ⟨k, by omega, rfl, rfl, fun q hq => ?_⟩
  rcases h with ⟨rfl, _, _⟩ | ⟨r, hr, _, he, hall⟩
  · obtain rfl : q = 0 := by omega
    exact ⟨Int.le_refl _, fun h => by omega⟩
  · have h0 := hb r
    by_cases e1 : q = k
    · subst e1; exact ⟨Int.le_refl _, fun h => by omega⟩
    · have := (hall q (by omega)).1
      exact ⟨by omega, fun _ => by omega⟩
theorem BjK.skip {ls : List (List Un)} {k : Nat} {o : List Int} {e : Int} (h : BjK ls k o e) (h0 : ¬ e < 0) (hge : ¬ bjE ls k < e) : BjK ls (k + 1) o e := by
  rcases h with ⟨_, _, rfl⟩ | ⟨r, hr, ho, he, hall⟩
  · exact absurd (by omega) h0
  · refine .inr ⟨r, by omega, ho, he, fun q hq => ?_⟩
    by_cases e1 : q = k
    · subst e1; exact ⟨by omega, fun h => by omega⟩
    · exact hall q (by omega)
/-- The best order of all. -/
def BjR (ls : List (List Un)) (o : List Int) (e : Int) : Prop :=
  ∃ r : Nat, (r : Int) < fac ls.length ∧ o = oO ls.length r ls.length ∧ e = bjE ls r ∧ ∀ q : Nat, (q : Int) < fac ls.length → e ≤ bjE ls q ∧ (q < r → e < bjE ls q)
theorem BjK.all {ls : List (List Un)} {k : Nat} {o : List Int} {e : Int} (h : BjK ls k o e) (hk : (k : Int) = fac ls.length) (hp : 0 < k) : BjR ls o e := by
  rcases h with ⟨h0, _, _⟩ | ⟨r, hr, ho, he, hall⟩
  · omega
  · exact ⟨r, by omega, ho, he, fun q hq => hall q (by omega)⟩
theorem BjR.same {ls : List (List Un)} {o o' : List Int} {e e' : Int} (h : BjR ls o e) (h' : BjR ls o' e') : o = o' ∧ e = e' := by
  obtain ⟨r, h1, h2, h3, h4⟩ := h
  obtain ⟨r', h1', h2', h3', h4'⟩ := h'
  have a1 := h4 r' h1'
  have a2 := h4' r h1
  obtain rfl : r = r' := by
    rcases Nat.lt_trichotomy r r' with hl | hl | hl
    · have := a2.2 hl; omega
    · exact hl
    · have := a1.2 hl; omega
  exact ⟨h2.trans h2'.symm, h3.trans h3'.symm⟩
theorem BjR.least {ls : List (List Un)} {o o' : List Int} {e : Int} (h : BjR ls o e) (hn : ls.length ≤ 7) (ho' : isOrd o') (hl' : o'.length = ls.length) : e ≤ efR ls o' := by
  obtain ⟨r, h1, h2, h3, h4⟩ := h
  have hr := rk_range o'
  have h5 := (h4 (rk o' o'.length).toNat (by rw [← hl']; omega)).1
  have h6 := order_of_rank o' ho'
  unfold bjE at h5
  rw [Int.toNat_of_nonneg hr.1, ← hl', h6] at h5
  exact h5
theorem BjR.ord {ls : List (List Un)} {o : List Int} {e : Int} (h : BjR ls o e) (hn : ls.length ≤ 7) : isOrd o ∧ o.length = ls.length ∧ e = efR ls o := by
  obtain ⟨r, h1, h2, h3, h4⟩ := h
  have := oO_ord ls.length (by omega) r (by omega) h1
  rw [← h2] at this
  exact ⟨this.1, this.2, by rw [h3, h2]; rfl⟩
/-- An order is the best one if none has less effort and each other one with as much comes behind it. -/
theorem BjR.of {ls : List (List Un)} {o : List Int} (hn : ls.length ≤ 7) (ho : isOrd o) (hl : o.length = ls.length)
    (h : ∀ o', isOrd o' → o'.length = ls.length → efR ls o ≤ efR ls o' ∧ (efR ls o' = efR ls o → o' = o ∨ ∃ (i : Nat) (x y : Int), o'.take i = o.take i ∧ o'[i]? = some x ∧ o[i]? = some y ∧ y < x)) : BjR ls o (efR ls o) := by
  have hr := rk_range o
  have h6 := order_of_rank o ho
  refine ⟨(rk o o.length).toNat, by rw [← hl]; omega, ?_, ?_, fun q hq => ?_⟩
  · rw [Int.toNat_of_nonneg hr.1, ← hl, h6]
  · unfold bjE
    rw [Int.toNat_of_nonneg hr.1, ← hl, h6]
  · have hq2 := oO_ord ls.length (by omega) q (by omega) hq
    have h7 := h _ hq2.1 hq2.2
    refine ⟨h7.1, fun hlt => ?_⟩
    rcases Int.lt_or_eq_of_le h7.1 with h8 | h8
    · exact h8
    · exfalso
      have hrk := rank_of_order ls.length (by omega) q (by omega) hq
      rcases h7.2 h8.symm with h9 | ⟨i, x, y, ht, hx, hy, hxy⟩
      · rw [← h9, hq2.2, hrk] at hlt
        omega
      · have := rank_lex _ _ hq2.1 ho (by rw [hq2.2, hl]) i x y ht hx hy hxy
        rw [hq2.2, hrk] at this
        omega
end Su
end Go.Proofs.Ytnfnmdeiaihgnaa
