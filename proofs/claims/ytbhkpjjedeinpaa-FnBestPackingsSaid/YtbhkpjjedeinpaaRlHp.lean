/- Mathematics of the program's memory of packings that lead nowhere: whether the rest of the strips goes into the rolls depends on the spares alone, in any order. -/
import Derived.Test.YtbhkpjjedeinpaaRlMat3
namespace Go.Proofs.Ytbhkpjjedeinpaa
set_option linter.unusedVariables false

namespace Rl
/-- What is left of each of the rolls. -/
def spa (r : Int) (s p : List Int) (most : Nat) : List Int := (List.range most).map fun k => r - (loads s p).getD k 0
/-- The strips go into rolls with these spares. -/
def Fits : List Int → List Int → Prop
  | _, [] => True
  | l, x :: s => ∃ (k : Nat) (y : Int), l[k]? = some y ∧ x ≤ y ∧ Fits (l.set k (y - x)) s
theorem split_at {l : List Int} {k : Nat} {y : Int} (h : l[k]? = some y) (z : Int) : l = l.take k ++ y :: l.drop (k + 1) ∧ l.set k z = l.take k ++ z :: l.drop (k + 1) := by
  obtain ⟨hk, e⟩ := List.getElem?_eq_some_iff.1 h
  subst e
  refine ⟨?_, List.set_eq_take_append_cons_drop ▸ by rw [if_pos hk]⟩
  rw [← List.drop_eq_getElem_cons hk, List.take_append_drop]
theorem set_perm {l l' : List Int} (h : l.Perm l') {k k' : Nat} {y z : Int} (hk : l[k]? = some y) (hk' : l'[k']? = some y) : (l.set k z).Perm (l'.set k' z) := by
  obtain ⟨e1, e2⟩ := split_at hk z
  obtain ⟨e3, e4⟩ := split_at hk' z
  rw [e2, e4]
  rw [e1, e3] at h
  have h1 := (List.perm_middle.symm.trans h).trans List.perm_middle
  exact List.perm_middle.trans ((List.Perm.cons z h1.cons_inv).trans List.perm_middle.symm)
theorem Fits.perm {s : List Int} : ∀ {l l' : List Int}, l.Perm l' → Fits l s → Fits l' s := by
  induction s with
  | nil => intro l l' _ _; trivial
  | cons x s ih =>
    intro l l' h hf
    obtain ⟨k, y, hk, hx, hr⟩ := hf
    obtain ⟨k', hk'⟩ := List.getElem?_of_mem (h.mem_iff.1 (List.mem_of_getElem? hk))
    exact ⟨k', y, hk', hx, ih (set_perm h hk hk') hr⟩
theorem spa_len (r : Int) (s p : List Int) (most : Nat) : (spa r s p most).length = most := by simp [spa]
theorem spa_get {r : Int} {s p : List Int} {most k : Nat} (hk : k < most) : (spa r s p most)[k]? = some (r - (loads s p).getD k 0) := by
  unfold spa
  rw [List.getElem?_map, List.getElem?_range hk]
  rfl
theorem spa_next {r : Int} {s p : List Int} {most k : Nat} (hp : p.length < s.length) : spa r s (p ++ [(k : Int)]) most = (spa r s p most).set k (r - (loads s p).getD k 0 - s.getD p.length 0) := by
  apply List.ext_getElem?
  intro j
  by_cases hj : j < most
  · rw [spa_get hj, List.getElem?_set]
    rw [spa_len]
    rw [loads_snoc hp, addAt_get]
    by_cases e : k = j
    · subst e
      rw [if_pos rfl, if_pos rfl, if_pos hj]
      congr 1
      omega
    · rw [if_neg e, if_neg e, spa_get hj]
      congr 1
      omega
  · rw [List.getElem?_eq_none (by rw [spa_len]; omega), List.getElem?_eq_none (by rw [List.length_set, spa_len]; omega)]
theorem sea_fits {r : Int} {s : List Int} {most : Nat} : ∀ (n : Nat) (p : List Int), PreP r s p → p.length + n = s.length → rolls p ≤ most → ((sea r s most n p).isSome = true ↔ Fits (spa r s p most) (s.drop p.length))
  | 0, p, h, hl, hm => by
    rw [List.drop_eq_nil_of_le (by omega)]
    simp [sea, Fits]
  | n + 1, p, h, hl, hm => by
    have hp : p.length < s.length := by omega
    have hd : s.drop p.length = s.getD p.length 0 :: s.drop (p.length + 1) := by
      rw [List.drop_eq_getElem_cons hp, List.getD_eq_getElem?_getD, List.getElem?_eq_getElem hp]
      rfl
    have hx : s.getD p.length 0 ≤ r := by
      have := (okT_iff.1 h.ok).2.2 s[p.length] (List.getElem_mem _)
      rw [List.getD_eq_getElem?_getD, List.getElem?_eq_getElem hp]
      exact this.2
    have hL := loads_len s p (by omega)
    rw [hd]
    constructor
    · intro hs
      unfold sea at hs
      rw [List.isSome_findSome?] at hs
      obtain ⟨k, hk, hs⟩ := List.any_eq_true.1 hs
      have hk' := List.mem_range.1 hk
      split at hs
      · simp at hs
      · rename_i hb
        obtain ⟨hn, hr⟩ := h.next hp (k := k) (by omega) hb
        have ih := (sea_fits n (p ++ [(k : Int)]) hn (by simp; omega) (by rw [hr]; omega)).1 hs
        rw [spa_next hp] at ih
        refine ⟨k, _, spa_get (by omega), ?_, ?_⟩
        · by_cases hkl : k < (loads s p).length
          · have : ¬ r < (loads s p).getD k 0 + s.getD p.length 0 := fun h5 => hb ⟨hkl, h5⟩
            omega
          · have e0 : (loads s p).getD k 0 = 0 := by rw [List.getD_eq_getElem?_getD, List.getElem?_eq_none (by omega)]; rfl
            rw [e0]
            omega
        · simpa using ih
    · intro hf
      have key : ∃ k, k < most ∧ k ≤ (loads s p).length ∧ s.getD p.length 0 ≤ r - (loads s p).getD k 0 ∧ Fits ((spa r s p most).set k (r - (loads s p).getD k 0 - s.getD p.length 0)) (s.drop (p.length + 1)) := by
        obtain ⟨k, y, hk, hxy, hr⟩ := hf
        have hkm : k < most := by
          have := (List.getElem?_eq_some_iff.1 hk).1
          rwa [spa_len] at this
        rw [spa_get hkm] at hk
        injection hk with hk
        subst hk
        by_cases hkl : k ≤ (loads s p).length
        · exact ⟨k, hkm, hkl, hxy, hr⟩
        · have e1 : (loads s p).getD k 0 = 0 := by rw [List.getD_eq_getElem?_getD, List.getElem?_eq_none (by omega)]; rfl
          have e2 : (loads s p).getD (loads s p).length 0 = 0 := by rw [List.getD_eq_getElem?_getD, List.getElem?_eq_none (by omega)]; rfl
          have hm2 : (loads s p).length < most := by omega
          refine ⟨(loads s p).length, hm2, Nat.le_refl _, by rw [e2]; rw [e1] at hxy; exact hxy, ?_⟩
          rw [e2]
          rw [e1] at hr
          exact Fits.perm (set_perm (List.Perm.refl _) (y := r - 0) (by rw [spa_get hkm, e1]) (by rw [spa_get hm2, e2])) hr
      obtain ⟨k, hkm, hkl, hxy, hr⟩ := key
      have hb : ¬ (k < (loads s p).length ∧ r < (loads s p).getD k 0 + s.getD p.length 0) := by omega
      obtain ⟨hn, hrr⟩ := h.next hp hkl hb
      have ih := (sea_fits (most := most) n (p ++ [(k : Int)]) hn (by simp; omega) (by rw [hrr]; omega)).2 (by rw [spa_next hp]; simpa using hr)
      unfold sea
      rw [List.isSome_findSome?]
      refine List.any_eq_true.2 ⟨k, List.mem_range.2 (by omega), ?_⟩
      rw [if_neg hb]
      exact ih
theorem tot_perm {a b : List Int} (h : a.Perm b) : tot a = tot b := by
  induction h with
  | nil => rfl
  | cons x _ ih => simp only [tot, ih]
  | swap x y l => simp only [tot]; omega
  | trans _ _ ih1 ih2 => exact ih1.trans ih2
theorem tot_spa (r : Int) : ∀ (most : Nat) (L : List Int), L.length ≤ most → tot ((List.range most).map fun k => r - L.getD k 0) = (most : Int) * r - tot L
  | 0, L, h => by
    cases L with
    | nil => simp [tot]
    | cons y L => simp at h
  | m + 1, L, h => by
    rw [List.range_succ_eq_map, List.map_cons, List.map_map]
    cases L with
    | nil =>
      have ih := tot_spa r m [] (by simp)
      simp only [tot, List.getD_nil] at ih ⊢
      have e : (List.map ((fun k => r - (0 : Int)) ∘ Nat.succ) (List.range m)) = List.map (fun k => r - (0 : Int)) (List.range m) := by simp
      simp only [e, ih, Int.natCast_add, Int.add_mul]
      omega
    | cons y L =>
      have ih := tot_spa r m L (by simpa using h)
      simp only [tot]
      have e : (List.map ((fun k => r - (y :: L).getD k 0) ∘ Nat.succ) (List.range m)) = List.map (fun k => r - L.getD k 0) (List.range m) := by simp [Function.comp_def]
      rw [e, ih]
      simp only [List.getD_cons_zero, Int.natCast_add, Int.add_mul]
      omega
theorem spa_tot {r : Int} {s p : List Int} {most : Nat} (hp : p.length ≤ s.length) (hm : rolls p ≤ most) : tot (spa r s p most) = (most : Int) * r - tot (s.take p.length) := by
  unfold spa
  rw [tot_spa r most (loads s p) (by rw [loads_len s p hp]; exact hm), ← loads_cut, tot_loads _ _ (by simp; omega)]
theorem tot_take_lt {s : List Int} (hs : ∀ x ∈ s, 1 ≤ x) {i j : Nat} (h : i < j) (hj : j ≤ s.length) : tot (s.take i) < tot (s.take j) := by
  have e : s.take j = s.take i ++ (s.take j).drop i := by
    have := List.take_append_drop i (s.take j)
    rw [List.take_take, Nat.min_eq_left (by omega)] at this
    exact this.symm
  have hpos : ∀ l : List Int, (∀ x ∈ l, 1 ≤ x) → 0 < l.length → 0 < tot l := by
    intro l
    induction l with
    | nil => simp
    | cons a l ih =>
      intro h1 _
      have ha := h1 a (by simp)
      simp only [tot]
      cases l with
      | nil => simp [tot]; omega
      | cons b l => have := ih (fun x hx => h1 x (by simp [hx])) (by simp); omega
  rw [e, tot_append]
  have := hpos ((s.take j).drop i) (fun x hx => hs x (List.mem_of_mem_take (List.mem_of_mem_drop hx))) (by simp; omega)
  omega
/-- Packings with the same spares, in any order, lead on alike. -/
theorem sea_perm {r : Int} {s p p' : List Int} {most : Nat} (h : PreP r s p) (h' : PreP r s p') (hl : p.length ≤ s.length) (hl' : p'.length ≤ s.length) (hm : rolls p ≤ most) (hm' : rolls p' ≤ most) (hp : (spa r s p most).Perm (spa r s p' most)) (hn : sea r s most (s.length - p.length) p = none) : sea r s most (s.length - p'.length) p' = none := by
  have hs : ∀ x ∈ s, 1 ≤ x := fun x hx => ((okT_iff.1 h.ok).2.2 x hx).1
  have ht := tot_perm hp
  rw [spa_tot hl hm, spa_tot hl' hm'] at ht
  have e : p.length = p'.length := by
    rcases Nat.lt_trichotomy p.length p'.length with h1 | h1 | h1
    · have := tot_take_lt hs h1 hl'; omega
    · exact h1
    · have := tot_take_lt hs h1 hl; omega
  cases hx : sea r s most (s.length - p'.length) p' with
  | none => rfl
  | some R =>
    have h1 := (sea_fits (s.length - p'.length) p' h' (by omega) hm').1 (by rw [hx]; rfl)
    rw [← e] at h1
    have h2 := (sea_fits (s.length - p.length) p h (by omega) hm).2 (Fits.perm hp.symm h1)
    rw [hn] at h2
    cases h2
/-- A list of numbers after which nothing more fits. -/
def Hop (r : Int) (s : List Int) (most : Nat) (K : List Int) : Prop :=
  ∀ p, PreP r s p → p.length ≤ s.length → rolls p ≤ most → (spa r s p most ++ List.replicate (12 - most) 0).Perm K → sea r s most (s.length - p.length) p = none
theorem Hop.of {r : Int} {s p K : List Int} {most : Nat} (h : PreP r s p) (hl : p.length ≤ s.length) (hm : rolls p ≤ most) (hp : (spa r s p most ++ List.replicate (12 - most) 0).Perm K) (hn : sea r s most (s.length - p.length) p = none) : Hop r s most K :=
  fun p' h' hl' hm' hp' => sea_perm h h' hl hl' hm hm' ((List.perm_append_right_iff _).1 (hp.trans hp'.symm)) hn
/-- Each number that a packing could have has a strip. -/
theorem numB_has {p : List Int} : ∀ {n : Int}, 0 ≤ n → numB n p = true → ∀ j : Int, n ≤ j → j < max n (rolls p : Int) → j ∈ p := by
  induction p with
  | nil => intro n h0 _ j h1 h2; simp only [rolls] at h2; omega
  | cons a p ih =>
    intro n h0 h j h1 h2
    simp only [numB, Bool.and_eq_true, decide_eq_true_eq] at h
    simp only [rolls] at h2
    by_cases hj : j < max n (a + 1)
    · exact List.mem_cons.2 (.inl (by omega))
    · exact List.mem_cons.2 (.inr (ih (by omega) h.2 j (by omega) (by omega)))
theorem sumAt_pos {k : Nat} : ∀ {s p : List Int}, (∀ x ∈ s, 1 ≤ x) → p.length ≤ s.length → 0 ≤ sumAt k s p ∧ ((∃ j ∈ p, j.toNat = k) → 1 ≤ sumAt k s p)
  | [], [], _, _ => by simp [sumAt]
  | [], _ :: _, _, h => by simp at h
  | _ :: _, [], _, _ => by simp [sumAt]
  | x :: s, a :: p, hs, h => by
    have h1 := hs x (by simp)
    have ih := sumAt_pos (k := k) (s := s) (p := p) (fun y hy => hs y (by simp [hy])) (by simpa using h)
    simp only [sumAt]
    refine ⟨by split <;> omega, ?_⟩
    rintro ⟨j, hj, hk⟩
    rcases List.mem_cons.1 hj with rfl | hj
    · rw [if_pos hk]; omega
    · have := ih.2 ⟨j, hj, hk⟩
      split <;> omega
/-- A roll is whole just if it has no number yet. -/
theorem whole_iff {r : Int} {s p : List Int} (h : PreP r s p) (hl : p.length ≤ s.length) (k : Nat) : r - (loads s p).getD k 0 = r ↔ (loads s p).length ≤ k := by
  have hs : ∀ x ∈ s, 1 ≤ x := fun x hx => ((okT_iff.1 h.ok).2.2 x hx).1
  constructor
  · intro e
    rcases Nat.lt_or_ge k (loads s p).length with h1 | h1
    · rw [loads_len s p hl] at h1
      have h2 := numB_has (by omega) h.num (k : Int) (by omega) (by omega)
      have h3 := (sumAt_pos (k := k) hs hl).2 ⟨_, h2, by simp⟩
      rw [loads_get] at e
      omega
    · exact h1
  · intro h1
    rw [List.getD_eq_getElem?_getD, List.getElem?_eq_none h1]
    simp
theorem spa_bd {r : Int} {s p : List Int} {most : Nat} (h : PreP r s p) (hl : p.length ≤ s.length) : ∀ y ∈ spa r s p most, 0 ≤ y ∧ y ≤ r := by
  intro y hy
  have hs : ∀ x ∈ s, 1 ≤ x := fun x hx => ((okT_iff.1 h.ok).2.2 x hx).1
  have hr := (okT_iff.1 h.ok).1
  unfold spa at hy
  obtain ⟨k, hk, rfl⟩ := List.mem_map.1 hy
  have h1 := (sumAt_pos (k := k) hs hl).1
  rw [← loads_get] at h1
  refine ⟨?_, by omega⟩
  rcases Nat.lt_or_ge k (loads s p).length with h2 | h2
  · have h3 := h.le (loads s p)[k] (List.getElem_mem _)
    have e : (loads s p).getD k 0 = (loads s p)[k] := by rw [List.getD_eq_getElem?_getD, List.getElem?_eq_getElem h2]; rfl
    omega
  · have e : (loads s p).getD k 0 = 0 := by rw [List.getD_eq_getElem?_getD, List.getElem?_eq_none h2]; rfl
    omega
end Rl
end Go.Proofs.Ytbhkpjjedeinpaa
