/- The search for the lexicographically smallest packing with the least number of rolls. -/
import Derived.Test.YtbhkpjjedeinpaaRlMat2
namespace Go.Proofs.Ytbhkpjjedeinpaa
namespace Rl
/-- The model's search: n strips are left behind p. -/
def sea (r : Int) (s : List Int) (most : Nat) : Nat → List Int → Option (List Int)
  | 0, p => some p
  | n + 1, p => (List.range (min ((loads s p).length + 1) most)).findSome? fun k => if k < (loads s p).length ∧ r < (loads s p).getD k 0 + s.getD p.length 0 then none else sea r s most n (p ++ [(k : Int)])
def bestF (r : Int) (s : List Int) : Nat → Nat → List Int
  | 0, _ => []
  | f + 1, m => match sea r s m s.length [] with
    | some R => R
    | none => bestF r s f (m + 1)
def best (r : Int) (s : List Int) : List Int := bestF r s (s.length + 1) 0
def lexLe : List Int → List Int → Prop
  | [], _ => True
  | _ :: _, [] => False
  | x :: a, y :: b => x < y ∨ (x = y ∧ lexLe a b)
theorem lexLe.refl (a : List Int) : lexLe a a := by
  induction a with
  | nil => trivial
  | cons x a ih => exact .inr ⟨rfl, ih⟩
theorem lexLe.anti {a b : List Int} (h : lexLe a b) (k : lexLe b a) : a = b := by
  induction a generalizing b with
  | nil =>
    cases b with
    | nil => rfl
    | cons y b => exact k.elim
  | cons x a ih =>
    cases b with
    | nil => exact h.elim
    | cons y b =>
      rcases h with h | ⟨rfl, h⟩
      · rcases k with k | ⟨rfl, _⟩
        · omega
        · omega
      · rcases k with k | ⟨_, k⟩
        · omega
        · rw [ih h k]
theorem lexLe.app {p a b : List Int} (h : lexLe a b) : lexLe (p ++ a) (p ++ b) := by
  induction p with
  | nil => exact h
  | cons x p ih => exact .inr ⟨rfl, ih⟩
theorem lexLe.less {p a b : List Int} {x y : Int} (h : x < y) : lexLe (p ++ x :: a) (p ++ y :: b) := lexLe.app (.inl h)
/-- The next free number. -/
theorem numB_pos {n : Int} {p : List Int} (h : numB n p = true) : ∀ k ∈ p, 0 ≤ k := by
  induction p generalizing n with
  | nil => simp
  | cons a p ih =>
    simp only [numB, Bool.and_eq_true, decide_eq_true_eq] at h
    intro k hk
    rcases List.mem_cons.1 hk with rfl | hk
    · exact h.1.1
    · exact ih h.2 k hk
theorem numB_append (n : Int) (p q : List Int) (hn : 0 ≤ n) (hp : ∀ k ∈ p, 0 ≤ k) : numB n (p ++ q) = (numB n p && numB (max n (rolls p : Int)) q) := by
  induction p generalizing n with
  | nil => simp [numB, rolls, Int.max_eq_left hn]
  | cons a p ih =>
    have h1 := hp a (by simp)
    have h2 := ih (max n (a + 1)) (by omega) fun k hk => hp k (by simp [hk])
    simp only [List.cons_append, numB, rolls, h2, Bool.and_assoc]
    rw [show max (max n (a + 1)) (rolls p : Int) = max n ((max (a.toNat + 1) (rolls p) : Nat) : Int) from by omega]
theorem rolls_append (p q : List Int) : rolls (p ++ q) = max (rolls p) (rolls q) := by
  induction p with
  | nil => simp [rolls]
  | cons a p ih => simp only [List.cons_append, rolls, ih]; omega
theorem rolls_le {n : Int} {p : List Int} (h : numB n p = true) (hn : 0 ≤ n) : (rolls p : Int) ≤ n + p.length := by
  induction p generalizing n with
  | nil => simp [rolls]; omega
  | cons a p ih =>
    simp only [numB, Bool.and_eq_true, decide_eq_true_eq] at h
    have h1 := ih h.2 (by omega)
    simp only [rolls, List.length_cons]
    omega
theorem sumAt_app (j : Nat) (s p t : List Int) (h : ∀ x ∈ s, 0 ≤ x) : sumAt j s p ≤ sumAt j s (p ++ t) := by
  induction s generalizing p with
  | nil => cases p <;> cases t <;> simp [sumAt]
  | cons x s ih =>
    have h1 := h x (by simp)
    have h2 := fun p => ih p fun y hy => h y (by simp [hy])
    cases p with
    | nil =>
      have h3 : ∀ (u : List Int) (t : List Int), (∀ y ∈ u, 0 ≤ y) → 0 ≤ sumAt j u t := by
        intro u
        induction u with
        | nil => intro t _; cases t <;> simp [sumAt]
        | cons y u ihu =>
          intro t hu
          cases t with
          | nil => simp [sumAt]
          | cons k t =>
            have a1 := hu y (by simp)
            have a2 := ihu t fun z hz => hu z (by simp [hz])
            simp only [sumAt]
            split <;> omega
      have := h3 (x :: s) t h
      simpa [sumAt] using this
    | cons k p =>
      have := h2 p
      simp only [List.cons_append, sumAt]
      omega
/-- What begins a packing. -/
structure PreP (r : Int) (s p : List Int) : Prop where
  ok : okT r s = true
  num : numB 0 p = true
  le : ∀ x ∈ loads s p, x ≤ r
theorem PreP.nil {r : Int} {s : List Int} (h : okT r s = true) : PreP r s [] := ⟨h, rfl, by cases s <;> simp [loads, loadsF]⟩
theorem loads_snoc {s p : List Int} {k : Nat} (h : p.length < s.length) : loads s (p ++ [(k : Int)]) = addAt (loads s p) k (s.getD p.length 0) := by
  have hx : s[p.length]? = some (s.getD p.length 0) := by
    rw [List.getD_eq_getElem?_getD, List.getElem?_eq_getElem h]
    rfl
  have hk : (p ++ [(k : Int)])[p.length]? = some (k : Int) := by simp
  have h1 := loads_next s (p ++ [(k : Int)]) p.length _ _ hx hk
  rw [List.take_append_of_le_length (Nat.le_refl _), List.take_length, loads_cut s p] at h1
  rw [show (p ++ [(k : Int)]).take (p.length + 1) = p ++ [(k : Int)] from by rw [List.take_of_length_le]; simp] at h1
  have h2 := loads_cut s (p ++ [(k : Int)])
  simp only [List.length_append, List.length_cons, List.length_nil, Nat.zero_add] at h2
  rw [← h2, h1]
  simp
theorem addAt_all {r x : Int} {o : List Int} {k : Nat} (hk : k ≤ o.length) (h : ∀ y ∈ o, y ≤ r) (hx : o.getD k 0 + x ≤ r) : ∀ y ∈ addAt o k x, y ≤ r := by
  induction o generalizing k with
  | nil =>
    simp at hk
    subst hk
    intro y hy
    simp [addAt] at hy
    simp at hx
    omega
  | cons a o ih =>
    cases k with
    | zero =>
      intro y hy
      simp only [addAt, List.mem_cons] at hy
      rcases hy with rfl | hy
      · simpa using hx
      · exact h y (by simp [hy])
    | succ k =>
      intro y hy
      simp only [addAt, List.mem_cons] at hy
      rcases hy with rfl | hy
      · exact h _ (by simp)
      · exact ih (by simpa using hk) (fun z hz => h z (by simp [hz])) (by simpa using hx) y hy
theorem PreP.next {r : Int} {s p : List Int} {k : Nat} (h : PreP r s p) (hl : p.length < s.length) (hk : k ≤ (loads s p).length) (hb : ¬ (k < (loads s p).length ∧ r < (loads s p).getD k 0 + s.getD p.length 0)) : PreP r s (p ++ [(k : Int)]) ∧ rolls (p ++ [(k : Int)]) = max (rolls p) (k + 1) := by
  have hpos := numB_pos h.num
  have hL := loads_len s p (by omega)
  refine ⟨⟨h.ok, ?_, ?_⟩, by rw [rolls_append]; simp [rolls]⟩
  · rw [numB_append 0 p _ (by omega) hpos, h.num]
    simp only [numB, Bool.true_and, Bool.and_true, decide_eq_true_eq]
    omega
  · rw [loads_snoc hl]
    refine addAt_all hk h.le ?_
    by_cases hlt : k < (loads s p).length
    · have := fun e => hb ⟨hlt, e⟩
      omega
    · have e : (loads s p).getD k 0 = 0 := by
        rw [List.getD_eq_getElem?_getD, List.getElem?_eq_none (by omega)]
        rfl
      have hx : s.getD p.length 0 ≤ r := by
        rw [List.getD_eq_getElem?_getD, List.getElem?_eq_getElem hl]
        exact ((okT_iff.1 h.ok).2.2 _ (List.getElem_mem _)).2
      omega
theorem sea_sound {r : Int} {s : List Int} {most : Nat} : ∀ (n : Nat) (p R : List Int), PreP r s p → p.length + n = s.length → rolls p ≤ most → sea r s most n p = some R → isP r s R = true ∧ rolls R ≤ most ∧ ∃ t, R = p ++ t
  | 0, p, R, h, hl, hm, he => by
    simp only [sea, Option.some.injEq] at he
    subst he
    exact ⟨isP_iff.2 ⟨h.ok, by omega, h.num, h.le⟩, hm, [], by simp⟩
  | n + 1, p, R, h, hl, hm, he => by
    simp only [sea] at he
    obtain ⟨k, hk, hs⟩ := List.exists_of_findSome?_eq_some he
    rw [List.mem_range] at hk
    split at hs
    · cases hs
    · rename_i hb
      have hL := loads_len s p (by omega)
      obtain ⟨h1, h2⟩ := h.next (k := k) (by omega) (by omega) hb
      obtain ⟨h3, h4, t, h5⟩ := sea_sound n _ R h1 (by simp; omega) (by omega) hs
      exact ⟨h3, h4, (k : Int) :: t, by rw [h5]; simp⟩
theorem findSome_le {f : Nat → Option (List Int)} {m k : Nat} {R : List Int} (hk : k < m) (h : f k = some R) : ∃ j R', j ≤ k ∧ f j = some R' ∧ (List.range m).findSome? f = some R' := by
  induction m with
  | zero => omega
  | succ m ih =>
    rw [List.range_succ, List.findSome?_append]
    by_cases hkm : k < m
    · obtain ⟨j, R', h1, h2, h3⟩ := ih hkm
      exact ⟨j, R', h1, h2, by rw [h3]; rfl⟩
    · obtain rfl : k = m := by omega
      cases hf : (List.range k).findSome? f with
      | some R' =>
        obtain ⟨j, hj, hs⟩ := List.exists_of_findSome?_eq_some hf
        rw [List.mem_range] at hj
        exact ⟨j, R', by omega, hs, rfl⟩
      | none => exact ⟨k, R, Nat.le_refl _, h, by simp [h]⟩
theorem sea_least {r : Int} {s : List Int} {most : Nat} : ∀ (n : Nat) (p q : List Int), PreP r s p → p.length + n = s.length → rolls p ≤ most → isP r s q = true → rolls q ≤ most → (∃ t, q = p ++ t) → ∃ R, sea r s most n p = some R ∧ lexLe R q
  | 0, p, q, h, hl, hm, hq, hr, ⟨t, ht⟩ => by
    have := (isP_iff.1 hq).2.1
    subst ht
    simp only [List.length_append] at this
    have ht : t = [] := List.eq_nil_of_length_eq_zero (by omega)
    subst ht
    exact ⟨p, rfl, by rw [List.append_nil]; exact lexLe.refl p⟩
  | n + 1, p, q, h, hl, hm, hq, hr, ⟨t, ht⟩ => by
    obtain ⟨hok, hlen, hnum, hle⟩ := isP_iff.1 hq
    subst ht
    cases t with
    | nil =>
      simp only [List.append_nil] at hlen
      omega
    | cons k0 t =>
      have hpos := numB_pos hnum
      have hk0 : 0 ≤ k0 := hpos k0 (by simp)
      obtain ⟨k, rfl⟩ := Int.eq_ofNat_of_zero_le hk0
      have hL := loads_len s p (by omega)
      rw [numB_append 0 p _ (by omega) (numB_pos h.num), h.num] at hnum
      simp only [numB, Bool.true_and, Bool.and_eq_true, decide_eq_true_eq] at hnum
      rw [rolls_append] at hr
      simp only [rolls, Int.toNat_natCast] at hr
      have hb : ¬ (k < (loads s p).length ∧ r < (loads s p).getD k 0 + s.getD p.length 0) := by
        rintro ⟨h1, h2⟩
        have h3 : (loads s (p ++ [(k : Int)])).getD k 0 = (loads s p).getD k 0 + s.getD p.length 0 := by
          rw [loads_snoc (by omega), addAt_get, if_pos rfl]
        have h4 := sumAt_app k s (p ++ [(k : Int)]) t fun x hx => by have := (okT_iff.1 hok).2.2 x hx; omega
        rw [List.append_assoc, List.cons_append, List.nil_append] at h4
        rw [← loads_get, ← loads_get, h3] at h4
        have h5 : (loads s (p ++ (k : Int) :: t)).getD k 0 ≤ r := by
          rw [List.getD_eq_getElem?_getD]
          rcases Nat.lt_or_ge k (loads s (p ++ (k : Int) :: t)).length with hk | hk
          · rw [List.getElem?_eq_getElem hk]
            exact hle _ (List.getElem_mem _)
          · rw [List.getElem?_eq_none hk]
            have := (okT_iff.1 hok).1.1
            show (0 : Int) ≤ r
            omega
        omega
      obtain ⟨h1, h2⟩ := h.next (k := k) (by omega) (by omega) hb
      obtain ⟨R0, hR0, hlex⟩ := sea_least (most := most) n (p ++ [(k : Int)]) (p ++ (k : Int) :: t) h1 (by simp; omega) (by omega) hq (by rw [rolls_append]; simp only [rolls, Int.toNat_natCast]; omega) ⟨t, by simp⟩
      simp only [sea]
      have hf : (fun k => if k < (loads s p).length ∧ r < (loads s p).getD k 0 + s.getD p.length 0 then none else sea r s most n (p ++ [(k : Int)])) k = some R0 := by
        show (if _ then _ else _) = _
        rw [if_neg hb]
        exact hR0
      obtain ⟨j, R', hj, hj2, hall⟩ := findSome_le (f := fun k : Nat => if k < (loads s p).length ∧ r < (loads s p).getD k 0 + s.getD p.length 0 then none else sea r s most n (p ++ [(k : Int)])) (k := k) (R := R0) (m := min ((loads s p).length + 1) most) (by omega) hf
      refine ⟨R', hall, ?_⟩
      by_cases hjk : j = k
      · subst hjk
        have hj2 := hf.symm.trans hj2
        injection hj2 with hj2
        subst hj2
        exact hlex
      · split at hj2
        · cases hj2
        · rename_i hb2
          obtain ⟨h5, _⟩ := h.next (k := j) (by omega) (by omega) hb2
          obtain ⟨_, _, u, hu⟩ := sea_sound n _ R' h5 (by simp; omega) (by rw [rolls_append]; simp only [rolls, Int.toNat_natCast]; omega) hj2
          rw [hu, List.append_assoc]
          exact lexLe.less (by omega)
/-- The lexicographically smallest packing with the least number of rolls. -/
def BestR (r : Int) (s R : List Int) : Prop := isP r s R = true ∧ ∀ q, isP r s q = true → rolls R ≤ rolls q ∧ (rolls q = rolls R → lexLe R q)
theorem BestR.same {r : Int} {s R K : List Int} (h : BestR r s R) (k : BestR r s K) : R = K := by
  have h1 := h.2 K k.1
  have h2 := k.2 R h.1
  exact (h1.2 (by omega)).anti (h2.2 (by omega))
theorem sea_rolls {r : Int} {s q : List Int} {m : Nat} (h : okT r s = true) (hn : sea r s m s.length [] = none) (hq : isP r s q = true) : m < rolls q := by
  rcases Nat.lt_or_ge m (rolls q) with h1 | h1
  · exact h1
  · obtain ⟨R, hR, _⟩ := sea_least s.length [] q (PreP.nil h) (by simp) (by simp [rolls]) hq h1 ⟨q, rfl⟩
    rw [hn] at hR
    cases hR
theorem sea_best {r : Int} {s R : List Int} {m : Nat} (h : okT r s = true) (hR : sea r s m s.length [] = some R) (hn : ∀ j, j < m → sea r s j s.length [] = none) : BestR r s R := by
  obtain ⟨h1, h2, _⟩ := sea_sound s.length [] R (PreP.nil h) (by simp) (by simp [rolls]) hR
  refine ⟨h1, fun q hq => ?_⟩
  have hmq : m ≤ rolls q := by
    cases m with
    | zero => omega
    | succ m => exact sea_rolls h (hn m (by omega)) hq
  refine ⟨by omega, fun e => ?_⟩
  obtain ⟨R', hR', hl⟩ := sea_least s.length [] q (PreP.nil h) (by simp) (by simp [rolls]) hq (show rolls q ≤ m by omega) ⟨q, rfl⟩
  rw [hR] at hR'
  injection hR' with hR'
  rw [hR']
  exact hl
theorem sea_end {r : Int} {s : List Int} {m : Nat} (h : okT r s = true) (hm : s.length ≤ m) : ∃ R, sea r s m s.length [] = some R := by
  have hp := ff_pack h
  obtain ⟨_, hl, hn, _⟩ := isP_iff.1 hp
  have h1 := rolls_le hn (by omega)
  obtain ⟨R, hR, _⟩ := sea_least s.length [] (ff r s) (PreP.nil h) (by simp) (by simp [rolls]) hp (show rolls (ff r s) ≤ m by omega) ⟨_, rfl⟩
  exact ⟨R, hR⟩
theorem bestF_R {r : Int} {s : List Int} (h : okT r s = true) : ∀ (f m : Nat), s.length < m + f → (∀ j, j < m → sea r s j s.length [] = none) → BestR r s (bestF r s f m)
  | 0, m, hl, hn => by
    obtain ⟨R, hR⟩ := sea_end (m := s.length) h (Nat.le_refl _)
    rw [hn s.length (by omega)] at hR
    cases hR
  | f + 1, m, hl, hn => by
    simp only [bestF]
    cases hs : sea r s m s.length [] with
    | some R => exact sea_best h hs hn
    | none =>
      refine bestF_R h f (m + 1) (by omega) fun j hj => ?_
      rcases Nat.lt_or_ge j m with h1 | h1
      · exact hn j h1
      · obtain rfl : j = m := by omega
        exact hs
theorem best_R {r : Int} {s : List Int} (h : okT r s = true) : BestR r s (best r s) := bestF_R h _ 0 (by omega) fun j hj => by omega
/-- The loop's result, once the search gives one. -/
theorem best_is {r : Int} {s R : List Int} {m : Nat} (h : okT r s = true) (hR : sea r s m s.length [] = some R) (hn : ∀ j, j < m → sea r s j s.length [] = none) : best r s = R := (best_R h).same (sea_best h hR hn)
end Rl
end Go.Proofs.Ytbhkpjjedeinpaa
