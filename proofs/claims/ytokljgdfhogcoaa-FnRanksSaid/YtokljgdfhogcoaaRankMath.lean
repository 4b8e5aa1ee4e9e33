/- Plain facts on ranks: an order is found from its rank, the order of a rank has that rank, and orders follow one another by their ranks. -/
import Derived.Test.YtokljgdfhogcoaaOrk
import Derived.Test.YtokljgdfhogcoaaOrdMath
namespace Go.Proofs.Ytokljgdfhogcoaa

theorem countP_up (x : Int) : ∀ (d : List Int), d.Nodup → d.countP (fun y => decide (y < x + 1)) = d.countP (fun y => decide (y < x)) + if x ∈ d then 1 else 0
  | [], _ => by simp
  | y :: r, hd => by
    have h1 := List.nodup_cons.1 hd
    have ih := countP_up x r h1.2
    by_cases e : y = x
    · subst e
      rw [List.countP_cons_of_pos (by simp; omega), List.countP_cons_of_neg (by simp), ih, if_neg h1.1, if_pos (by simp)]
    · have hm : (x ∈ y :: r) ↔ x ∈ r := by
        rw [List.mem_cons]
        exact ⟨fun h => h.elim (fun h => absurd h.symm e) id, .inr⟩
      simp only [hm]
      by_cases hy : y < x
      · rw [List.countP_cons_of_pos (by simp; omega), List.countP_cons_of_pos (by simp; omega), ih]
        omega
      · rw [List.countP_cons_of_neg (by simp; omega), List.countP_cons_of_neg (by simp; omega), ih]
theorem countP_nums (d : List Int) (hd : d.Nodup) (h0 : ∀ y ∈ d, 0 ≤ y) (x : Nat) : d.countP (fun y => decide (y < (x : Int))) = ((nums x).filter fun y => decide (y ∈ d)).length := by
  induction x with
  | zero =>
    have : ∀ y ∈ d, ¬ (decide (y < ((0 : Nat) : Int)) = true) := fun y hy => by have := h0 y hy; simp; omega
    rw [List.countP_eq_zero.2 this]
    simp [nums]
  | succ x ih =>
    rw [nums_next, List.filter_append, List.length_append, ← ih]
    have := countP_up (x : Int) d hd
    rw [show ((x + 1 : Nat) : Int) = (x : Int) + 1 from by omega, this]
    by_cases hx : (x : Int) ∈ d <;> simp [hx]
/-- What stands behind the place k and is less than what stands there: the free numbers below it. -/
theorem less_rest (l : List Int) (h : isOrd l) (k x : Nat) (hx : l[k]? = some (x : Int)) : lessAt l k = (rest x (l.take k)).length := by
  have hk : k < l.length := (List.getElem?_eq_some_iff.1 hx).1
  have hdn : (l.drop (k + 1)).Nodup := h.2.2.sublist (List.drop_sublist _ _)
  have hd0 : ∀ y ∈ l.drop (k + 1), 0 ≤ y := fun y hy => (h.2.1 y (List.mem_of_mem_drop hy)).1
  have e1 : lessAt l k = (l.drop (k + 1)).countP (fun y => decide (y < (x : Int))) := by
    unfold lessAt lessTo
    rw [List.getD_eq_getElem?_getD, hx, List.take_of_length_le (by simp)]
    rfl
  rw [e1, countP_nums _ hdn hd0 x]
  unfold rest
  congr 1
  refine List.filter_congr fun y hy => ?_
  obtain ⟨i, hi, rfl⟩ := List.mem_map.1 hy
  have hix : i < x := List.mem_range.1 hi
  have hxl := (ord_at l h k x hx).2
  obtain ⟨j, hj, ej⟩ := ord_onto l h i (by omega)
  rw [decide_eq_decide]
  constructor
  · intro hm hm'
    obtain ⟨a, ha, ea⟩ := List.mem_iff_getElem.1 hm
    obtain ⟨b, hb, eb⟩ := List.mem_iff_getElem.1 hm'
    have h1 : l[k + 1 + a]? = some (i : Int) := by rw [← List.getElem?_drop, List.getElem?_eq_getElem ha, ea]
    have h2 : l[b]? = some (i : Int) := by
      have hbk : b < k := by simp at hb; omega
      have := List.getElem?_eq_getElem hb
      rw [eb, List.getElem?_take, if_pos hbk] at this
      exact this
    have := ord_inj l h _ _ _ h1 h2
    simp at hb
    omega
  · intro hm
    have hjk : j ≠ k := by
      rintro rfl
      rw [ej] at hx
      injection hx with hx
      omega
    rcases Nat.lt_or_ge j k with hlt | hge
    · refine absurd (List.mem_of_getElem? (i := j) ?_) hm
      rw [List.getElem?_take, if_pos hlt]
      exact ej
    · refine List.mem_of_getElem? (i := j - (k + 1)) ?_
      rw [List.getElem?_drop, show k + 1 + (j - (k + 1)) = j from by omega]
      exact ej
theorem free_at (l : List Int) (h : isOrd l) (k x : Nat) (hx : l[k]? = some (x : Int)) : (rest l.length (l.take k))[lessAt l k]? = some (x : Int) := by
  have hxl := (ord_at l h k x hx).2
  rw [less_rest l h k x hx]
  refine rest_found x l.length _ (by omega) fun hm => ?_
  obtain ⟨b, hb, eb⟩ := List.mem_iff_getElem.1 hm
  have hbk : b < k := by simp at hb; omega
  have h2 : l[b]? = some (x : Int) := by
    have := List.getElem?_eq_getElem hb
    rw [eb, List.getElem?_take, if_pos hbk] at this
    exact this
  have := ord_inj l h _ _ _ hx h2
  omega

/-- What is left of the rank behind the place k. -/
def tl (l : List Int) (k : Nat) : Int := rk l l.length - rk l k * fac (l.length - k)
theorem tl_step (l : List Int) (k : Nat) (h : k < l.length) : tl l k = lessAt l k * fac (l.length - (k + 1)) + tl l (k + 1) := by
  have := rk_step l k h
  unfold tl
  omega
theorem tl_bd (l : List Int) (j k : Nat) (h : k + j = l.length) : 0 ≤ tl l k ∧ tl l k < fac (l.length - k) := by
  induction j generalizing k with
  | zero =>
    have : k = l.length := by omega
    subst this
    unfold tl
    rw [Nat.sub_self]
    simp [fac]
  | succ j ih =>
    obtain ⟨h0, h1⟩ := ih (k + 1) (by omega)
    have hs := tl_step l k (by omega)
    have hf := fac_pos (l.length - (k + 1))
    have hd := fac_down l.length k (by omega)
    have hl := lessAt_le l k
    have h2 : 0 ≤ (lessAt l k : Int) * fac (l.length - (k + 1)) := Int.mul_nonneg (by omega) (by omega)
    have h3 : ((lessAt l k : Int) + 1) * fac (l.length - (k + 1)) ≤ ((l.length : Int) - k) * fac (l.length - (k + 1)) := Int.mul_le_mul_of_nonneg_right (by omega) (by omega)
    rw [← hd, Int.add_mul] at h3
    omega
theorem tl_zero (l : List Int) : tl l 0 = rk l l.length := by simp [tl, rk]
theorem rk_range (l : List Int) : 0 ≤ rk l l.length ∧ rk l l.length < fac l.length := by
  have := tl_bd l l.length 0 (by omega)
  rwa [tl_zero, Nat.sub_zero] at this
theorem found_of (l : List Int) (h : isOrd l) (k : Nat) (hk : k ≤ l.length) : oR l.length (rk l l.length) k = tl l k ∧ oO l.length (rk l l.length) k = l.take k := by
  induction k with
  | zero => exact ⟨(tl_zero l).symm, by simp [oO]⟩
  | succ k ih =>
    obtain ⟨i1, i2⟩ := ih (by omega)
    obtain ⟨x, hx, _⟩ := ord_nat l h k (by omega)
    have hf := fac_pos (l.length - (k + 1))
    have hs := tl_step l k (by omega)
    have hb := tl_bd l (l.length - (k + 1)) (k + 1) (by omega)
    have e1 : oR l.length (rk l l.length) (k + 1) = oR l.length (rk l l.length) k % fac (l.length - (k + 1)) := rfl
    have hmod : tl l k % fac (l.length - (k + 1)) = tl l (k + 1) := by
      rw [hs, Int.mul_comm, Int.add_comm, Int.add_mul_emod_self_left]
      exact Int.emod_eq_of_lt hb.1 hb.2
    have hdiv : tl l k / fac (l.length - (k + 1)) = lessAt l k := by
      rw [hs, Int.mul_comm, Int.add_comm, Int.add_mul_ediv_left _ _ (by omega), Int.ediv_eq_zero_of_lt hb.1 hb.2]
      omega
    refine ⟨by rw [e1, i1, hmod], ?_⟩
    have hq : oQ l.length (rk l l.length) k = lessAt l k := by
      unfold oQ
      rw [i1, hdiv]
      omega
    have hfr := free_at l h k x hx
    rw [ork_x l.length _ k x (by rw [i2, hq]; exact hfr), i2, take_next l k x hx]
/-- An order is found from its rank. -/
theorem order_of_rank (l : List Int) (h : isOrd l) : oO l.length (rk l l.length) l.length = l := by
  have := (found_of l h l.length (Nat.le_refl _)).2
  rwa [List.take_length] at this

theorem oO_elem (n : Nat) (r : Int) (h0 : 0 ≤ r) (h1 : r < fac n) (k : Nat) (hk : k < n) : ∃ x : Nat, (rest n (oO n r k))[oQ n r k]? = some (x : Int) ∧ x < n ∧ (x : Int) ∉ oO n r k ∧ oO n r (k + 1) = oO n r k ++ [(x : Int)] := by
  obtain ⟨_, hq⟩ := ork_q n r h0 h1 k hk
  obtain ⟨_, _, h3, _⟩ := ork_inv n r h0 h1 k (by omega)
  have hx : (rest n (oO n r k))[oQ n r k]? = some (rest n (oO n r k))[oQ n r k] := List.getElem?_eq_getElem (by omega)
  have hm := List.mem_of_getElem? hx
  obtain ⟨hm1, hm2⟩ := List.mem_filter.1 hm
  obtain ⟨x, hxr, e⟩ := List.mem_map.1 hm1
  rw [← e] at hx hm2
  exact ⟨x, hx, List.mem_range.1 hxr, by simpa using hm2, ork_x n r k x hx⟩
theorem oO_take (n : Nat) (r : Int) (h0 : 0 ≤ r) (h1 : r < fac n) (j k : Nat) (hk : k + j ≤ n) : (oO n r (k + j)).take k = oO n r k := by
  induction j with
  | zero =>
    have := (ork_inv n r h0 h1 k (by omega)).2.2.2
    rw [Nat.add_zero, List.take_of_length_le (by omega)]
  | succ j ih =>
    obtain ⟨x, _, _, _, e⟩ := oO_elem n r h0 h1 (k + j) (by omega)
    have hl := (ork_inv n r h0 h1 (k + j) (by omega)).2.2.2
    rw [show k + (j + 1) = k + j + 1 from by omega, e, List.take_append_of_le_length (by omega)]
    exact ih (by omega)
theorem oO_ord (n : Nat) (hn : n ≤ 12) (r : Int) (h0 : 0 ≤ r) (h1 : r < fac n) : isOrd (oO n r n) ∧ (oO n r n).length = n := by
  have hl := (ork_inv n r h0 h1 n (Nat.le_refl _)).2.2.2
  have hin : ∀ k, k ≤ n → (oO n r k).Nodup ∧ ∀ y ∈ oO n r k, 0 ≤ y ∧ y < (n : Int) := by
    intro k
    induction k with
    | zero => intro _; simp [oO]
    | succ k ih =>
      intro hk
      obtain ⟨i1, i2⟩ := ih (by omega)
      obtain ⟨x, _, hx, hno, e⟩ := oO_elem n r h0 h1 k (by omega)
      rw [e]
      refine ⟨List.nodup_append.2 ⟨i1, by simp, fun a ha b hb => ?_⟩, fun y hy => ?_⟩
      · simp at hb
        subst hb
        rintro rfl
        exact hno ha
      · rcases List.mem_append.1 hy with hy | hy
        · exact i2 y hy
        · simp at hy
          subst hy
          omega
  obtain ⟨i1, i2⟩ := hin n (Nat.le_refl _)
  exact ⟨⟨by omega, by rw [hl]; exact i2, i1⟩, hl⟩
theorem digit_of (n : Nat) (hn : n ≤ 12) (r : Int) (h0 : 0 ≤ r) (h1 : r < fac n) (k : Nat) (hk : k < n) : lessAt (oO n r n) k = oQ n r k := by
  obtain ⟨ho, hl⟩ := oO_ord n hn r h0 h1
  obtain ⟨x, hx, hxn, hno, e⟩ := oO_elem n r h0 h1 k hk
  have ht : (oO n r n).take k = oO n r k := by
    have := oO_take n r h0 h1 (n - k) k (by omega)
    rwa [show k + (n - k) = n from by omega] at this
  have ht1 : (oO n r n).take (k + 1) = oO n r (k + 1) := by
    have := oO_take n r h0 h1 (n - (k + 1)) (k + 1) (by omega)
    rwa [show k + 1 + (n - (k + 1)) = n from by omega] at this
  have hlk := (ork_inv n r h0 h1 k (by omega)).2.2.2
  have hk' : (oO n r n)[k]? = some (x : Int) := by
    have h2 : ((oO n r n).take (k + 1))[k]? = some (x : Int) := by
      rw [ht1, e, List.getElem?_append_right (by omega), hlk, Nat.sub_self]
      rfl
    rw [List.getElem?_take, if_pos (by omega)] at h2
    exact h2
  have hfr := free_at (oO n r n) ho k x hk'
  rw [hl, ht] at hfr
  have hnd : (rest n (oO n r k)).Nodup := (nums_nodup n).filter _
  exact (List.getElem?_inj (List.getElem?_eq_some_iff.1 hfr).1 hnd).1 (hfr.trans hx.symm)
/-- The order of a rank has that rank. -/
theorem rank_of_order (n : Nat) (hn : n ≤ 12) (r : Int) (h0 : 0 ≤ r) (h1 : r < fac n) : rk (oO n r n) n = r := by
  obtain ⟨ho, hl⟩ := oO_ord n hn r h0 h1
  have hinv : ∀ k, k ≤ n → r = rk (oO n r n) k * fac (n - k) + oR n r k := by
    intro k
    induction k with
    | zero => intro _; simp [rk, oR]
    | succ k ih =>
      intro hk
      have hi := ih (by omega)
      have hs := rk_step (oO n r n) k (by omega)
      rw [hl, digit_of n hn r h0 h1 k (by omega)] at hs
      have hq := (ork_q n r h0 h1 k (by omega)).1
      have hm := Int.mul_ediv_add_emod (oR n r k) (fac (n - (k + 1)))
      rw [hq, Int.mul_comm] at hm
      have e : oR n r (k + 1) = oR n r k % fac (n - (k + 1)) := rfl
      omega
  have h := hinv n (Nat.le_refl _)
  have hR := ork_inv n r h0 h1 n (Nat.le_refl _)
  have hz : oR n r n = 0 := by
    have h2 := hR.2.1
    rw [Nat.sub_self] at h2
    have h3 : fac 0 = 1 := rfl
    have := hR.1
    omega
  rw [hz, Nat.sub_self] at h
  have h3 : fac 0 = 1 := rfl
  rw [h3] at h
  omega
/-- Of two orders that part at the place i the one with the greater number there has the greater rank. -/
theorem rank_lex (l l' : List Int) (h : isOrd l) (h' : isOrd l') (hl : l.length = l'.length) (i : Nat) (x y : Int) (ht : l.take i = l'.take i) (hx : l[i]? = some x) (hy : l'[i]? = some y) (hlt : y < x) : rk l' l'.length < rk l l.length := by
  have hi : i < l.length := (List.getElem?_eq_some_iff.1 hx).1
  have hpre : ∀ k, k ≤ i → rk l k = rk l' k := by
    intro k
    induction k with
    | zero => intro _; rfl
    | succ k ih =>
      intro hk
      obtain ⟨a, ha, _⟩ := ord_nat l h k (by omega)
      have ha' : l'[k]? = some (a : Int) := by
        have : (l.take i)[k]? = some (a : Int) := by rw [List.getElem?_take, if_pos (by omega)]; exact ha
        rw [ht, List.getElem?_take, if_pos (by omega)] at this
        exact this
      have hk2 : l.take k = l'.take k := by
        have := congrArg (List.take k) ht
        rwa [List.take_take, List.take_take, Nat.min_eq_left (by omega)] at this
      show rk l k * ((l.length : Int) - k) + lessAt l k = rk l' k * ((l'.length : Int) - k) + lessAt l' k
      rw [ih (by omega), hl, less_rest l h k a ha, less_rest l' h' k a ha', hk2]
  obtain ⟨a, ha, _⟩ := ord_nat l h i hi
  obtain ⟨b, hb, _⟩ := ord_nat l' h' i (by omega)
  rw [ha] at hx
  rw [hb] at hy
  injection hx with hx
  injection hy with hy
  have hba : b < a := by omega
  have hless : lessAt l' i + 1 ≤ lessAt l i := by
    rw [less_rest l h i a ha, less_rest l' h' i b hb, ht]
    have hno : (b : Int) ∉ l'.take i := by
      intro hm
      obtain ⟨c, hc, ec⟩ := List.mem_iff_getElem.1 hm
      have hci : c < i := by simp at hc; omega
      have h2 : l'[c]? = some (b : Int) := by
        have := List.getElem?_eq_getElem hc
        rw [ec, List.getElem?_take, if_pos hci] at this
        exact this
      have := ord_inj l' h' _ _ _ hb h2
      omega
    have := rest_len_le (b + 1) a (l'.take i) (by omega)
    rw [rest_up, if_pos hno, List.length_append] at this
    simpa using this
  have s1 := tl_step l i hi
  have s2 := tl_step l' i (by omega)
  have b1 := (tl_bd l (l.length - (i + 1)) (i + 1) (by omega)).1
  have b2 := (tl_bd l' (l'.length - (i + 1)) (i + 1) (by omega)).2
  have hp := hpre i (Nat.le_refl _)
  have hf := fac_pos (l.length - (i + 1))
  have hm : ((lessAt l' i : Int) + 1) * fac (l.length - (i + 1)) ≤ (lessAt l i : Int) * fac (l.length - (i + 1)) := Int.mul_le_mul_of_nonneg_right (by omega) (by omega)
  rw [Int.add_mul] at hm
  have e1 : tl l i = rk l l.length - rk l i * fac (l.length - i) := rfl
  have e2 : tl l' i = rk l' l'.length - rk l' i * fac (l'.length - i) := rfl
  rw [hl] at s1 hm e1
  rw [hl]
  rw [hp] at e1
  omega
end Go.Proofs.Ytokljgdfhogcoaa
