/- Plain facts on orders: inverses and compositions of orders are orders; an order composed with its inverse leaves everything in its place. -/
import Derived.Test.YtokljgdfhogcoaaCom
namespace Go.Proofs.Ytokljgdfhogcoaa

theorem nodup_le (n : Nat) : ∀ (l : List Int), l.Nodup → (∀ x ∈ l, 0 ≤ x ∧ x < (n : Int)) → l.length ≤ n := by
  induction n with
  | zero =>
    intro l _ h
    cases l with
    | nil => simp
    | cons x r => have := h x (by simp); omega
  | succ n ih =>
    intro l hd h
    have h1 : (l.erase (n : Int)).Nodup := hd.erase _
    have h2 := ih (l.erase (n : Int)) h1 fun x hx => by
      have hm := List.mem_of_mem_erase hx
      have h3 := h x hm
      have hne : x ≠ (n : Int) := by
        rintro rfl
        exact (hd.mem_erase_iff.1 hx).1 rfl
      omega
    have h3 := List.length_erase (a := (n : Int)) (l := l)
    split at h3 <;> omega
theorem ord_onto (l : List Int) (h : isOrd l) (j : Nat) (hj : j < l.length) : ∃ k, k < l.length ∧ l[k]? = some (j : Int) := by
  have hm : (j : Int) ∈ l := by
    refine Decidable.byContradiction fun hn => ?_
    have := nodup_le l.length ((j : Int) :: l) (List.nodup_cons.2 ⟨hn, h.2.2⟩) fun x hx => by
      rcases List.mem_cons.1 hx with rfl | hx
      · omega
      · exact h.2.1 x hx
    simp at this
    omega
  obtain ⟨k, hk, e⟩ := List.mem_iff_getElem.1 hm
  exact ⟨k, hk, by rw [List.getElem?_eq_getElem hk, e]⟩
theorem ord_inj (l : List Int) (h : isOrd l) (i j : Nat) (x : Int) (hi : l[i]? = some x) (hj : l[j]? = some x) : i = j :=
  (List.getElem?_inj (List.getElem?_eq_some_iff.1 hi).1 h.2.2).1 (hi.trans hj.symm)
theorem ord_nat (l : List Int) (h : isOrd l) (k : Nat) (hk : k < l.length) : ∃ x : Nat, l[k]? = some (x : Int) ∧ x < l.length := by
  have hx := ord_at l h k l[k] (List.getElem?_eq_getElem hk)
  obtain ⟨x, e⟩ := Int.eq_ofNat_of_zero_le hx.1
  exact ⟨x, by rw [List.getElem?_eq_getElem hk, e], by omega⟩
/-- A list of n numbers is an order where each place has a number below n and no two places have one. -/
theorem ord_mk (l : List Int) (h64 : l.length ≤ 64) (h1 : ∀ k, k < l.length → ∃ x : Nat, l[k]? = some (x : Int) ∧ x < l.length) (h2 : ∀ (i j : Nat) (x : Int), l[i]? = some x → l[j]? = some x → i = j) : isOrd l := by
  refine ⟨h64, fun x hx => ?_, ?_⟩
  · obtain ⟨k, hk, e⟩ := List.mem_iff_getElem.1 hx
    obtain ⟨y, hy, hl⟩ := h1 k hk
    rw [List.getElem?_eq_getElem hk, e] at hy
    injection hy with hy
    omega
  · refine List.pairwise_iff_getElem.2 fun i j hi hj hij e => ?_
    have := h2 i j l[i] (List.getElem?_eq_getElem hi) (by rw [List.getElem?_eq_getElem hj, e])
    omega

theorem inv_at (l : List Int) (h : isOrd l) (m k : Nat) (hm : m ≤ l.length) (hk : k < m) (j : Nat) (hj : l[k]? = some (j : Int)) : (invTo l m)[j]? = some (k : Int) := by
  induction m with
  | zero => omega
  | succ m ih =>
    obtain ⟨x, hx, hxl⟩ := ord_nat l h m (by omega)
    rw [invTo_next l m x hx, List.getElem?_set]
    by_cases e : x = j
    · subst e
      rw [if_pos rfl, if_pos (by rw [invTo_len]; exact hxl)]
      rw [ord_inj l h k m _ hj hx]
    · rw [if_neg e]
      exact ih (by omega) (by
        rcases Nat.lt_or_ge k m with hh | hh
        · exact hh
        · have : k = m := by omega
          subst this
          rw [hj] at hx
          injection hx with hx
          omega)
theorem inv_get (l : List Int) (h : isOrd l) (j : Nat) (hj : j < l.length) : ∃ k, k < l.length ∧ l[k]? = some (j : Int) ∧ (invTo l l.length)[j]? = some (k : Int) := by
  obtain ⟨k, hk, e⟩ := ord_onto l h j hj
  exact ⟨k, hk, e, inv_at l h l.length k (Nat.le_refl _) hk j e⟩
theorem inv_ord (l : List Int) (h : isOrd l) : isOrd (invTo l l.length) := by
  refine ord_mk _ (by rw [invTo_len]; exact h.1) (fun j hj => ?_) (fun i j x hi hj => ?_)
  · rw [invTo_len] at hj ⊢
    obtain ⟨k, hk, _, e⟩ := inv_get l h j hj
    exact ⟨k, e, hk⟩
  · have hi' : i < l.length := by rw [← invTo_len l l.length]; exact (List.getElem?_eq_some_iff.1 hi).1
    have hj' : j < l.length := by rw [← invTo_len l l.length]; exact (List.getElem?_eq_some_iff.1 hj).1
    obtain ⟨k, _, e1, e2⟩ := inv_get l h i hi'
    obtain ⟨k', _, e3, e4⟩ := inv_get l h j hj'
    rw [hi] at e2
    rw [hj] at e4
    rw [e2] at e4
    injection e4 with e4
    have : k = k' := by omega
    subst this
    rw [e1] at e3
    injection e3 with e3
    omega
theorem com_inv (l : List Int) (h : isOrd l) (j : Nat) (hj : j < l.length) : (comL l (invTo l l.length))[j]? = some (j : Int) := by
  obtain ⟨k, _, e1, e2⟩ := inv_get l h j hj
  exact comL_at l _ j k _ e2 e1
theorem com_ord (p q : List Int) (hp : isOrd p) (hq : isOrd q) (hl : p.length = q.length) : isOrd (comL p q) := by
  have at_ : ∀ k, k < q.length → ∃ j x : Nat, q[k]? = some (j : Int) ∧ p[j]? = some (x : Int) ∧ (comL p q)[k]? = some (x : Int) ∧ x < q.length := by
    intro k hk
    obtain ⟨j, h1, h2⟩ := ord_nat q hq k hk
    obtain ⟨x, h3, h4⟩ := ord_nat p hp j (by omega)
    exact ⟨j, x, h1, h3, comL_at p q k j x h1 h3, by omega⟩
  refine ord_mk _ (by rw [comL_len]; exact hq.1) (fun k hk => ?_) (fun i j x hi hj => ?_)
  · rw [comL_len] at hk ⊢
    obtain ⟨_, x, _, _, h1, h2⟩ := at_ k hk
    exact ⟨x, h1, h2⟩
  · have hi' : i < q.length := by rw [← comL_len p q]; exact (List.getElem?_eq_some_iff.1 hi).1
    have hj' : j < q.length := by rw [← comL_len p q]; exact (List.getElem?_eq_some_iff.1 hj).1
    obtain ⟨a, y, h1, h2, h3, _⟩ := at_ i hi'
    obtain ⟨b, z, h4, h5, h6, _⟩ := at_ j hj'
    rw [hi] at h3
    rw [hj] at h6
    rw [h3] at h6
    injection h6 with h6
    have : y = z := by omega
    subst this
    have := ord_inj p hp a b _ h2 h5
    subst this
    exact ord_inj q hq i j _ h1 h4
theorem inv_codes (l : List Int) (h : isOrd l) : comC l (invTo l l.length) = 0 ∧ comR l (invTo l l.length) = comL l (invTo l l.length) := by
  have h1 := inv_ord l h
  have h2 := invTo_len l l.length
  unfold comC comR
  rw [if_pos ⟨h, h1⟩, if_pos h2.symm, if_pos ⟨h, h1, h2.symm⟩]
  exact ⟨rfl, rfl⟩
theorem com_code (p q : List Int) (h : comC p q = 0) : isOrd (comR p q) := by
  unfold comC at h
  split at h
  · rename_i hh
    split at h
    · rename_i hl
      unfold comR
      rw [if_pos ⟨hh.1, hh.2, hl⟩]
      exact com_ord p q hh.1 hh.2 hl
    · omega
  · omega
end Go.Proofs.Ytokljgdfhogcoaa
