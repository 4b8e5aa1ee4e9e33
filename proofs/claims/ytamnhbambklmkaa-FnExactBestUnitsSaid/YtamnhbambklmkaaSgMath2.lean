/- The mathematics of the laws on gathered and nested books: blank pages are counted, best units add up, partners lie on one side. No program is named here. -/
import Derived.Test.YtamnhbambklmkaaSgMath
namespace Go.Proofs.Ytamnhbambklmkaa
namespace Sg
theorem nodup_le (n : Nat) : ∀ (l : List Int), l.Nodup → (∀ x ∈ l, 0 ≤ x ∧ x < (n : Int)) → l.length ≤ n := by
  induction n with
  | zero =>
    intro l _ h
    cases l with
    | nil => simp
    | cons x r => have := h x (by simp); omega
  | succ n ih =>
    intro l hd h
    have h1 : (l.erase (n : Int)).Nodup := hd.erase _
    have h2 := ih (l.erase (n : Int)) h1 fun x hx => by
      have hm := List.mem_of_mem_erase hx
      have h3 := h x hm
      have hne : x ≠ (n : Int) := by
        rintro rfl
        exact (hd.mem_erase_iff.1 hx).1 rfl
      omega
    have h3 := List.length_erase (a := (n : Int)) (l := l)
    split at h3 <;> omega
theorem ord_onto (l : List Int) (h : isOrd l) (j : Nat) (hj : j < l.length) : ∃ k, k < l.length ∧ l[k]? = some (j : Int) := by
  have hm : (j : Int) ∈ l := by
    refine Decidable.byContradiction fun hn => ?_
    have := nodup_le l.length ((j : Int) :: l) (List.nodup_cons.2 ⟨hn, h.2.2⟩) fun x hx => by
      rcases List.mem_cons.1 hx with rfl | hx
      · omega
      · exact h.2.1 x hx
    simp at this
    omega
  obtain ⟨k, hk, e⟩ := List.mem_iff_getElem.1 hm
  exact ⟨k, hk, by rw [List.getElem?_eq_getElem hk, e]⟩
theorem pg_zero {p x : Int} (hx : 0 < x) : pg p x = 0 ↔ p < x := by
  unfold pg
  split <;> omega
theorem row_zeros (p u i : Int) (h0 : 0 ≤ i * u) (hp : i * u ≤ p) (m : Nat) : (((row p u i m).count 0 : Nat) : Int) = max 0 (i * u + (m : Int) - p) := by
  induction m with
  | zero => simp [row]; omega
  | succ m ih =>
    rw [row_next, List.count_append, Int.natCast_add, ih]
    have := pg_zero (p := p) (x := i * u + (m : Int) + 1) (by omega)
    by_cases h : p < i * u + (m : Int) + 1
    · rw [this.2 h]
      simp
      omega
    · have h1 : ¬ pg p (i * u + (m : Int) + 1) = 0 := fun e => h (this.1 e)
      rw [List.count_singleton]
      simp [h1]
      omega
theorem gath_zeros (p u : Int) (m : Nat) (hm : (m : Int) = u) (hu : 0 < u) (n : Nat) (h1 : ((n : Int) - 1) * u < p) (h2 : p ≤ (n : Int) * u) : ∀ L : List Int, L.Nodup → (∀ x ∈ L, 0 ≤ x ∧ x < (n : Int)) →
    (((gath p u m L).count 0 : Nat) : Int) = if (n : Int) - 1 ∈ L then (n : Int) * u - p else 0 := by
  intro L
  induction L with
  | nil => intro _ _; simp [gath]
  | cons a t ih =>
    intro hd hr
    have e : gath p u m (a :: t) = row p u a m ++ gath p u m t := by simp [gath]
    obtain ⟨hda, hdt⟩ := List.nodup_cons.1 hd
    have hra := hr a (by simp)
    have hi := ih hdt (fun x hx => hr x (List.mem_cons_of_mem _ hx))
    have a0 : 0 ≤ a * u := Int.mul_nonneg hra.1 (by omega)
    have a1 : a * u ≤ ((n : Int) - 1) * u := Int.mul_le_mul_of_nonneg_right (by omega) (by omega)
    rw [e, List.count_append, Int.natCast_add, hi, row_zeros p u a a0 (by omega) m, hm]
    have e2 : (n : Int) * u = ((n : Int) - 1) * u + u := by rw [Int.sub_mul, Int.one_mul]; omega
    by_cases ha : a = (n : Int) - 1
    · subst ha
      rw [if_neg hda, if_pos (by simp)]
      omega
    · have a2 : a * u ≤ ((n : Int) - 1 - 1) * u := Int.mul_le_mul_of_nonneg_right (by omega) (by omega)
      have e3 : ((n : Int) - 1) * u = ((n : Int) - 1 - 1) * u + u := by rw [Int.sub_mul ((n : Int) - 1), Int.one_mul]; omega
      have hmem : (n : Int) - 1 ∈ a :: t ↔ (n : Int) - 1 ∈ t := by
        rw [List.mem_cons]
        exact ⟨fun h => h.resolve_left (fun e => ha e.symm), .inr⟩
      have hz : max 0 (a * u + u - p) = 0 := by omega
      rw [hz]
      by_cases ht : (n : Int) - 1 ∈ t
      · rw [if_pos ht, if_pos (hmem.2 ht)]; omega
      · rw [if_neg ht, if_neg (fun h => ht (hmem.1 h))]; omega
theorem ga_out {p u : Int} {L : List Int} (h : gaOk p u L = true) : fits p u = true ∧ isOrd L ∧ (L.length : Int) = ceil p u := by
  unfold gaOk isOrdB at h
  simpa using h
/-- As many pages are printed as the book has. -/
theorem ga_count {p u : Int} {L : List Int} (h : gaOk p u L = true) : ((gath p u u.toNat L).length : Int) - (((gath p u u.toNat L).count 0 : Nat) : Int) = p := by
  obtain ⟨hf, ho, hl⟩ := ga_out h
  have hb := ceil_bd hf
  have hu := un_bd (fits_out hf).2
  have hm : (u.toNat : Int) = u := by omega
  rw [← hl] at hb
  have e2 : ((L.length : Int) - 1) * u = (L.length : Int) * u - u := by rw [Int.sub_mul, Int.one_mul]
  have hz := gath_zeros p u u.toNat hm (by omega) L.length (by omega) (by omega) L ho.2.2 ho.2.1
  have hmem : (L.length : Int) - 1 ∈ L := by
    obtain ⟨k, _, hk⟩ := ord_onto L ho (L.length - 1) (by omega)
    have : ((L.length - 1 : Nat) : Int) = (L.length : Int) - 1 := by omega
    rw [this] at hk
    exact List.mem_of_getElem? hk
  rw [if_pos hmem] at hz
  rw [hz, gath_len]
  have : ((L.length * u.toNat : Nat) : Int) = (L.length : Int) * u := by rw [Int.natCast_mul, hm]
  omega
/-- Where a printed page stands. -/
theorem so_place {p u i x : Int} {m : Nat} (hf : fits p u = true) (hi : 0 ≤ i) (hm : (m : Int) < u) (hx : pg p (i * u + (m : Int) + 1) = x) (h0 : ¬ x = 0) : soR p u x = i ∧ soK p u x = (m : Int) + 1 ∧ soC p u x = 0 := by
  have hu := un_bd (fits_out hf).2
  have h1 : 0 ≤ i * u := Int.mul_nonneg hi (by omega)
  have hlt : ¬ p < i * u + (m : Int) + 1 := fun h => h0 (by rw [← hx]; exact (pg_zero (by omega)).2 h)
  have hx' : x = i * u + (m : Int) + 1 := by rw [← hx]; unfold pg; rw [if_neg hlt]
  have hok : soOk p u x = true := so_mk hf (by omega) (by omega)
  have e : x - 1 = (m : Int) + i * u := by omega
  unfold soR soK soC
  rw [if_pos hok, if_pos hok, if_pos hok, e, Int.add_mul_ediv_right _ _ (by omega), Int.add_mul_emod_self_right, Int.ediv_eq_zero_of_lt (by omega) hm, Int.emod_eq_of_lt (by omega) hm]
  exact ⟨by omega, rfl, rfl⟩
theorem so_back {p u x : Int} (h : soOk p u x = true) : 0 ≤ soR p u x ∧ soR p u x < scR p u ∧ 1 ≤ soK p u x ∧ soK p u x ≤ u ∧ 0 ≤ soR p u x * u ∧ soR p u x * u ≤ 4096 ∧ soR p u x * u + soK p u x = x := by
  obtain ⟨hf, h1, h2⟩ := so_out h
  have hb := (fits_out hf).1
  unfold soR soK scR ceil
  rw [if_pos h, if_pos h, if_pos hf]
  rcases un_cases (fits_out hf).2 with rfl | rfl | rfl | rfl | rfl | rfl <;> omega

/-- The pages of some signatures of each unit. -/
def dot : List Int → List Int → Int
  | a :: s, u :: t => a * u + dot s t
  | _, _ => 0
theorem dot_next : ∀ (s t : List Int) (k : Nat) (a u : Int), s[k]? = some a → t[k]? = some u → dot (s.take (k + 1)) (t.take (k + 1)) = dot (s.take k) (t.take k) + a * u := by
  intro s
  induction s with
  | nil => intro t k a u h; simp at h
  | cons b s ih =>
    intro t k a u h h'
    match t, k, h, h' with
    | [], _, _, h' => simp at h'
    | v :: t, 0, h, h' =>
      simp at h h'
      subst h h'
      simp [dot]
    | v :: t, k + 1, h, h' =>
      simp only [List.getElem?_cons_succ] at h h'
      simp only [List.take_succ_cons, dot]
      rw [ih t k a u h h']
      omega
theorem bs_nonneg (X : Int) (h0 : 0 ≤ X) (L : List Int) (hu : L.all un = true) : ∀ a ∈ (bs X L).1, 0 ≤ a := by
  induction L with
  | nil => simp [bs]
  | cons u t ih =>
    simp only [List.all_cons, Bool.and_eq_true] at hu
    intro a ha
    simp only [bs, List.mem_cons] at ha
    rcases ha with rfl | ha
    · exact Int.ediv_nonneg (bs_bd X h0 t hu.2).1 (by have := un_bd hu.1; omega)
    · exact ih hu.2 a ha
theorem bs_dot (X : Int) (L : List Int) : dot (bs X L).1 L + (bs X L).2 = X := by
  induction L with
  | nil => simp [bs, dot]
  | cons u t ih =>
    simp only [bs, dot]
    have := Int.mul_ediv_add_emod (bs X t).2 u
    rw [Int.mul_comm] at this
    omega
theorem dot_take_le : ∀ (s t : List Int) (k : Nat), (∀ a ∈ s, 0 ≤ a) → (∀ u ∈ t, 0 ≤ u) → 0 ≤ dot (s.take k) (t.take k) ∧ dot (s.take k) (t.take k) ≤ dot s t := by
  intro s
  induction s with
  | nil => intro t k _ _; simp [dot]
  | cons a s ih =>
    intro t k h h'
    match t, k with
    | [], k => cases k <;> simp [dot]
    | u :: t, 0 =>
      have h1 := ih t 0 (fun x hx => h x (List.mem_cons_of_mem _ hx)) (fun x hx => h' x (List.mem_cons_of_mem _ hx))
      have h2 := Int.mul_nonneg (h a (by simp)) (h' u (by simp))
      simp only [List.take_zero, dot] at h1 ⊢
      omega
    | u :: t, k + 1 =>
      have h1 := ih t k (fun x hx => h x (List.mem_cons_of_mem _ hx)) (fun x hx => h' x (List.mem_cons_of_mem _ hx))
      have h2 := Int.mul_nonneg (h a (by simp)) (h' u (by simp))
      simp only [List.take_succ_cons, dot]
      omega
theorem div_un {u v : Int} (hu : un u = true) (hv : un v = true) (h : u ≤ v) : u ∣ v := by
  rcases un_cases hu with rfl | rfl | rfl | rfl | rfl | rfl <;> rcases un_cases hv with rfl | rfl | rfl | rfl | rfl | rfl <;> omega
theorem bs_dvd (X u : Int) (hX : u ∣ X) (L : List Int) (h : ∀ v ∈ L, u ∣ v) : u ∣ (bs X L).2 := by
  induction L with
  | nil => exact hX
  | cons v t ih =>
    simp only [bs]
    have h1 := ih (fun x hx => h x (List.mem_cons_of_mem _ hx))
    have h2 := h v (by simp)
    rw [Int.emod_def]
    exact Int.dvd_sub h1 (Int.dvd_trans h2 (Int.dvd_mul_right _ _))
theorem rises_first : ∀ (L : List Int) (a : Int), rises (a :: L) = true → ∀ x ∈ L, a < x := by
  intro L
  induction L with
  | nil => intro a _ x hx; simp at hx
  | cons b t ih =>
    intro a h x hx
    simp only [rises, Bool.and_eq_true, decide_eq_true_eq] at h
    rcases List.mem_cons.1 hx with rfl | hx
    · exact h.1
    · have := ih b h.2 x hx
      omega
/-- All about the best units. -/
theorem bu_all {p : Int} {L : List Int} (h : canB p L = true) : ∃ u t, L = u :: t ∧ inP p = true ∧ L.all un = true ∧ (∀ x ∈ L, u ≤ x) ∧ fits p u = true ∧ first L = u ∧ 1 ≤ least p L ∧ p ≤ least p L ∧ least p L < p + u ∧ dot (bs (least p L) L).1 L = least p L := by
  rw [can_iff] at h
  simp only [Bool.and_eq_true, decide_eq_true_eq] at h
  obtain ⟨hp, hne, hr, ha⟩ := h
  cases L with
  | nil => exact absurd rfl hne
  | cons u t =>
    have ha' := ha
    simp only [List.all_cons, Bool.and_eq_true] at ha'
    have hf : fits p u = true := by unfold fits; rw [hp, ha'.1]; rfl
    have hb := ceil_bd hf
    have hub := un_bd ha'.1
    have hfirst := rises_first t u hr
    have hpb := (fits_out hf).1
    refine ⟨u, t, rfl, hp, ha, fun x hx => ?_, hf, rfl, ?_, ?_, ?_, ?_⟩
    · rcases List.mem_cons.1 hx with rfl | hx
      · exact Int.le_refl _
      · have := hfirst x hx; omega
    · show 1 ≤ ceil p u * u
      omega
    · show p ≤ ceil p u * u
      omega
    · show ceil p u * u < p + u
      omega
    · have hd := bs_dot (least p (u :: t)) (u :: t)
      have hdv : u ∣ (bs (least p (u :: t)) t).2 := bs_dvd _ _ (Int.dvd_mul_left _ _) t (fun v hv => div_un ha'.1 (by rw [List.all_eq_true] at ha'; exact ha'.2 v hv) (by have := hfirst v hv; omega))
      have h0 : (bs (least p (u :: t)) (u :: t)).2 = 0 := by
        show (bs (least p (u :: t)) t).2 % u = 0
        exact Int.emod_eq_zero_of_dvd hdv
      omega

theorem pt_facts {n p : Int} (h : nsOk n p = true) : nsOk n (4 * n + 1 - p) = true ∧ nsK n (4 * n + 1 - p) = nsK n p ∧ nsI n (4 * n + 1 - p) / 2 = nsI n p / 2 ∧ nsI n (4 * n + 1 - p) ≠ nsI n p := by
  have h' := of_decide_eq_true h
  refine ⟨decide_eq_true (by omega), ?_, ?_, ?_⟩
  · unfold nsK
    split <;> split <;> omega
  · unfold nsI
    repeat' split
    all_goals omega
  · unfold nsI
    repeat' split
    all_goals omega
theorem four_at {n p : Int} (h : nsOk n p = true) (j : Nat) (hj : (j : Int) = nsI n p) : (four n (nsK n p))[j]? = some p := by
  have h' := of_decide_eq_true h
  have hb := ns_bd h
  have hc : j = 0 ∨ j = 1 ∨ j = 2 ∨ j = 3 := by omega
  unfold nsI at hj
  unfold nsK four
  by_cases h1 : p ≤ 2 * n
  · rw [if_pos h1] at hj ⊢
    by_cases h2 : p % 2 = 1
    · rw [if_pos h2] at hj
      obtain rfl : j = 1 := by omega
      simp
      omega
    · rw [if_neg h2] at hj
      obtain rfl : j = 2 := by omega
      simp
      omega
  · rw [if_neg h1] at hj ⊢
    by_cases h2 : p % 2 = 0
    · rw [if_pos h2] at hj
      obtain rfl : j = 0 := by omega
      simp
      omega
    · rw [if_neg h2] at hj
      obtain rfl : j = 3 := by omega
      simp
      omega
theorem np_of {n p : Int} (h : nsOk n p = true) : npOk n (nsK n p) = true := by
  have h' := of_decide_eq_true h
  have hb := ns_bd h
  exact decide_eq_true (by omega)
end Sg
end Go.Proofs.Ytamnhbambklmkaa
