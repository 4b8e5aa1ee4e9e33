/- First fit, in any order, gives a packing; numbering anew keeps it one. -/
import Derived.Test.YtbhkpjjedeinpaaRlMath
namespace Go.Proofs.Ytbhkpjjedeinpaa
namespace Rl
theorem okT_iff {r : Int} {s : List Int} : okT r s = true ↔ (1 ≤ r ∧ r ≤ 100000) ∧ s.length ≤ 12 ∧ ∀ x ∈ s, 1 ≤ x ∧ x ≤ r := by
  unfold okT
  simp only [Bool.and_eq_true, decide_eq_true_eq, List.all_eq_true]
theorem isP_iff {r : Int} {s p : List Int} : isP r s p = true ↔ okT r s = true ∧ p.length = s.length ∧ numB 0 p = true ∧ ∀ x ∈ loads s p, x ≤ r := by
  unfold isP
  simp only [Bool.and_eq_true, decide_eq_true_eq, List.all_eq_true]
theorem fit_le (r x : Int) (o : List Int) : fit r x o ≤ o.length := by
  induction o with
  | nil => simp [fit]
  | cons y o ih =>
    unfold fit
    split
    · simp
    · simp only [List.length_cons]; omega
theorem fit_all {r x : Int} {o : List Int} (hx : x ≤ r) (h : ∀ y ∈ o, y ≤ r) : ∀ y ∈ addAt o (fit r x o) x, y ≤ r := by
  induction o with
  | nil => simpa [fit, addAt] using hx
  | cons a o ih =>
    unfold fit
    split
    · rename_i ha
      intro y hy
      simp only [addAt, List.mem_cons] at hy
      rcases hy with rfl | hy
      · exact ha
      · exact h y (by simp [hy])
    · intro y hy
      simp only [addAt, List.mem_cons] at hy
      rcases hy with rfl | hy
      · exact h _ (by simp)
      · exact ih (fun z hz => h z (by simp [hz])) y hy
theorem ffG_len (r : Int) (o s : List Int) : (ffG r o s).length = s.length := by
  induction s generalizing o with
  | nil => rfl
  | cons x s ih => simp [ffG, ih]
theorem ffG_num (r : Int) (o s : List Int) : numB (o.length : Int) (ffG r o s) = true := by
  induction s generalizing o with
  | nil => rfl
  | cons x s ih =>
    have h1 := fit_le r x o
    have h2 := ih (addAt o (fit r x o) x)
    rw [addAt_len] at h2
    simp only [ffG, numB, Bool.and_eq_true, decide_eq_true_eq]
    refine ⟨by omega, ?_⟩
    rw [show max (o.length : Int) ((fit r x o : Int) + 1) = ((max o.length (fit r x o + 1) : Nat) : Int) from by omega]
    exact h2
theorem ffG_loads {r : Int} {o s : List Int} (hs : ∀ x ∈ s, x ≤ r) (h : ∀ y ∈ o, y ≤ r) : ∀ y ∈ loadsF o s (ffG r o s), y ≤ r := by
  induction s generalizing o with
  | nil => simpa [ffG, loadsF] using h
  | cons x s ih =>
    simp only [ffG, loadsF, Int.toNat_natCast]
    exact ih (fun y hy => hs y (by simp [hy])) (fit_all (hs x (by simp)) h)
/-- First fit gives a packing. -/
theorem ff_pack {r : Int} {s : List Int} (h : okT r s = true) : isP r s (ff r s) = true :=
  isP_iff.2 ⟨h, ffG_len r [] s, ffG_num r [] s, ffG_loads (fun x hx => ((okT_iff.1 h).2.2 x hx).2) (by simp)⟩

/-! What lies on the roll with a label. -/
def sumV (v : Int) : List Int → List Int → Int
  | x :: s, j :: p => (if j = v then x else 0) + sumV v s p
  | _, _ => 0
theorem sumAt_V (k : Nat) (s p : List Int) (h : ∀ j ∈ p, 0 ≤ j) : sumAt k s p = sumV (k : Int) s p := by
  induction s generalizing p with
  | nil => cases p <;> rfl
  | cons x s ih =>
    cases p with
    | nil => rfl
    | cons j p =>
      have h1 := h j (by simp)
      have h2 := ih p fun i hi => h i (by simp [hi])
      simp only [sumAt, sumV, h2]
      by_cases hj : j = (k : Int)
      · rw [if_pos (by omega), if_pos hj]
      · rw [if_neg (by omega), if_neg hj]
theorem seen_mem (t : List Int) (k : Int) : k ∈ seen t k := by
  unfold seen
  split
  · assumption
  · simp
theorem seen_get {t : List Int} {k : Int} {j : Nat} (h : j < t.length) : (seen t k)[j]? = t[j]? := by
  unfold seen
  split
  · rfl
  · rw [List.getElem?_append_left h]
theorem seen_len (t : List Int) (k : Int) : (seen t k).length = max t.length ((seen t k).idxOf k + 1) := by
  by_cases h : k ∈ t
  · have h1 : seen t k = t := by unfold seen; rw [if_pos h]
    have h2 := List.idxOf_lt_length_of_mem h
    rw [h1]
    omega
  · have h1 : seen t k = t ++ [k] := by unfold seen; rw [if_neg h]
    have h2 : (t ++ [k]).idxOf k = t.length := by
      rw [List.idxOf_append, if_neg h]
      simp
    rw [h1, h2]
    simp
theorem seen_nodup {t : List Int} {k : Int} (h : t.Nodup) : (seen t k).Nodup := by
  unfold seen
  split
  · exact h
  · rename_i hk
    rw [List.nodup_append]
    refine ⟨h, by simp, ?_⟩
    intro a ha b hb e
    simp at hb
    subst hb e
    exact hk ha
theorem numS_len (t p : List Int) : (numS t p).length = p.length := by
  induction p generalizing t with
  | nil => rfl
  | cons k p ih => simp [numS, ih]
theorem numS_num (t p : List Int) : numB (t.length : Int) (numS t p) = true := by
  induction p generalizing t with
  | nil => rfl
  | cons k p ih =>
    have h1 := seen_len t k
    have h2 := ih (seen t k)
    have h3 := List.idxOf_lt_length_of_mem (seen_mem t k)
    have h4 : (seen t k).idxOf k ≤ t.length := by
      by_cases h : k ∈ t
      · have e : seen t k = t := by unfold seen; rw [if_pos h]
        rw [e] at h3 ⊢
        omega
      · have e : (seen t k).length = t.length + 1 := by unfold seen; rw [if_neg h]; simp
        omega
    simp only [numS, numB, Bool.and_eq_true, decide_eq_true_eq]
    refine ⟨by omega, ?_⟩
    rw [show max (t.length : Int) (((seen t k).idxOf k : Int) + 1) = ((seen t k).length : Int) from by omega]
    exact h2
theorem idx_iff {t : List Int} {k : Int} {j : Nat} {v : Int} (hn : t.Nodup) (hk : k ∈ t) (hv : t[j]? = some v) : t.idxOf k = j ↔ k = v := by
  have hj : j < t.length := (List.getElem?_eq_some_iff.1 hv).1
  have h1 := List.idxOf_lt_length_of_mem hk
  have h2 : t[t.idxOf k] = k := List.getElem_idxOf h1
  rw [List.getElem?_eq_getElem hj] at hv
  injection hv with hv
  constructor
  · intro e
    subst e
    rw [← hv, h2]
  · intro e
    subst e
    have h3 : t[t.idxOf k] = t[j] := by rw [h2, hv]
    exact (List.getElem_inj hn).1 h3
theorem numS_old (s t p : List Int) (j : Nat) (v : Int) (hn : t.Nodup) (hv : t[j]? = some v) : sumAt j s (numS t p) = sumV v s p := by
  induction p generalizing s t with
  | nil => cases s <;> rfl
  | cons k p ih =>
    cases s with
    | nil => rfl
    | cons x s =>
      have hj : j < t.length := (List.getElem?_eq_some_iff.1 hv).1
      have hv' : (seen t k)[j]? = some v := (seen_get hj).trans hv
      have h1 := ih s (seen t k) (seen_nodup hn) hv'
      simp only [numS, sumAt, sumV, h1, Int.toNat_natCast]
      have h2 := idx_iff (seen_nodup hn) (seen_mem t k) hv'
      by_cases h3 : k = v
      · rw [if_pos (h2.2 h3), if_pos h3]
      · rw [if_neg (fun e => h3 (h2.1 e)), if_neg h3]
theorem numS_new (s t p : List Int) (j : Nat) (hn : t.Nodup) (hj : t.length ≤ j) : sumAt j s (numS t p) = 0 ∨ ∃ v, v ∉ t ∧ sumAt j s (numS t p) = sumV v s p := by
  induction p generalizing s t with
  | nil => cases s <;> exact .inl rfl
  | cons k p ih =>
    cases s with
    | nil => exact .inl rfl
    | cons x s =>
      by_cases hlt : j < (seen t k).length
      · have hk : k ∉ t := by
          intro h
          have e : seen t k = t := by unfold seen; rw [if_pos h]
          rw [e] at hlt
          omega
        have e : seen t k = t ++ [k] := by unfold seen; rw [if_neg hk]
        have hjt : j = t.length := by rw [e] at hlt; simp at hlt; omega
        have hv : (seen t k)[j]? = some k := by rw [e, hjt]; simp
        have h1 := numS_old s (seen t k) p j k (seen_nodup hn) hv
        right
        refine ⟨k, hk, ?_⟩
        simp only [numS, sumAt, sumV, h1, Int.toNat_natCast]
        rw [if_pos ((idx_iff (seen_nodup hn) (seen_mem t k) hv).2 rfl), if_pos trivial]
      · have h0 : (seen t k).idxOf k ≠ j := by
          have := List.idxOf_lt_length_of_mem (seen_mem t k)
          omega
        rcases ih s (seen t k) (seen_nodup hn) (by omega) with h1 | ⟨v, hv, h1⟩
        · left
          simp only [numS, sumAt, h1, Int.toNat_natCast]
          rw [if_neg h0]
          rfl
        · right
          have hkv : k ≠ v := fun e => hv (e ▸ seen_mem t k)
          refine ⟨v, fun hm => hv ?_, ?_⟩
          · unfold seen
            split
            · exact hm
            · simp [hm]
          · simp only [numS, sumAt, sumV, h1, Int.toNat_natCast]
            rw [if_neg h0, if_neg hkv]
/-- What is numbered anew is a packing, if no label has too much. -/
theorem number_pack {r : Int} {s p : List Int} (h : okT r s = true) (hl : p.length = s.length) (hv : ∀ v, sumV v s p ≤ r) : isP r s (number p) = true := by
  refine isP_iff.2 ⟨h, by rw [← hl]; exact numS_len [] p, numS_num [] p, fun x hx => ?_⟩
  obtain ⟨k, hk⟩ := List.getElem?_of_mem hx
  have e : x = sumAt k s (number p) := by
    rw [← loads_get, List.getD_eq_getElem?_getD, hk]
    rfl
  rw [e]
  rcases numS_new s [] p k List.nodup_nil (Nat.zero_le _) with h1 | ⟨v, _, h1⟩
  · have := (okT_iff.1 h).1.1
    unfold number
    omega
  · unfold number
    rw [h1]
    exact hv v

/-! First fit in an order. -/
/-- What the strips of some indices with a label sum to. -/
def sumI (v : Int) (s p : List Int) : List Int → Int
  | [] => 0
  | i :: q => (if p.getD i.toNat 0 = v then s.getD i.toNat 0 else 0) + sumI v s p q
theorem sumI_append (v : Int) (s p a b : List Int) : sumI v s p (a ++ b) = sumI v s p a + sumI v s p b := by
  induction a with
  | nil => simp [sumI]
  | cons i a ih => simp only [List.cons_append, sumI, ih]; omega
theorem sumI_perm {v : Int} {s p a b : List Int} (h : List.Perm a b) : sumI v s p a = sumI v s p b := by
  induction h with
  | nil => rfl
  | cons x _ ih => simp only [sumI, ih]
  | swap x y l => simp only [sumI]; omega
  | trans _ _ h1 h2 => exact h1.trans h2
theorem sumI_set {v : Int} {s p q : List Int} {i : Nat} {k : Int} (h : ∀ j ∈ q, j.toNat ≠ i) : sumI v s (p.set i k) q = sumI v s p q := by
  induction q with
  | nil => rfl
  | cons j q ih =>
    have h1 := h j (by simp)
    have h2 := ih fun j hj => h j (by simp [hj])
    have h3 : (p.set i k).getD j.toNat 0 = p.getD j.toNat 0 := by
      rw [List.getD_eq_getElem?_getD, List.getD_eq_getElem?_getD, List.getElem?_set_ne (fun e => h1 e.symm)]
    simp only [sumI, h2, h3]
/-- All numbers from 0 on, as an order. -/
def idx (n : Nat) : List Int := (List.range n).map fun i : Nat => (i : Int)
theorem sumI_all (v : Int) (s p : List Int) (h : p.length = s.length) : sumI v s p (idx s.length) = sumV v s p := by
  have key : ∀ (a s b p : List Int), a.length = b.length → p.length = s.length → sumI v (a ++ s) (b ++ p) ((List.range s.length).map fun i : Nat => ((a.length + i : Nat) : Int)) = sumV v s p := by
    intro a s
    induction s generalizing a with
    | nil => intro b p _ hp; simp at hp; subst hp; rfl
    | cons x s ih =>
      intro b p hab hp
      cases p with
      | nil => simp at hp
      | cons k p =>
        have h1 := ih (a ++ [x]) (b ++ [k]) p (by simp [hab]) (by simpa using hp)
        simp only [List.append_assoc, List.cons_append, List.nil_append] at h1
        rw [List.length_cons, List.range_succ_eq_map, List.map_cons]
        simp only [sumI, sumV, List.map_map]
        have e1 : (b ++ k :: p).getD ((a.length + 0 : Nat) : Int).toNat 0 = k := by
          rw [List.getD_eq_getElem?_getD]
          simp [hab]
        have e2 : (a ++ x :: s).getD ((a.length + 0 : Nat) : Int).toNat 0 = x := by
          rw [List.getD_eq_getElem?_getD]
          simp
        rw [e1, e2, ← h1]
        congr 2
        apply List.map_congr_left
        intro i _
        simp
        omega
  have := key [] s [] p rfl h
  simpa [idx] using this
theorem ord_perm (s : List Int) (n : Nat) : List.Perm (ord s n) (idx n) := by
  induction n with
  | zero => exact .nil
  | succ n ih =>
    unfold idx at ih ⊢
    rw [List.range_succ, List.map_append]
    unfold ord
    refine (List.perm_middle (l₁ := (ord s n).take (insA s (s.getD n 0) (ord s n)))).trans ?_
    rw [List.take_append_drop]
    exact ((List.Perm.cons _ ih).trans (List.perm_append_singleton _ _).symm)
theorem idx_nodup (n : Nat) : (idx n).Nodup := by
  unfold idx
  rw [List.nodup_iff_pairwise_ne, List.pairwise_map]
  have := List.nodup_range (n := n)
  rw [List.nodup_iff_pairwise_ne] at this
  exact this.imp fun h e => h (by omega)
theorem idx_mem {n : Nat} {i : Int} (h : i ∈ idx n) : 0 ≤ i ∧ i.toNat < n := by
  unfold idx at h
  simp only [List.mem_map, List.mem_range] at h
  obtain ⟨k, hk, rfl⟩ := h
  omega
/-- The state of first fit in an order, after some indices. -/
structure FoI (r : Int) (s q : List Int) (w : List Int × List Int) : Prop where
  len : w.1.length = s.length
  pos : ∀ k ∈ w.1, 0 ≤ k
  get : ∀ k : Nat, sumI (k : Int) s w.1 q = w.2.getD k 0
  le : ∀ y ∈ w.2, y ≤ r
theorem FoI.start (r : Int) (s : List Int) : FoI r s [] (List.replicate s.length 0, []) :=
  ⟨by simp, fun k hk => by have := List.eq_of_mem_replicate hk; omega, fun k => by simp [sumI], by simp⟩
theorem FoI.next {r : Int} {s q : List Int} {w : List Int × List Int} {i : Int} (h : FoI r s q w) (hs : ∀ x ∈ s, x ≤ r) (hn : i.toNat < s.length) (hq : ∀ j ∈ q, j.toNat ≠ i.toNat) : FoI r s (q ++ [i]) (foS r s w i) := by
  have hx : s.getD i.toNat 0 ≤ r := by
    rw [List.getD_eq_getElem?_getD, List.getElem?_eq_getElem hn]
    exact hs _ (List.getElem_mem _)
  refine ⟨by simp [foS, h.len], fun k hk => ?_, fun k => ?_, fit_all hx h.le⟩
  · simp only [foS] at hk
    rcases List.mem_or_eq_of_mem_set hk with hk | rfl
    · exact h.pos k hk
    · omega
  · simp only [foS]
    rw [sumI_append, sumI_set hq, h.get k, addAt_get]
    simp only [sumI, Int.add_zero]
    have e : (w.1.set i.toNat (fit r (s.getD i.toNat 0) w.2 : Int)).getD i.toNat 0 = (fit r (s.getD i.toNat 0) w.2 : Int) := by
      rw [List.getD_eq_getElem?_getD, List.getElem?_set_self (by rw [h.len]; exact hn)]
      rfl
    rw [e]
    congr 1
    by_cases hk : fit r (s.getD i.toNat 0) w.2 = k
    · rw [if_pos hk, if_pos (by omega)]
    · rw [if_neg hk, if_neg (by omega)]
theorem FoI.fold {r : Int} {s : List Int} (hs : ∀ x ∈ s, x ≤ r) : ∀ (q q0 : List Int) (w : List Int × List Int), FoI r s q0 w → (q0 ++ q).Nodup → (∀ i ∈ q0 ++ q, 0 ≤ i ∧ i.toNat < s.length) → FoI r s (q0 ++ q) (q.foldl (foS r s) w)
  | [], q0, w, h, _, _ => by simpa using h
  | i :: q, q0, w, h, hn, hb => by
    have hi := hb i (by simp)
    have h1 := h.next hs hi.2 (fun j hj e => by
      have hj2 := hb j (by simp [hj])
      have hji : j = i := by omega
      subst hji
      rw [List.nodup_append] at hn
      exact hn.2.2 j hj j (by simp) rfl)
    have h2 := FoI.fold hs q (q0 ++ [i]) _ h1 (by simpa using hn) (by simpa using hb)
    simpa using h2
/-- Longest first gives a packing. -/
theorem lf_pack {r : Int} {s : List Int} (h : okT r s = true) : isP r s (lf r s) = true := by
  have hs := fun x hx => ((okT_iff.1 h).2.2 x hx).2
  have hp := ord_perm s s.length
  have hI := FoI.fold hs (ord s s.length) [] _ (FoI.start r s) (by simpa using (hp.nodup_iff).2 (idx_nodup _)) (fun i hi => idx_mem ((hp.mem_iff).1 (by simpa using hi)))
  simp only [List.nil_append] at hI
  replace hI : FoI r s (ord s s.length) (fo r s (ord s s.length)) := hI
  refine number_pack h hI.len fun v => ?_
  show sumV v s (fo r s (ord s s.length)).1 ≤ r
  rw [← sumI_all v s _ hI.len, ← sumI_perm hp]
  have h0 : 0 ≤ r := by have := (okT_iff.1 h).1.1; omega
  rcases Int.lt_or_le v 0 with hv | hv
  · -- no roll has such a label
    have : ∀ q : List Int, (∀ i ∈ q, i.toNat < s.length) → sumI v s (fo r s (ord s s.length)).1 q = 0 := by
      intro q hq
      induction q with
      | nil => rfl
      | cons i q ih =>
        have h1 := ih fun j hj => hq j (by simp [hj])
        have hi := hq i (by simp)
        have hlen : i.toNat < (fo r s (ord s s.length)).1.length := by
          have := hI.len
          omega
        have h2 : 0 ≤ (fo r s (ord s s.length)).1.getD i.toNat 0 := by
          rw [List.getD_eq_getElem?_getD, List.getElem?_eq_getElem hlen]
          exact hI.pos _ (List.getElem_mem _)
        simp only [sumI, h1]
        rw [if_neg (by omega)]
        rfl
    rw [this _ fun i hi => (idx_mem ((hp.mem_iff).1 hi)).2]
    exact h0
  · obtain ⟨k, rfl⟩ := Int.eq_ofNat_of_zero_le hv
    have h1 := hI.get k
    rw [h1]
    rw [List.getD_eq_getElem?_getD]
    rcases Nat.lt_or_ge k (fo r s (ord s s.length)).2.length with hk | hk
    · rw [List.getElem?_eq_getElem hk]
      exact hI.le _ (List.getElem_mem _)
    · rw [List.getElem?_eq_none hk]
      exact h0
end Rl
end Go.Proofs.Ytbhkpjjedeinpaa
