/- Mathematics of the law about runs: no ups have a shorter run than the least one, and the best ups have it. -/
import Derived.Test.YtilfmnffdloneaaGaRu
namespace Go.Proofs.Ytilfmnffdloneaa
open Go.RowKit
namespace Ga
theorem tot_forR_le {r : Int} (hr : 1 ≤ r) : ∀ (q u : List Int), u.length = q.length → (∀ x ∈ u, 1 ≤ x) → run q u ≤ r → tot (forR q r) ≤ tot u := by
  intro q
  induction q with
  | nil =>
    intro u hl _ _
    cases u with
    | nil => exact Int.le_refl _
    | cons b u => simp at hl
  | cons a q ih =>
    intro u hl hu hrun
    cases u with
    | nil => simp at hl
    | cons b u =>
      have hb : 1 ≤ b := hu b (by simp)
      simp only [run] at hrun
      have h1 := ih u (by simpa using hl) (fun x hx => hu x (by simp [hx])) (by omega)
      have h2 : a ≤ r * b := (ceil_le hb).1 (by omega)
      have h3 : ceil a r ≤ b := (ceil_le hr).2 (by rw [Int.mul_comm]; exact h2)
      simp only [forR, List.map_cons, tot] at h1 ⊢
      omega
theorem mem_le_tot : ∀ (u : List Int), (∀ x ∈ u, 1 ≤ x) → ∀ x ∈ u, x ≤ tot u ∧ 0 ≤ tot u := by
  intro u
  induction u with
  | nil => intro _ x hx; simp at hx
  | cons a u ih =>
    intro h x hx
    have ha := h a (by simp)
    have h0 : 0 ≤ tot u := by
      cases u with
      | nil => exact Int.le_refl _
      | cons b u => exact (ih (fun y hy => h y (by simp [hy])) b (by simp)).2
    simp only [tot]
    rcases List.mem_cons.1 hx with rfl | hx
    · omega
    · have := (ih (fun y hy => h y (by simp [hy])) x hx).1
      omega
theorem run_ge1 {q u : List Int} (h1 : 1 ≤ q.length) (hl : u.length = q.length) (hq : ∀ x ∈ q, 1 ≤ x) (hu : ∀ x ∈ u, 1 ≤ x) : 1 ≤ run q u := by
  cases q with
  | nil => simp at h1
  | cons a q =>
    cases u with
    | nil => simp at hl
    | cons b u =>
      have h2 := (ceil_bd (hq a (by simp)) (hu b (by simp))).1
      simp only [run]
      omega
theorem least_le_run {s : Int} {q u : List Int} (hg : okG s q = true) (hu : okU s q u = true) : least s q ≤ run q u := by
  obtain ⟨_, g1, g2, _, g4⟩ := okG_iff.1 hg
  obtain ⟨u1, ⟨_, u3⟩, u4⟩ := okU_iff.1 hu
  have P := least_P g4 g2
  have h1 := run_ge1 g1 u1 (fun x hx => (g4 x hx).1) (fun x hx => (u3 x hx).1)
  rcases Int.lt_or_le (run q u) (least s q) with h | h
  · have h2 := P.2.2 _ h1 h
    have h3 := tot_forR_le h1 q u u1 (fun x hx => (u3 x hx).1) (Int.le_refl _)
    omega
  · exact h
theorem okU_best {s : Int} {q : List Int} (hg : okG s q = true) : okU s q (forR q (least s q)) = true := by
  obtain ⟨_, g1, g2, g3, g4⟩ := okG_iff.1 hg
  have P := least_P g4 g2
  have hb := forR_bd g4 P.1.1
  refine okU_iff.2 ⟨forR_len _ _, ⟨by rw [forR_len]; exact g3, fun x hx => ⟨(hb x hx).1, ?_⟩⟩, P.2.1⟩
  have h2 := (mem_le_tot _ (fun y hy => (hb y hy).1) x hx).1
  have h3 := P.2.1
  omega
theorem run_best {s : Int} {q : List Int} (hg : okG s q = true) : run q (forR q (least s q)) = least s q := by
  have h1 := least_le_run hg (okU_best hg)
  obtain ⟨_, g1, g2, _, g4⟩ := okG_iff.1 hg
  have P := least_P g4 g2
  have h2 : run q (forR q (least s q)) ≤ least s q := by
    refine run_le (by have := P.1; omega) fun k a b ha hb => ?_
    have e : b = ceil a (least s q) := by
      have h3 : (forR q (least s q))[k]? = some (ceil a (least s q)) := by unfold forR; rw [List.getElem?_map, ha]; rfl
      rw [hb] at h3
      injection h3
    have ha1 := g4 a (List.mem_of_getElem? ha)
    have hc := (ceil_bd ha1.1 P.1.1).1
    rw [e]
    refine (ceil_le hc).2 ?_
    rw [Int.mul_comm]
    exact (ceil_le P.1.1).1 (Int.le_refl _)
  omega
theorem rf_best {s : Int} {q G : List Int} (hg : okG s q = true) (hG : buR s q = G) : rfC s q G = 0 ∧ rfR s q G = lrR s q := by
  have e : G = forR q (least s q) := by rw [← hG]; unfold buR; rw [if_pos hg]
  have h0 : rfC s q G = 0 := by
    unfold rfC code
    rw [hg, e, okU_best hg]
    rfl
  refine ⟨h0, ?_⟩
  unfold rfR lrR
  rw [if_pos h0, if_pos hg, e, run_best hg]
theorem uf_less {s : Int} {q : List Int} (hg : okG s q = true) (h1 : ¬ lrR s q = 1) : ufC s q (lrR s q - 1) = 4 := by
  obtain ⟨_, g1, g2, _, g4⟩ := okG_iff.1 hg
  have P := least_P g4 g2
  have e : lrR s q = least s q := by unfold lrR; rw [if_pos hg]
  rw [e] at h1 ⊢
  have P1 := P.1
  have h3 := P.2.2 (least s q - 1) (by omega) (by omega)
  unfold ufC
  rw [if_pos hg, if_pos (by omega), if_neg (by omega)]
theorem lr_cases (s : Int) (q : List Int) : (okG s q = true ∧ lrC s q = 0) ∨ (okG s q = false ∧ lrC s q = 1) := by
  unfold lrC code
  cases okG s q
  · exact .inr ⟨rfl, rfl⟩
  · exact .inl ⟨rfl, rfl⟩
theorem rf_cases (s : Int) (q u : List Int) : rfC s q u = 0 ∨ rfC s q u = 1 ∨ rfC s q u = 2 := by
  unfold rfC code
  cases okG s q
  · exact .inr (.inl rfl)
  · cases okU s q u
    · exact .inr (.inr rfl)
    · exact .inl rfl
/-- What is known of ups that are ones: the run, the overs, the least run. -/
theorem rf_facts {s R : Int} {q u S : List Int} (h : rfC s q u = 0) (hR : rfR s q u = R) (hS : ovR s q u = S) :
    okG s q = true ∧ lrC s q = 0 ∧ lrR s q ≤ R ∧ (0 ≤ R ∧ R ≤ 1000000) ∧ u.length = q.length ∧ S.length = q.length ∧ q.length ≤ 6 ∧
    (∀ x ∈ q, 1 ≤ x ∧ x ≤ 1000000) ∧ (∀ x ∈ u, 1 ≤ x ∧ x ≤ 32) ∧ (∀ (k : Nat) (a b : Int), q[k]? = some a → u[k]? = some b → S[k]? = some (b * R - a) ∧ a ≤ b * R) := by
  obtain ⟨hg, hu⟩ := rf_ok h
  obtain ⟨g0, g1, g2, g3, g4⟩ := okG_iff.1 hg
  obtain ⟨u1, ⟨_, u3⟩, u4⟩ := okU_iff.1 hu
  have eR : R = run q u := by rw [← hR]; unfold rfR; rw [if_pos h]
  have eS : S = overs R q u := by rw [← hS, eR]; unfold ovR; rw [if_pos h]
  refine ⟨hg, by unfold lrC code; rw [hg]; rfl, ?_, ?_, u1, by rw [eS, overs_len u1], g3, g4, fun x hx => by have := u3 x hx; omega, ?_⟩
  · unfold lrR
    rw [if_pos hg, eR]
    exact least_le_run hg hu
  · rw [eR]
    exact ⟨run_pos q u, run_bd g4 fun x hx => (u3 x hx).1⟩
  · intro k a b ha hb
    refine ⟨by rw [eS]; exact overs_at ha hb, ?_⟩
    have h1 := run_ge ha hb
    rw [← eR] at h1
    have h2 := (ceil_le (u3 b (List.mem_of_getElem? hb)).1).1 h1
    rw [Int.mul_comm]
    exact h2
end Ga
end Go.Proofs.Ytilfmnffdloneaa
