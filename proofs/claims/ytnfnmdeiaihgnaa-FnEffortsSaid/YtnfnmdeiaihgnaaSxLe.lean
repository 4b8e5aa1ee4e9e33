/- For the law FnEfforts: lists are told alike, changes by way of an empty machine, the best order. -/
import Derived.Test.YtnfnmdeiaihgnaaSxEf
import Derived.Test.YtnfnmdeiaihgnaaSuLw
import Derived.Test.YtnfnmdeiaihgnaaSuDy
import Derived.Test.YtnfnmdeiaihgnaaSum
namespace Go.Proofs.Ytnfnmdeiaihgnaa
open Go.RowKit
set_option linter.unusedVariables false

theorem OwnS.capE {w : World} {lo hi n c : Nat} {A : Option Addr} {l : List Un} (h : OwnS Un.S w lo hi (.slice A n c) l) : n ≤ c := by
  obtain ⟨A', c', e, h2⟩ := h.form
  injection e with _ e1 e2
  omega
theorem q_bE {P : Program} {f : FuncId} {args : Array Value} {w : World} {v : Ending} (h : Calls P f args w fun e w' => e = v ∧ Q w w') : Calls P f args w fun e w' => e = v ∧ Below w.heap.size w w' := h.mono fun _ _ ⟨a, b⟩ => ⟨a, b.below _⟩
theorem likeI13_b (A A' : Option Addr) (n n' c c' B B' : Nat) (l : List Int) (w : World) (h : Rd I w B A n l) (h' : Rd I w B' A' n' l) (hn : n ≤ 1048576) :
    Calls Try.prog 34 #[.slice A n c, .slice A' n' c'] w fun e w' => e = .returned (.bool true) ∧ Below w.heap.size w w' := by
  obtain rfl : n = n' := h.1.symm.trans h'.1
  refine (likeInts_true A A' n c c' B B' l w h h' hn).mono ?_
  rintro e w' ⟨he, m, hm⟩
  exact ⟨he, by rw [hm]; exact below_drewN' (Below.refl _ _) m⟩
namespace Su
theorem ccR_comm (a b : List Un) : ccR a b = ccR b a := by
  unfold ccR
  rw [chR_comm]
  by_cases h : okU a = true ∧ okU b = true
  · rw [if_pos h, if_pos ⟨h.2, h.1⟩]
  · rw [if_neg h, if_neg (fun e => h ⟨e.2, e.1⟩)]
theorem ccC_comm (a b : List Un) : ccC a b = ccC b a := by
  unfold ccC
  by_cases h : okU a = true ∧ okU b = true
  · rw [if_pos h, if_pos ⟨h.2, h.1⟩]
  · rw [if_neg h, if_neg (fun e => h ⟨e.2, e.1⟩)]
/-- The changes by way of an empty machine. -/
theorem cc_by {a b : List Un} {X Y : Int} (hX : ccR a b = X) (hY : ccC a b = Y) (h0 : Y = 0) : ∃ X1 X2, ccR a [] = X1 ∧ ccC a [] = 0 ∧ ccR [] b = X2 ∧ ccC [] b = 0 ∧ X ≤ X1 + X2 ∧ (0 ≤ X1 ∧ X1 ≤ 6) ∧ (0 ≤ X2 ∧ X2 ≤ 6) := by
  have hok : okU a = true ∧ okU b = true := by
    unfold ccC at hY
    split at hY
    · assumption
    · omega
  have hn : okU [] = true := rfl
  have e1 : ccR a [] = chR a [] := by unfold ccR; rw [if_pos ⟨hok.1, hn⟩]
  have e2 : ccR [] b = chR [] b := by unfold ccR; rw [if_pos ⟨hn, hok.2⟩]
  have e3 : ccR a b = chR a b := by unfold ccR; rw [if_pos hok]
  refine ⟨_, _, e1, by unfold ccC; rw [if_pos ⟨hok.1, hn⟩], e2, by unfold ccC; rw [if_pos ⟨hn, hok.2⟩], ?_, chR_bd (okU_iff.1 hok.1).1 (Nat.zero_le _), chR_bd (Nat.zero_le _) (okU_iff.1 hok.2).1⟩
  rw [← hX, e3]
  exact chR_le a b
/-- The best order is an order, and none has less effort. -/
theorem ef_facts {ls : List (List Un)} {o p : List Int} {R D J ef : Int} (hR : jfR ls o = R) (hD : jfC ls o = D) (h0 : D = 0) (hJ : jbC ls = J) (hz : J = 0 → BjR ls p ef) : J = 0 ∧ jfC ls p = 0 ∧ jfR ls p = ef ∧ ef ≤ R := by
  by_cases hj : jbC ls = 0
  · obtain ⟨h7, _⟩ := jbC0 hj
    have hb := hz (by rw [← hJ]; exact hj)
    obtain ⟨h1, h2, h3⟩ := hb.ord h7
    obtain ⟨a1, a2⟩ := jf_yes hj ⟨h1, h2⟩
    have ho : isOrd o ∧ o.length = ls.length := by
      unfold jfC at hD
      rw [if_pos hj] at hD
      split at hD
      · assumption
      · omega
    refine ⟨by rw [← hJ]; exact hj, a1, by rw [a2, h3], ?_⟩
    rw [← hR, (jf_yes hj ho).2]
    exact hb.least h7 ho.1 ho.2
  · exfalso
    have := (jf_bad (o := o) rfl hj).1
    rw [hD, h0] at this
    exact hj this.symm
theorem bj_same {ls : List (List Un)} {C e1 e2 : Int} {o1 o2 : List Int} (h1 : C = 0 → BjR ls o1 e1) (k1 : C ≠ 0 → o1 = [] ∧ e1 = 0) (h2 : C = 0 → BjR ls o2 e2) (k2 : C ≠ 0 → o2 = [] ∧ e2 = 0) : o1 = o2 ∧ e1 = e2 := by
  by_cases h : C = 0
  · exact (h1 h).same (h2 h)
  · obtain ⟨a, b⟩ := k1 h
    obtain ⟨c, d⟩ := k2 h
    exact ⟨a.trans c.symm, b.trans d.symm⟩
end Su
end Go.Proofs.Ytnfnmdeiaihgnaa
