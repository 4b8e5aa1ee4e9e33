/- The mathematics of the law of strips: half of the leaves lie face down, each cell's place, the way back from a stack to its folds. No program. -/
import Derived.Test.YtjpfbonnohodhaaDoorStFf2
import Derived.Test.YtjpfbonnohodhaaDoorStPl2
import Derived.Test.YtjpfbonnohodhaaDoorStCf
import Derived.Test.YtjpfbonnohodhaaDoorStCrMath
namespace Go.Proofs.YtjpfbonnohodhaaDoor
open Go.RowKit

def cntDn (l : List Int) : Nat := (l.filter fun x => decide (x < 0)).length
theorem cntUp_app (a b : List Int) : cntUp (a ++ b) = cntUp a + cntUp b := by simp [cntUp, List.filter_append]
theorem cntDn_app (a b : List Int) : cntDn (a ++ b) = cntDn a + cntDn b := by simp [cntDn, List.filter_append]
theorem cnt_turn (l : List Int) : cntUp (St.turn l) = cntDn l ∧ cntDn (St.turn l) = cntUp l := by
  induction l with
  | nil => exact ⟨rfl, rfl⟩
  | cons a l ih =>
    have e : St.turn (a :: l) = St.turn l ++ [-a] := by simp [St.turn]
    rw [e, cntUp_app, cntDn_app, ih.1, ih.2]
    constructor
    · show cntDn l + cntUp [-a] = cntDn ([a] ++ l)
      rw [cntDn_app, Nat.add_comm]
      congr 1
      simp only [cntUp, cntDn, List.filter_cons, List.filter_nil]
      by_cases h : a < 0
      · rw [if_pos (by simpa using h), if_pos (by simpa using h)]
        rfl
      · rw [if_neg (by simpa using h), if_neg (by simpa using h)]
    · show cntUp l + cntDn [-a] = cntUp ([a] ++ l)
      rw [cntUp_app, Nat.add_comm]
      congr 1
      simp only [cntUp, cntDn, List.filter_cons, List.filter_nil]
      by_cases h : 0 < a
      · rw [if_pos (by simpa using h), if_pos (by simpa using h)]
        rfl
      · rw [if_neg (by simpa using h), if_neg (by simpa using h)]
/-- Half of the leaves lie face up, half face down. -/
def Hf (l : List Int) : Prop := cntUp l = cntDn l ∧ cntUp l + cntDn l = l.length
theorem Hf.app {a b : List Int} (ha : Hf a) (hb : Hf b) : Hf (St.turn a ++ b) := by
  obtain ⟨h1, h2⟩ := ha
  obtain ⟨h3, h4⟩ := hb
  unfold Hf
  rw [cntUp_app, cntDn_app, (cnt_turn a).1, (cnt_turn a).2, List.length_append, turn_len]
  omega
theorem getD_has {P : List Int → Prop} (h0 : P []) (ls : List (List Int)) (h : ∀ l ∈ ls, P l) (i : Nat) : P (ls.getD i []) := by
  rw [List.getD_eq_getElem?_getD]
  cases hx : ls[i]? with
  | none => exact h0
  | some x => exact h x (List.mem_of_getElem? hx)
theorem fold_half (ls : List (List Int)) (b : UInt8) (h : ∀ l ∈ ls, Hf l) : ∀ l ∈ St.fold ls b, Hf l := by
  intro l hl
  unfold St.fold at hl
  obtain ⟨i, _, rfl⟩ := List.mem_map.1 hl
  exact (getD_has (P := Hf) ⟨rfl, rfl⟩ ls h _).app (getD_has (P := Hf) ⟨rfl, rfl⟩ ls h _)
theorem foldl_half (l : List UInt8) : ∀ ls : List (List Int), (∀ x ∈ ls, Hf x) → ∀ x ∈ l.foldl St.fold ls, Hf x := by
  induction l with
  | nil => intro ls h; exact h
  | cons b l ih => intro ls h; exact ih _ (fold_half ls b h)
theorem start_get (n k : Nat) (h : k < n) : (St.start n).getD k [] = [((k : Nat) : Int) + 1] := by
  rw [List.getD_eq_getElem?_getD]
  unfold St.start
  rw [List.getElem?_map, List.getElem?_range h]
  rfl
theorem first_half (n : Nat) (b : UInt8) : ∀ l ∈ St.fold (St.start n) b, Hf l := by
  intro l hl
  unfold St.fold at hl
  obtain ⟨i, hi, rfl⟩ := List.mem_map.1 hl
  rw [List.mem_range] at hi
  have hn : (St.start n).length = n := by simp [St.start]
  rw [hn] at hi
  obtain ⟨p, hp⟩ : ∃ p : Nat, St.over (St.start n) b i = [((p : Nat) : Int) + 1] := ⟨_, by
    unfold St.over
    rw [hn]
    exact start_get n _ (by split <;> omega)⟩
  obtain ⟨q, hq⟩ : ∃ q : Nat, St.under (St.start n) b i = [((q : Nat) : Int) + 1] := ⟨_, by
    unfold St.under
    rw [hn]
    exact start_get n _ (by split <;> omega)⟩
  rw [hp, hq]
  unfold Hf
  rw [cntUp_app, cntDn_app, (cnt_turn _).1, (cnt_turn _).2]
  have u : ∀ r : Nat, cntUp [((r : Nat) : Int) + 1] = 1 ∧ cntDn [((r : Nat) : Int) + 1] = 0 := fun r => by
    constructor
    · unfold cntUp
      rw [List.filter_cons, if_pos (decide_eq_true (by omega))]
      rfl
    · unfold cntDn
      rw [List.filter_cons, if_neg (by simp; omega)]
      rfl
  rw [(u p).1, (u p).2, (u q).1, (u q).2]
  exact ⟨rfl, rfl⟩
theorem stack_half (l : List UInt8) (hne : l ≠ []) : Hf (St.stack l) := by
  obtain ⟨b, l', rfl⟩ : ∃ b l', l = b :: l' := by
    cases l with
    | nil => exact absurd rfl hne
    | cons b l' => exact ⟨b, l', rfl⟩
  unfold St.stack St.foldAll
  rw [List.foldl_cons]
  have h := foldl_half l' _ (first_half (2 ^ (b :: l').length) b)
  have := getD_has (P := Hf) ⟨rfl, rfl⟩ _ h 0
  rw [List.getD_eq_getElem?_getD, ← List.head?_eq_getElem?] at this
  rw [List.headD_eq_head?_getD]
  exact this
/-- As many leaves lie face up as face down. -/
theorem cf_even (l : List UInt8) (hf : St.foldsB l = true) (hne : l ≠ []) : cfU l = cfD l := by
  have := stack_half l hne
  unfold cfU cfD
  rw [if_pos hf, if_pos hf]
  have h1 := this.1
  have h2 := this.2
  omega
theorem cf_sum (l : List UInt8) (hf : St.foldsB l = true) : cfU l + cfD l = ((St.stack l).length : Int) := by
  unfold cfU cfD
  rw [if_pos hf, if_pos hf]
  omega
/-- Each cell lies where the stack has it. -/
theorem pl_own {l : List UInt8} (hf : St.foldsB l = true) {k : Nat} {x : Int} (hx : (St.stack l)[k]? = some x) : plR l (St.cellOf x) = (k : Int) ∧ plC l (St.cellOf x) = 0 := by
  have hp : plI l (St.cellOf x) = some k := plI_some hx rfl (fun y hy e => by
    obtain ⟨j, hj⟩ := List.mem_iff_getElem?.1 hy
    obtain ⟨hk, hxk⟩ := List.getElem?_eq_some_iff.1 hx
    have hjk : j < k := by
      have := (List.getElem?_eq_some_iff.1 hj).1
      rw [List.length_take] at this
      omega
    rw [List.getElem?_take, if_pos hjk] at hj
    obtain ⟨hj', hyj⟩ := List.getElem?_eq_some_iff.1 hj
    have := (List.pairwise_iff_getElem.1 (St.cr_facts hf).nodup) j k (by simpa using hj') (by simpa using hk) hjk
    rw [List.getElem_map, List.getElem_map, hyj, hxk] at this
    exact this e)
  unfold plR plC
  rw [if_pos hf, if_pos hf, hp]
  exact ⟨rfl, rfl⟩
/-- The folds of a stack are found again. -/
theorem ff_own {l : List UInt8} (hf : St.foldsB l = true) : ffR (fsR l) = ⟨l.toArray⟩ ∧ ffC (fsR l) = 0 := by
  have hb := St.bot_stack hf
  have h6 : l.length ≤ 6 := by
    unfold St.foldsB at hf
    simp only [Bool.and_eq_true, decide_eq_true_eq] at hf
    exact hf.2
  have hR : fsR l = St.stack l := by unfold fsR; rw [if_pos hf]
  have hlg : Nat.log2 (St.stack l).length = l.length := by rw [hb.2, Nat.log2_two_pow]
  have ha : St.ans (St.stack l) = some l := by
    unfold St.ans
    rw [hlg, hb.1, if_pos rfl]
  have hc := St.cr_facts hf
  have hm : isMk (St.stack l) = true := by
    unfold isMk isOrdB
    rw [Bool.and_eq_true, decide_eq_true_eq, decide_eq_true_eq]
    refine ⟨fun e => ?_, ?_, ?_, hc.nodup⟩
    · have := congrArg List.length e
      rw [hb.2] at this
      have := Nat.pow_pos (a := 2) (n := l.length) (by omega)
      simp at *
    · rw [List.length_map, hb.2]
      exact pow_le6 h6
    · intro y hy
      obtain ⟨x, hx, rfl⟩ := List.mem_map.1 hy
      have := hc.range x hx
      rw [List.length_map, hb.2]
      exact this
  rw [hR]
  unfold ffR ffC
  rw [if_pos hm, if_pos hm, ha]
  exact ⟨rfl, rfl⟩
/-- Folds that are found fold to the stack. -/
theorem ff_back {x : List Int} (h : ffC x = 0) : ∃ r : List UInt8, ffR x = ⟨r.toArray⟩ ∧ fsC r = 0 ∧ fsR r = x := by
  unfold ffC at h
  by_cases hm : isMk x = true
  · rw [if_pos hm] at h
    obtain ⟨h0, h64⟩ := mk_len hm
    cases ha : St.ans x with
    | none => rw [ha] at h; cases h
    | some r =>
      have hk : Nat.log2 x.length ≤ 6 := by
        have := (Nat.log2_lt (by omega : x.length ≠ 0)).2 (show x.length < 2 ^ 7 by omega)
        omega
      have hr : r = St.bot (St.lastC x) (Nat.log2 x.length) ∧ St.stack r = x := by
        unfold St.ans at ha
        split at ha
        · injection ha with ha
          subst ha
          exact ⟨rfl, by assumption⟩
        · cases ha
      have hf : St.foldsB r = true := by rw [hr.1]; exact St.bot_folds _ _ hk
      refine ⟨r, ?_, ?_, ?_⟩
      · unfold ffR
        rw [if_pos hm, ha]
      · unfold fsC
        rw [if_pos hf]
      · unfold fsR
        rw [if_pos hf, hr.2]
  · rw [if_neg hm] at h
    cases h
end Go.Proofs.YtjpfbonnohodhaaDoor
