/- The list of all schemes rises strictly; a scheme that is found. No walk here. -/
import Derived.Test.YtcagljdebplmcaaFoLk
namespace Go.Proofs.Ytcagljdebplmcaa
open Go.RowKit

namespace Fo
/-- y comes behind x. -/
def Behind (x y : List UInt8) : Prop := Op.bytesLess y x = false ∧ ¬ y = x
theorem behind_pre (s : List UInt8) : ∀ (c c' : UInt8) (u u' : List UInt8), c < c' → Behind (s ++ c :: u) (s ++ c' :: u') := by
  induction s with
  | nil =>
    intro c c' u u' h
    have h1 : ¬ c' < c := fun h' => by
      have := UInt8.lt_iff_toNat_lt.1 h
      have := UInt8.lt_iff_toNat_lt.1 h'
      omega
    have h2 : ¬ c' = c := fun h' => by
      subst h'
      have := UInt8.lt_iff_toNat_lt.1 h
      omega
    refine ⟨?_, ?_⟩
    · show Op.bytesLess (c' :: u') (c :: u) = false
      simp [Op.bytesLess, h1, h2]
    · intro h'
      exact h2 (List.cons.inj h').1
  | cons d s ih =>
    intro c c' u u' h
    obtain ⟨h1, h2⟩ := ih c c' u u' h
    refine ⟨?_, ?_⟩
    · show Op.bytesLess (d :: (s ++ c' :: u')) (d :: (s ++ c :: u)) = false
      simp [Op.bytesLess, h1, UInt8.lt_irrefl]
    · intro h'
      exact h2 (List.cons.inj h').2
theorem sch_pre (n : Nat) : ∀ (a b : Nat) (s t : List UInt8), a + b = n → t ∈ sch s a b → ∃ u, t = s ++ u := by
  induction n with
  | zero =>
    intro a b s t h ht
    obtain rfl : a = 0 := by omega
    obtain rfl : b = 0 := by omega
    rw [sch_00] at ht
    exact ⟨[], by simpa using ht⟩
  | succ n ih =>
    intro a b s t h ht
    have key : ∀ c a' b', a' + b' = n → t ∈ sch (s ++ [c]) a' b' → ∃ u, t = s ++ u := fun c a' b' hn hm => by
      obtain ⟨u, rfl⟩ := ih a' b' _ t hn hm
      exact ⟨c :: u, by simp⟩
    rcases a with _ | a <;> rcases b with _ | b
    · omega
    · rw [sch_b, List.mem_append] at ht
      rcases ht with ht | ht <;> exact key _ _ _ (by omega) ht
    · rw [sch_a, List.mem_append] at ht
      rcases ht with ht | ht <;> exact key _ _ _ (by omega) ht
    · rw [sch_ab, List.mem_append, List.mem_append, List.mem_append] at ht
      rcases ht with ((ht | ht) | ht) | ht <;> exact key _ _ _ (by omega) ht
theorem sch_cross {c c' : UInt8} {s : List UInt8} {a b a' b' : Nat} (h : c < c') : ∀ x ∈ sch (s ++ [c]) a b, ∀ y ∈ sch (s ++ [c']) a' b', Behind x y := by
  intro x hx y hy
  obtain ⟨u, rfl⟩ := sch_pre _ _ _ _ x rfl hx
  obtain ⟨u', rfl⟩ := sch_pre _ _ _ _ y rfl hy
  have := behind_pre s c c' u u' h
  simpa using this
theorem sch_rises (n : Nat) : ∀ (a b : Nat) (s : List UInt8), a + b = n → (sch s a b).Pairwise Behind := by
  induction n with
  | zero =>
    intro a b s h
    obtain rfl : a = 0 := by omega
    obtain rfl : b = 0 := by omega
    rw [sch_00]
    simp
  | succ n ih =>
    intro a b s h
    rcases a with _ | a <;> rcases b with _ | b
    · omega
    · rw [sch_b, List.pairwise_append]
      exact ⟨ih _ _ _ (by omega), ih _ _ _ (by omega), sch_cross (by decide)⟩
    · rw [sch_a, List.pairwise_append]
      exact ⟨ih _ _ _ (by omega), ih _ _ _ (by omega), sch_cross (by decide)⟩
    · rw [sch_ab, List.pairwise_append, List.pairwise_append, List.pairwise_append]
      refine ⟨⟨⟨ih _ _ _ (by omega), ih _ _ _ (by omega), sch_cross (by decide)⟩, ih _ _ _ (by omega), ?_⟩, ih _ _ _ (by omega), ?_⟩
      · intro x hx y hy
        rcases List.mem_append.1 hx with hx | hx
        · exact sch_cross (by decide) x hx y hy
        · exact sch_cross (by decide) x hx y hy
      · intro x hx y hy
        rcases List.mem_append.1 hx with hx | hx
        · rcases List.mem_append.1 hx with hx | hx
          · exact sch_cross (by decide) x hx y hy
          · exact sch_cross (by decide) x hx y hy
        · exact sch_cross (by decide) x hx y hy
theorem rises_at {L : List (List UInt8)} (h : L.Pairwise Behind) {k : Nat} {x y : List UInt8} (hx : L[k]? = some x) (hy : L[k + 1]? = some y) : Behind x y := by
  obtain ⟨h1, rfl⟩ := List.getElem?_eq_some_iff.1 hx
  obtain ⟨h2, rfl⟩ := List.getElem?_eq_some_iff.1 hy
  exact List.pairwise_iff_getElem.1 h k (k + 1) h1 h2 (by omega)
end Fo
theorem so_sheet {a b : Int} (h : soC a b = 0) : Fo.sheet a b = true ∧ soR a b = Fo.sch [] (Fo.pw a) (Fo.pw b) := by
  unfold soC at h
  by_cases hs : Fo.sheet a b = true
  · exact ⟨hs, by unfold soR; rw [if_pos hs]⟩
  · rw [if_neg hs] at h
    exact absurd h (by omega)
theorem so_next {a b : Int} (h : soC a b = 0) {k : Nat} {x y : List UInt8} (hx : (soR a b)[k]? = some x) (hy : (soR a b)[k + 1]? = some y) : Fo.Behind x y := by
  obtain ⟨hs, e⟩ := so_sheet h
  rw [e] at hx hy
  exact Fo.rises_at (Fo.sch_rises _ _ _ _ rfl) hx hy
theorem so_scheme {a b : Int} (h : soC a b = 0) {k : Nat} {x : List UInt8} (hx : (soR a b)[k]? = some x) : Fo.scheme a b x = true ∧ x.length ≤ 6 := by
  obtain ⟨hs, e⟩ := so_sheet h
  rw [e] at hx
  have := Fo.sch_scheme hs (List.mem_of_getElem? hx)
  exact ⟨this, (Fo.scheme_len this).1⟩
theorem code_of_scheme {a b : Int} {l : List UInt8} (h : Fo.scheme a b l = true) : Fo.code a b l = 0 := by
  have := code_scheme a b l
  rw [h] at this
  simpa using this
theorem fn_found {a b : Int} {lv : List Lv} (h : fnC a b lv = 0) : Fo.code a b (fnR a b lv).data.toList = 0 ∧ LVs (fnR a b lv).data.toList = lv ∧ (fnR a b lv).size ≤ 6 := by
  unfold fnC at h
  by_cases hs : Fo.sheet a b = true
  · rw [if_pos hs] at h
    unfold fnR
    rw [if_pos hs]
    cases ht : fnF lv (Fo.sch [] (Fo.pw a) (Fo.pw b)) with
    | none => rw [ht] at h; simp at h
    | some t =>
      have hm := List.mem_of_find?_eq_some ht
      have hp := List.find?_some ht
      have hsc := Fo.sch_scheme hs hm
      refine ⟨code_of_scheme hsc, (smB_iff _ _).1 hp, ?_⟩
      have := (Fo.scheme_len hsc).1
      rw [← toList_len]
      exact this
  · rw [if_neg hs] at h
    exact absurd h (by omega)
theorem leqS {x y : List UInt8} (h : Fo.Behind x y) (sx sy : ByteArray) (hx : sx = ⟨x.toArray⟩) (hy : sy = ⟨y.toArray⟩) (W : World) : (binOp .leq 9 (.string sy) (.string sx)).run Try.prog W = .ok (.bool false) W := by
  subst hx hy
  have e1 : (ByteArray.mk x.toArray).toList = x := by rw [Lib.toList_data]
  have e2 : (ByteArray.mk y.toArray).toList = y := by rw [Lib.toList_data]
  have h1 := h.1
  have h2 : (y == x) = false := by simpa using h.2
  have : binOp .leq 9 (.string ⟨y.toArray⟩) (.string ⟨x.toArray⟩) = pure (.bool (Op.bytesLess y x || y == x)) := by
    have := show binOp .leq 9 (.string ⟨y.toArray⟩) (.string ⟨x.toArray⟩) = pure (.bool (Op.bytesLess (ByteArray.mk y.toArray).toList (ByteArray.mk x.toArray).toList || (ByteArray.mk y.toArray).toList == (ByteArray.mk x.toArray).toList)) from by simp [binOp, Op.stringOp]
    rw [e1, e2] at this
    exact this
  rw [this, h1, h2]
  rfl
end Go.Proofs.Ytcagljdebplmcaa
