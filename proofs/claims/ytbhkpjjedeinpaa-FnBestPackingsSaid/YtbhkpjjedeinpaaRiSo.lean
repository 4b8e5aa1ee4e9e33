/- The program's stable sort of the strips' numbers, from the longest to the shortest strip. -/
import Derived.Test.YtbhkpjjedeinpaaRiKs
import Derived.Test.YtbhkpjjedeinpaaRiSp
import Derived.Laws.MakeOwn
namespace Go.Proofs.Ytbhkpjjedeinpaa
open Go.RowKit
set_option linter.unusedVariables false

namespace Rl
/-- From the longest to the shortest strip. -/
def Dsc (s q : List Int) : Prop := q.Pairwise fun a b => s.getD b.toNat 0 ≤ s.getD a.toNat 0
theorem insA_take {s q : List Int} {x : Int} : ∀ y ∈ q.take (insA s x q), x ≤ s.getD y.toNat 0 := by
  induction q with
  | nil => simp [insA]
  | cons a q ih =>
    unfold insA
    split
    · rename_i h
      intro y hy
      rw [List.take_succ_cons] at hy
      rcases List.mem_cons.1 hy with rfl | hy
      · exact h
      · exact ih y hy
    · simp
theorem insA_drop {s q : List Int} {x : Int} (h : Dsc s q) : ∀ y ∈ q.drop (insA s x q), s.getD y.toNat 0 < x := by
  induction q with
  | nil => simp [insA]
  | cons a q ih =>
    unfold Dsc at h
    rw [List.pairwise_cons] at h
    unfold insA
    split
    · intro y hy
      rw [List.drop_succ_cons] at hy
      exact ih h.2 y hy
    · rename_i hx
      intro y hy
      rw [List.drop_zero] at hy
      rcases List.mem_cons.1 hy with rfl | hy
      · omega
      · have := h.1 y hy
        omega
theorem ord_dsc (s : List Int) : ∀ n, Dsc s (ord s n)
  | 0 => by unfold Dsc ord; exact List.Pairwise.nil
  | n + 1 => by
    have ih := ord_dsc s n
    have h1 := insA_take (s := s) (q := ord s n) (x := s.getD n 0)
    have h2 := insA_drop (x := s.getD n 0) ih
    unfold Dsc at ih ⊢
    have e := List.take_append_drop (insA s (s.getD n 0) (ord s n)) (ord s n)
    rw [← e, List.pairwise_append] at ih
    unfold ord
    rw [List.pairwise_append, List.pairwise_cons]
    refine ⟨ih.1, ⟨fun y hy => ?_, ih.2.1⟩, fun a ha b hb => ?_⟩
    · have := h2 y hy
      simp only [Int.toNat_natCast]
      omega
    · rcases List.mem_cons.1 hb with rfl | hb
      · have := h1 a ha
        simp only [Int.toNat_natCast]
        omega
      · exact ih.2.2 a ha b hb
theorem swap_at (a b : List Int) (x y : Int) : ((a ++ y :: x :: b).set (a.length + 1) y).set a.length x = a ++ x :: y :: b := by
  rw [List.set_append_right _ _ (by omega)]
  have e : a.length + 1 - a.length = 1 := by omega
  rw [e]
  simp only [List.set_cons_succ, List.set_cons_zero]
  rw [List.set_append_right _ _ (by omega), Nat.sub_self]
  rfl
/-- The row while number i goes down: it stands at place j. -/
def low (O R : List Int) (i : Int) (j : Nat) : List Int := O.take j ++ i :: (O.drop j ++ R)
theorem low_len {O R : List Int} {i : Int} {j : Nat} (h : j ≤ O.length) : (low O R i j).length = O.length + 1 + R.length := by
  unfold low
  simp
  omega
theorem low_at {O R : List Int} {i : Int} {j : Nat} (h : j ≤ O.length) : (low O R i j)[j]? = some i := by
  unfold low
  rw [List.getElem?_append_right (by rw [List.length_take]; omega), List.length_take, Nat.min_eq_left h, Nat.sub_self]
  rfl
theorem low_cut {O R : List Int} {i : Int} {j : Nat} (h : j + 1 ≤ O.length) : low O R i (j + 1) = O.take j ++ O[j] :: i :: (O.drop (j + 1) ++ R) := by
  have e : O.take (j + 1) = O.take j ++ [O[j]] := by rw [List.take_add_one, List.getElem?_eq_getElem (by omega)]; rfl
  unfold low
  rw [e, List.append_assoc]
  rfl
theorem getD_at {l : List Int} {k : Nat} (h : k < l.length) : l.getD k 0 = l[k] := by
  rw [List.getD_eq_getElem?_getD, List.getElem?_eq_getElem h]
  rfl
theorem low_left {O R : List Int} {i : Int} {j : Nat} (h : j + 1 ≤ O.length) : (low O R i (j + 1))[j]? = some O[j] := by
  have hl : (O.take j).length = j := by rw [List.length_take]; exact Nat.min_eq_left (by omega)
  rw [low_cut h, List.getElem?_append_right (show (O.take j).length ≤ j from Nat.le_of_eq hl), hl, Nat.sub_self]
  rfl
theorem low_swap {O R : List Int} {i : Int} {j : Nat} (h : j + 1 ≤ O.length) : ((low O R i (j + 1)).set (j + 1) O[j]).set j i = low O R i j := by
  have hl : (O.take j).length = j := by rw [List.length_take]; exact Nat.min_eq_left (by omega)
  rw [low_cut h]
  have h1 := swap_at (O.take j) (O.drop (j + 1) ++ R) i O[j]
  rw [hl] at h1
  rw [h1]
  unfold low
  rw [show O.drop j = O[j] :: O.drop (j + 1) from List.drop_eq_getElem_cons (by omega)]
  rfl
theorem low_end {s : List Int} {R : List Int} {i j : Nat} (hj : j ≤ i) (h1 : ∀ y ∈ (ord s i).drop j, s.getD y.toNat 0 < s.getD i 0) (h2 : ∀ h : 0 < j, s.getD i 0 ≤ s.getD ((ord s i)[j - 1]'(by rw [ord_len]; omega)).toNat 0) : low (ord s i) R (i : Int) j = ord s (i + 1) ++ R := by
  have hl := ord_len s i
  have e : insA s (s.getD i 0) (ord s i) = j := by
    refine insA_is (fun k hk => ?_) ?_
    · have h3 := h2 (by omega)
      rw [getD_at (l := ord s i) (by omega)]
      rcases Nat.lt_or_ge k (j - 1) with h4 | h4
      · have h5 := List.pairwise_iff_getElem.1 (ord_dsc s i) k (j - 1) (by omega) (by omega) h4
        omega
      · obtain rfl : k = j - 1 := by omega
        exact h3
    · rcases Nat.lt_or_ge j i with h4 | h4
      · refine .inr ⟨by omega, ?_⟩
        rw [getD_at (l := ord s i) (by omega)]
        refine h1 _ ?_
        rw [List.drop_eq_getElem_cons (by omega)]
        exact List.mem_cons_self ..
      · exact .inl (by omega)
  unfold low
  conv => rhs; unfold ord
  rw [e, List.append_assoc]
  rfl
theorem low_start (s : List Int) {n i : Nat} (h : i < n) : ord s i ++ (idx n).drop i = low (ord s i) ((idx n).drop (i + 1)) (i : Int) i := by
  have hl := ord_len s i
  unfold low
  rw [List.take_of_length_le (by omega), List.drop_of_length_le (l := ord s i) (by omega), List.nil_append, List.drop_eq_getElem_cons (by rw [idx_len]; exact h)]
  congr 2
  unfold idx
  simp
end Rl
end Go.Proofs.Ytbhkpjjedeinpaa
