/- Mathematics of chapter 12: how a cut's text is split. -/
import Derived.Test.YtbhofhobnbhhhaaDoorBcPl
namespace Go.Proofs.YtbhofhobnbhhhaaDoor
open Go.RowKit
set_option linter.unusedVariables false
namespace Bc
theorem drop_cons {l : List UInt8} {k : Nat} {c : UInt8} (h : l[k]? = some c) : l.drop k = c :: l.drop (k + 1) := by
  have hlt := (List.getElem?_eq_some_iff.1 h).1
  rw [List.drop_eq_getElem_cons hlt]
  congr 1
  rw [List.getElem?_eq_getElem hlt] at h
  injection h
/-- Where the first opening bracket stands in the text of a cut. -/
theorem cut_at {L : List UInt8} {c : UInt8} {x j : Nat} {a b : List UInt8} (hL : L = cutL c x a b) (hj : L[j]? = some 40) (h1 : 1 ≤ j) (hf : ∀ i, i < j → L[i]? ≠ some 40) : j = 1 + (Lib.decDigits x).length := by
  have hn : ∀ y ∈ Lib.decDigits x, y ≠ 40 := fun y hy e => by
    have := decDigits_digs x y hy
    unfold isDig at this
    rw [e] at this
    exact absurd this.1 (by decide)
  have hat : L[1 + (Lib.decDigits x).length]? = some 40 := by
    rw [hL]
    unfold cutL
    rw [Nat.add_comm, List.getElem?_cons_succ, List.getElem?_append_right (Nat.le_refl _)]
    simp
  rcases Nat.lt_trichotomy j (1 + (Lib.decDigits x).length) with h | h | h
  · exfalso
    obtain ⟨i, rfl⟩ : ∃ i, j = i + 1 := ⟨j - 1, by omega⟩
    rw [hL] at hj
    unfold cutL at hj
    rw [List.getElem?_cons_succ, List.getElem?_append_left (by omega)] at hj
    exact hn _ (List.mem_of_getElem? hj) rfl
  · exact h
  · exact absurd hat (hf _ h)
theorem cut_digits {L : List UInt8} {c : UInt8} {x j : Nat} {a b : List UInt8} (hL : L = cutL c x a b) (hj : j = 1 + (Lib.decDigits x).length) : (L.take j).drop 1 = Lib.decDigits x := by
  rw [hL, hj]
  unfold cutL
  rw [Nat.add_comm, List.take_succ_cons, List.drop_one, List.tail_cons, List.take_left]
theorem cut_drop {L : List UInt8} {c : UInt8} {x j : Nat} {a b : List UInt8} (hL : L = cutL c x a b) (hj : j = 1 + (Lib.decDigits x).length) : L.drop j = 40 :: (a ++ 41 :: 40 :: (b ++ [41])) := by
  rw [hL, hj]
  unfold cutL
  rw [Nat.add_comm, List.drop_succ_cons, List.drop_left]
theorem cut_drop2 {L : List UInt8} {c : UInt8} {x j : Nat} {a b : List UInt8} (hL : L = cutL c x a b) (hj : j = 1 + (Lib.decDigits x).length) : L.drop (j + 2 + a.length) = 40 :: (b ++ [41]) := by
  have h := cut_drop hL hj
  have e : L.drop (j + 2 + a.length) = (L.drop j).drop (2 + a.length) := by rw [List.drop_drop]; congr 1; omega
  have e2 : (40 : UInt8) :: (a ++ 41 :: 40 :: (b ++ [41])) = (40 :: (a ++ [41])) ++ 40 :: (b ++ [41]) := by simp
  rw [e, h, e2, List.drop_append_of_le_length (by simp; omega), List.drop_of_length_le (by simp; omega)]
  rfl
theorem cut_len {L : List UInt8} {c : UInt8} {x j : Nat} {a b : List UInt8} (hL : L = cutL c x a b) (hj : j = 1 + (Lib.decDigits x).length) : L.length = j + a.length + b.length + 4 := by
  rw [hL, hj]
  unfold cutL
  simp only [List.length_cons, List.length_append, List.length_nil]
  omega
theorem cut_close {L : List UInt8} {c : UInt8} {x j : Nat} {a b : List UInt8} (hL : L = cutL c x a b) (hj : j = 1 + (Lib.decDigits x).length) (ha : Bal a) : close L j = ((j + 1 + a.length : Nat) : Int) := by
  unfold close
  rw [cut_drop hL hj]
  exact close_round ha j
theorem cut_close2 {L : List UInt8} {c : UInt8} {x j : Nat} {a b : List UInt8} (hL : L = cutL c x a b) (hj : j = 1 + (Lib.decDigits x).length) (hb : Bal b) : close L (j + 2 + a.length) = ((j + a.length + b.length + 3 : Nat) : Int) := by
  unfold close
  rw [cut_drop2 hL hj, close_round (r := []) hb]
  congr 1
  omega
theorem cut_open2 {L : List UInt8} {c : UInt8} {x j : Nat} {a b : List UInt8} (hL : L = cutL c x a b) (hj : j = 1 + (Lib.decDigits x).length) : L[j + 2 + a.length]? = some 40 := by
  have h := cut_drop2 hL hj
  have e := congrArg (fun l : List UInt8 => l[0]?) h
  simpa using e
/-- What the search finds from an opening bracket on. -/
theorem close_hit {L : List UInt8} {j : Nat} {e : Int} (hj : L[j]? = some 40) (he : close L j = e) (h0 : 0 ≤ e) : ∃ i : Nat, e = ((j + 1 + i : Nat) : Int) ∧ L[j + 1 + i]? = some 41 := by
  unfold close at he
  rw [drop_cons hj, closeF_cons] at he
  have h1 : dep (40 : UInt8).toNat 0 = 1 := rfl
  rw [h1, if_neg (by omega)] at he
  obtain ⟨i, hi, hc⟩ := closeF_hit he (by omega) h0
  refine ⟨i, hi, ?_⟩
  rw [List.getElem?_drop] at hc
  exact hc
/-- The text of a cut, found. -/
theorem cut_found {L : List UInt8} {x j i k : Nat} (h1 : 1 ≤ j) (hj : L[j]? = some 40) (hd : (L.take j).drop 1 = Lib.decDigits x) (h41 : L[j + 1 + i]? = some 41) (h40 : L[j + 2 + i]? = some 40) (h41' : L[j + 3 + i + k]? = some 41) (hl : L.length = j + 4 + i + k) :
    ∃ c, L = cutL c x ((L.take (j + 1 + i)).drop (j + 1)) ((L.take (j + 3 + i + k)).drop (j + 3 + i)) := by
  have hlt : 0 < L.length := by omega
  refine ⟨L[0], ?_⟩
  have e1 : (L.take (j + 1 + i)).drop (j + 1) = (L.drop (j + 1)).take i := by rw [List.drop_take]; congr 1; omega
  have e2 : (L.take (j + 3 + i + k)).drop (j + 3 + i) = (L.drop (j + 3 + i)).take k := by rw [List.drop_take]; congr 1; omega
  rw [e1, e2]
  unfold cutL
  have c1 : L = L[0] :: L.drop 1 := by
    have := drop_cons (List.getElem?_eq_getElem hlt)
    rw [List.drop_zero] at this
    exact this
  have c2 : L.drop 1 = Lib.decDigits x ++ L.drop j := by
    rw [← hd, List.drop_take]
    have : L.drop j = (L.drop 1).drop (j - 1) := by rw [List.drop_drop]; congr 1; omega
    rw [this, List.take_append_drop]
  have c3 : L.drop j = 40 :: L.drop (j + 1) := drop_cons hj
  have c4 : L.drop (j + 1) = (L.drop (j + 1)).take i ++ L.drop (j + 1 + i) := by
    have : L.drop (j + 1 + i) = (L.drop (j + 1)).drop i := by rw [List.drop_drop]
    rw [this, List.take_append_drop]
  have c5 : L.drop (j + 1 + i) = 41 :: 40 :: L.drop (j + 3 + i) := by
    have g1 := drop_cons h41
    have g2 := drop_cons h40
    have q1 : j + 1 + i + 1 = j + 2 + i := by omega
    have q2 : j + 2 + i + 1 = j + 3 + i := by omega
    rw [q1] at g1
    rw [q2] at g2
    rw [g1, g2]
  have c6 : L.drop (j + 3 + i) = (L.drop (j + 3 + i)).take k ++ [41] := by
    have g1 := drop_cons h41'
    have q1 : L.drop (j + 3 + i + k + 1) = [] := List.drop_of_length_le (by omega)
    rw [q1] at g1
    have g2 : L.drop (j + 3 + i + k) = (L.drop (j + 3 + i)).drop k := by rw [List.drop_drop]
    rw [← g1, g2, List.take_append_drop]
  calc L = L[0] :: (Lib.decDigits x ++ 40 :: L.drop (j + 1)) := by rw [← c3, ← c2]; exact c1
    _ = L[0] :: (Lib.decDigits x ++ 40 :: ((L.drop (j + 1)).take i ++ 41 :: 40 :: L.drop (j + 3 + i))) := by rw [← c5, ← c4]
    _ = L[0] :: (Lib.decDigits x ++ 40 :: ((L.drop (j + 1)).take i ++ 41 :: 40 :: ((L.drop (j + 3 + i)).take k ++ [41]))) := by rw [← c6]
/-- What the split of a text says. -/
def SplR (s : ByteArray) (n : Int) (a b : ByteArray) (ok : Bool) : Prop :=
  (ok = true ∧ ∃ (c : UInt8) (x : Nat), n = (x : Int) ∧ x < 10000000000 ∧ s.data.toList = cutL c x a.data.toList b.data.toList ∧ ∀ (c' : UInt8) (x' : Nat) (a' b' : List UInt8), Bal a' → Bal b' → s.data.toList = cutL c' x' a' b' → x' = x ∧ a' = a.data.toList ∧ b' = b.data.toList) ∨
  (ok = false ∧ ∀ (c : UInt8) (x : Nat) (a' b' : List UInt8), x < 10000000000 → Bal a' → Bal b' → s.data.toList ≠ cutL c x a' b')
end Bc
end Go.Proofs.YtbhofhobnbhhhaaDoor
