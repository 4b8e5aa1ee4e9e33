/- The words of a program's text, as strings.SplitN parts them. -/
import Derived.Test.YtbhofhobnbhhhaaDoorRpRc
import Derived.Test.YtbhofhobnbhhhaaDoorPxJn
import Derived.Shelf.Strings.SplitShaped
namespace Go.Proofs.YtbhofhobnbhhhaaDoor
open Go.RowKit
set_option linter.unusedVariables false
namespace Px
theorem index_no {l : List UInt8} {m : UInt8} (h : m ∉ l) : Lib.index l [m] = -1 := by
  induction l with
  | nil => rfl
  | cons c l ih =>
    rw [List.mem_cons, not_or] at h
    have hp : List.isPrefixOf [m] (c :: l) = false := by
      simp [List.isPrefixOf]
      exact h.1
    rw [Lib.index, hp, ih h.2]
    rfl
theorem indexB_mark (s : ByteArray) (l r : List UInt8) (h : (32 : UInt8) ∉ l) (hs : s.data.toList = l ++ 32 :: r) : Lib.indexB s ⟨#[32]⟩ = (l.length : Int) := by
  unfold Lib.indexB
  rw [hs]
  exact index_mark l r 32 h
theorem split_join (r : List Ct) : ∀ (a : Ct) (s : ByteArray) (k : Nat), r.length ≤ k → s.data.toList = ctL a ++ Lib.joinTail [32] (r.map ctL) → Lib.splitB ⟨#[32]⟩ 0 k s = (a :: r).map ctS := by
  induction r with
  | nil =>
    intro a s k _ hs
    have hs' : s = ctS a := bytes_ext (by rw [hs, ctS_data]; simp [Lib.joinTail])
    have hm : Lib.indexB s ⟨#[32]⟩ = -1 := by
      unfold Lib.indexB
      rw [hs', ctS_data]
      exact index_no (ctL_blank a)
    rw [Lib.splitB_miss _ _ _ _ hm, hs']
    rfl
  | cons b r ih =>
    intro a s k hk hs
    obtain ⟨k, rfl⟩ : ∃ j, k = j + 1 := ⟨k - 1, by simp at hk; omega⟩
    have hs2 : s.data.toList = ctL a ++ 32 :: (ctL b ++ Lib.joinTail [32] (r.map ctL)) := by
      rw [hs, List.map_cons, joinTail_cons]
      simp
    have hm := indexB_mark s _ _ (ctL_blank a) hs2
    rw [Lib.splitB_hit _ _ _ _ _ hm, ih b (s.extract ((ctL a).length + (⟨#[32]⟩ : ByteArray).size) s.size) k (by simp at hk; omega) ?_, List.map_cons (l := b :: r)]
    · congr 1
      apply bytes_ext
      rw [ext_list _ _ _ (by rw [← toList_len, hs2]; simp), hs2, ctS_data, List.drop_zero, Nat.add_zero, List.take_left' rfl]
    · rw [ext_list _ _ _ (Nat.le_refl _), List.take_of_length_le (Nat.le_of_eq (toList_len s)), hs2]
      show List.drop ((ctL a).length + 1) _ = _
      rw [← List.drop_drop, List.drop_left' rfl]
      rfl
theorem words_split {s : ByteArray} (hs : s ≠ ⟨#[]⟩) : ∀ g, ptS g = s → Lib.splitB ⟨#[32]⟩ 0 (min 80 (s.size + 1) - 1) s = g.map ctS := fun g hg => by
  obtain ⟨_, h2, h3, h4⟩ := of_pt hg hs
  have hc := (spl_count 32 s).2
  rw [of_words hg hs, List.length_map] at hc
  cases g with
  | nil => exact absurd rfl h3
  | cons a r =>
    simp only [List.length_cons] at hc h2
    exact split_join r a s _ (by omega) (by rw [h4, joinL_cons])
end Px
theorem split_size (sep : ByteArray) : ∀ (k : Nat) (s x : ByteArray), x ∈ Lib.splitB sep 0 k s → x.size ≤ s.size
  | 0, s, x, h => by
    rw [Lib.splitB_zero, List.mem_singleton] at h
    rw [h]
    exact Nat.le_refl _
  | k + 1, s, x, h => by
    unfold Lib.splitB at h
    split at h
    · rw [List.mem_singleton] at h
      rw [h]
      exact Nat.le_refl _
    · rw [List.mem_cons] at h
      rcases h with h | h
      · rw [h, ByteArray.size_extract]
        omega
      · have := split_size sep k _ x h
        rw [ByteArray.size_extract] at this
        omega
theorem splitN_any (s : ByteArray) (w : World) (h : Lb w) (hs : s.size ≤ 1048576) :
    Calls Tryd.prog 72 #[.string s, .string ⟨#[32]⟩, .int .i64 80] w fun e w' => ∃ n c, e = .returned (.slice (some ⟨w.heap.size, 0, none⟩) n c) ∧ n ≤ 80 ∧ (Lib.splitB ⟨#[32]⟩ 0 (min 80 (s.size + 1) - 1) s).length = n ∧
      (∀ k x, (Lib.splitB ⟨#[32]⟩ 0 (min 80 (s.size + 1) - 1) s)[k]? = some x → w'.cell? ⟨w.heap.size, k, none⟩ = some (.string x)) ∧ Below w.heap.size w w' ∧ w'.heap.size = w.heap.size + 1 := by
  obtain ⟨m, hm⟩ := h.ml
  refine (Tryd.strings_SplitN s ⟨#[32]⟩ 80 m w (by omega) hm (by show 1 ≤ 1; omega) (by omega) (by omega)).mono fun e w' h => ?_
  obtain ⟨he, hw⟩ := h
  have hl := Lib.splitB_length_le ⟨#[32]⟩ 0 (min 80 (s.size + 1) - 1) s
  refine ⟨_, _, he, by omega, rfl, ?_, by rw [hw]; exact (Below.refl _ _).alloc (Nat.le_refl _) _, by rw [hw]; simp⟩
  intro k x hx
  subst hw
  refine (Blk.new _ _ rfl).cell k ?_
  have hk := (List.getElem?_eq_some_iff.1 hx).1
  unfold Lib.cellsOf
  rw [List.getElem?_toArray, List.getElem?_append_left (by simpa using hk), List.getElem?_map, hx]
  rfl
end Go.Proofs.YtbhofhobnbhhhaaDoor
