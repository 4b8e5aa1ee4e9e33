/- Contracts of the helpers of the exact laws: a copy of a list is new and holds the same; two equal lists are told equal; marks are written and read back. -/
import Derived.Test.YtnfnmdeiaihgnaaProg
import Derived.Test.YtnfnmdeiaihgnaaWords
import Derived.KernelRfl
import Derived.Deep.QuietTactic
import Derived.BigQuiet
namespace Go.Proofs.Ytnfnmdeiaihgnaa
open Go.RowKit

/-- int64 numbers as values. -/
abbrev I (x : Int) : Value := .int .i64 x

theorem infoI : (Try.prog.info? 2).map (fun i => (i.zero, i.size, i.bytes)) = some (some (.int .i64 0), 1, 8) := by kernel_rfl

theorem set_mid {α : Type} (a b : List α) (x y : α) (k : Nat) (h : a.length = k) : (a ++ y :: b).set k x = a ++ x :: b := by
  subst h
  simp
theorem take_next {α : Type} (l : List α) (k : Nat) (x : α) (hx : l[k]? = some x) : l.take (k + 1) = l.take k ++ [x] := by
  rw [List.take_add_one, hx]
  rfl
theorem copy_step (l : List Int) (k n : Nat) (x : Int) (hl : l.length = n) (hx : l[k]? = some x) (hk : k < n) :
    (l.take k ++ List.replicate (n - k) 0).set k x = l.take (k + 1) ++ List.replicate (n - (k + 1)) 0 := by
  rw [show n - k = (n - (k + 1)) + 1 from by omega, List.replicate_succ, set_mid _ _ _ _ _ (by simp; omega), take_next l k x hx]
  simp
theorem mark_step (m l : List Int) (k n : Nat) (x : Int) (hm : m.length = n) (hl : l.length = n) (hx : m[k]? = some x) (hk : k < n) :
    (m.take k ++ l.drop k).set k x = m.take (k + 1) ++ l.drop (k + 1) := by
  rw [List.drop_eq_getElem_cons (by omega), set_mid _ _ _ _ _ (by simp; omega), take_next m k x hx]
  simp

set_option maxHeartbeats 400000 in
/-- toInt64S: a new copy. -/
theorem toInt64S_at (A : Option Addr) (n c B : Nat) (l : List Int) (w : World) (h : Rd I w B A n l) (hB : B ≤ w.heap.size) (hn : n ≤ 1048576) :
    Calls Try.prog 44 #[.slice A n c] w fun e w' => e = .returned (.slice (some ⟨w.heap.size, 0, none⟩) n n) ∧
      Own I w' w.heap.size (w.heap.size + 1) 2 (.slice (some ⟨w.heap.size, 0, none⟩) n n) l ∧ Below w.heap.size w w' := by
  obtain ⟨i0, hi0, hz0, hz1, hz2⟩ := info_parts infoI
  have hml : n ≤ maxLen := by unfold maxLen; omega
  go_enter Try.func44, Try.ntmps44
  go_wp2_with (at_make; refine wpList_make_full _ rfl _ _ 43 rfl w.heap.size 2 i0 (.int .i64 0) 1 Try.underlying43 hi0 hz0 hz1 .i64 .i64 _ _ n rfl rfl rfl rfl (by rw [hz2]; omega) hml (Nat.le_refl _) ?_; intro w1 hown1 hg1)
  have hown : Own I w1 w.heap.size (w.heap.size + 1) 2 (.slice (some ⟨w.heap.size, 0, none⟩) n n) (List.replicate n 0) := by
    refine ⟨?_, fun k hk => by simp [Value.ownBlock] at hk; omega⟩
    have hz : (Value.int IntKind.i64 0).cells = #[.int .i64 0] := rfl
    rw [hz, toList_madeCells_one] at hown1
    simpa using hown1
  have hb1 : Below w.heap.size w w1 := (Below.refl _ _).grown hg1 (Nat.le_refl _) (by simp)
  clear hown1 hg1
  have hs1 : w.heap.size + 1 ≤ w1.heap.size := by have := hown.lt w.heap.size rfl; omega
  have HL : Hid (l.length = n) := h.1
  go_loopw [4] (fun i wr => ∃ k : Nat, k ≤ n ∧ i = .int .i64 k ∧ Own I wr w.heap.size (w.heap.size + 1) 2 (.slice (some ⟨w.heap.size, 0, none⟩) n n) (l.take k ++ List.replicate (n - k) 0) ∧ Below w.heap.size w wr) (fun i _ => n - (intOf i).toNat)
  case atStart => exact ⟨0, Nat.zero_le _, rfl, by simpa using hown, hb1⟩
  case round =>
    obtain ⟨k, hk, rfl, ho, hb⟩ := hrel
    by_cases hlt : k < n
    · obtain ⟨b, o, x, rfl, hbB, hx, hc⟩ := (h.below hb hB).at_ hlt
      obtain ⟨g, y, hg, hg1, hg2, hg3, hy, hc2, hf2⟩ := ho.at_ hlt
      have hset := ho.set_ (k := k) x
      injection hg with hg
      injection hg with hg _ _
      subst hg
      have HX : Hid (l[k]? = some x) := hx
      clear hx hy hg1 hg2
      go_wp2
      go_roundw
      case rel =>
        refine ⟨k + 1, by omega, by go_num, ?_, hb.trans (hset.2.below (Nat.le_refl _) hb.size)⟩
        have := hset.1
        rwa [copy_step l k n x HL.out HX.out hlt] at this
      case measure => simp [intOf]; omega
    · obtain rfl : k = n := by omega
      go_wp2
      go_ret
      refine ⟨rfl, ?_, hb⟩
      have hle := HL.out
      simpa [List.take_of_length_le (Nat.le_of_eq hle)] using ho

theorem toInt64S_any (A : Option Addr) (n c B : Nat) (l : List Int) (w : World) (h : Rd I w B A n l) (hB : B ≤ w.heap.size) (hn : n ≤ 1048576) :
    Calls Try.prog 44 #[.slice A n c] w fun e w' => ∃ g, e = .returned (.slice (some ⟨g, 0, none⟩) n n) ∧
      Own I w' w.heap.size w'.heap.size 2 (.slice (some ⟨g, 0, none⟩) n n) l ∧ Below w.heap.size w w' :=
  (toInt64S_at A n c B l w h hB hn).mono fun _ _ ⟨he, ho, hb⟩ => ⟨_, he, ho.mono (Nat.le_refl _) (by have := ho.lt _ rfl; omega), hb⟩

set_option maxHeartbeats 400000 in
/-- eqInt64S of two slices that read as one list: true. -/
theorem eqInt64S_true (A A' : Option Addr) (n c c' B B' : Nat) (l : List Int) (w : World) (h : Rd I w B A n l) (h' : Rd I w B' A' n l) (hn : n ≤ 1048576) :
    Calls Try.prog 46 #[.slice A n c, .slice A' n c'] w fun e w' => e = .returned (.bool true) ∧ Q w w' := by
  go_enter Try.func46, Try.ntmps46
  go_wp2
  go_loopw [5] (fun i wr => ∃ k : Nat, k ≤ n ∧ i = .int .i64 k ∧ Q w wr) (fun i _ => n - (intOf i).toNat)
  case atStart => exact ⟨0, Nat.zero_le _, rfl, Q.refl _⟩
  case round =>
    obtain ⟨k, hk, rfl, hq⟩ := hrel
    have h := h.q hq
    have h' := h'.q hq
    by_cases hlt : k < n
    · obtain ⟨b, o, x, rfl, hbB, hx, hc⟩ := h.at_ hlt
      obtain ⟨b', o', x', rfl, hbB', hx', hc'⟩ := h'.at_ hlt
      obtain rfl : x = x' := by rw [hx] at hx'; injection hx'
      clear hx hx'
      go_wp2
      go_quiet (fail)
      go_wp2
      go_roundw
      case rel => exact ⟨k + 1, by omega, by go_num, hq.more _⟩
      case measure => simp [intOf]; omega
    · obtain rfl : k = n := by omega
      go_wp2
      go_ret
      exact ⟨rfl, hq⟩
end Go.Proofs.Ytnfnmdeiaihgnaa
