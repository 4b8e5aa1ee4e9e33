/- Contracts of the helpers of the exact laws: marks are written into a list and read back. -/
import Derived.Test.YtnfnmdeiaihgnaaBase
namespace Go.Proofs.Ytnfnmdeiaihgnaa
open Go.RowKit

/-- The list of marks k, k+1, .. -/
def marks : Nat → Int → List Int
  | 0, _ => []
  | n + 1, k => k :: marks n (k + 1)
theorem marks_len (n : Nat) (k : Int) : (marks n k).length = n := by
  induction n generalizing k with
  | zero => rfl
  | succ n ih => simp [marks, ih]
theorem marks_at (n : Nat) (k : Int) (j : Nat) (h : j < n) : (marks n k)[j]? = some (k + j) := by
  induction n generalizing k j with
  | zero => omega
  | succ n ih =>
    cases j with
    | zero => simp [marks]
    | succ j =>
      simp only [marks, List.getElem?_cons_succ]
      rw [ih (k + 1) j (by omega)]
      congr 1
      omega

set_option maxHeartbeats 400000 in
/-- markInt64S writes marks into a list of the call's own. -/
theorem markInt64S_any (A : Option Addr) (n c lo hi : Nat) (q : Int) (l : List Int) (w : World) (h : Own I w lo hi 2 (.slice A n c) l) (hn : n ≤ 1048576) (h0 : 0 ≤ q) (h1 : q ≤ 1073741824) :
    Calls Try.prog 48 #[.slice A n c, .int .i64 q] w fun e w' => e = .returned (.int .i64 (q + n)) ∧ Own I w' lo hi 2 (.slice A n c) (marks n q) ∧ Only lo hi w w' := by
  have HL : Hid (l.length = n) := h.rd.1
  go_enter Try.func48, Try.ntmps48
  go_wp2
  go_loopw [1, 5] (fun q' i wr => ∃ k : Nat, k ≤ n ∧ i = .int .i64 k ∧ q' = .int .i64 (q + k) ∧ Own I wr lo hi 2 (.slice A n c) ((marks n q).take k ++ l.drop k) ∧ Only lo hi w wr) (fun _ i _ => n - (intOf i).toNat)
  case atStart => exact ⟨0, Nat.zero_le _, rfl, by simp, by simpa using h, Only.refl _ _ _⟩
  case round =>
    obtain ⟨k, hk, rfl, rfl, ho, hb⟩ := hrel
    by_cases hlt : k < n
    · obtain ⟨g, y, rfl, hg1, hg2, hg3, hy, hc2, hf2⟩ := ho.at_ hlt
      have hset := ho.set_ (k := k) (q + k)
      clear hy
      go_wp2
      go_roundw
      case rel =>
        refine ⟨k + 1, by omega, by go_num, by go_num, ?_, hb.trans hset.2⟩
        have := hset.1
        rwa [mark_step (marks n q) l k n (q + k) (marks_len n q) HL.out (marks_at n q k hlt) hlt] at this
      case measure => simp [intOf]; omega
    · obtain rfl : k = n := by omega
      go_wp2
      go_ret
      refine ⟨rfl, ?_, hb⟩
      have hle := HL.out
      have hm := marks_len k q
      simpa [List.take_of_length_le (Nat.le_of_eq hm), List.drop_of_length_le (Nat.le_of_eq hle)] using ho

set_option maxHeartbeats 400000 in
/-- heldInt64S reads the marks back. -/
theorem heldInt64S_any (A : Option Addr) (n c B : Nat) (q : Int) (w : World) (h : Rd I w B A n (marks n q)) (hn : n ≤ 1048576) (h0 : 0 ≤ q) (h1 : q ≤ 1073741824) :
    Calls Try.prog 49 #[.slice A n c, .int .i64 q] w fun e w' => e = .returned (.int .i64 (q + n)) ∧ w = w' := by
  go_enter Try.func49, Try.ntmps49
  go_wp2
  go_loop [1, 5] (fun q' i => ∃ k : Nat, k ≤ n ∧ i = .int .i64 k ∧ q' = .int .i64 (q + k)) (fun _ i => n - (intOf i).toNat)
  case atStart => exact ⟨0, Nat.zero_le _, rfl, by simp⟩
  case round =>
    obtain ⟨k, hk, rfl, rfl⟩ := hrel
    by_cases hlt : k < n
    · obtain ⟨b, o, x, rfl, hbB, hx, hc⟩ := h.at_ hlt
      obtain rfl : q + k = x := by rw [marks_at n q k hlt] at hx; injection hx
      clear hx
      go_wp2
      go_round
      case rel => exact ⟨k + 1, by omega, by go_num, by go_num⟩
      case measure => simp [intOf]; omega
    · obtain rfl : k = n := by omega
      go_wp2
      go_ret
      exact ⟨rfl, rfl⟩
end Go.Proofs.Ytnfnmdeiaihgnaa
