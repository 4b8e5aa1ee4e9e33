/- Contracts of two helpers of the laws of chapter 6: whether the code is too long; two lists that read alike are told alike. -/
import Derived.Test.YtamnhbambklmkaaBase
namespace Go.Proofs.Ytamnhbambklmkaa
open Go.RowKit

theorem sgBig_any (A : Option Addr) (N C : Nat) (w : World) :
    Calls Try.prog 19 #[.slice A N C] w fun e w' => e = .returned (.bool (decide (4096 < N))) ∧ w = w' := by
  go_enter Try.func19, Try.ntmps19
  go_wp2
  go_ret
  exact ⟨ret_b (by simp; omega), rfl⟩

set_option maxHeartbeats 400000 in
/-- likeInts of two slices that read as one list: true. -/
theorem sgLike_true (A A' : Option Addr) (n n' c c' B B' : Nat) (l : List Int) (w : World) (h : Rd I w B A n l) (h' : Rd I w B' A' n' l) (hn : n ≤ 1048576) :
    Calls Try.prog 28 #[.slice A n c, .slice A' n' c'] w fun e w' => e = .returned (.bool true) ∧ Q w w' := by
  obtain rfl : n = n' := h.1.symm.trans h'.1
  go_enter Try.func28, Try.ntmps28
  go_wp2
  go_loopw [5] (fun i wr => ∃ k : Nat, k ≤ n ∧ i = .int .i64 k ∧ Q w wr) (fun i _ => n - (intOf i).toNat)
  case atStart => exact ⟨0, Nat.zero_le _, rfl, Q.refl _⟩
  case round =>
    obtain ⟨k, hk, rfl, hq⟩ := hrel
    have h := h.q hq
    have h' := h'.q hq
    by_cases hlt : k < n
    · obtain ⟨b, o, x, rfl, hbB, hx, hc⟩ := h.at_ hlt
      obtain ⟨b', o', x', rfl, hbB', hx', hc'⟩ := h'.at_ hlt
      obtain rfl : x = x' := by rw [hx] at hx'; injection hx'
      clear hx hx'
      go_wp2
      go_quiet (fail)
      go_wp2
      go_roundw
      case rel => exact ⟨k + 1, by omega, by go_num, hq.more _⟩
      case measure => simp [intOf]; omega
    · obtain rfl : k = n := by omega
      go_wp2
      go_ret
      exact ⟨rfl, hq⟩
end Go.Proofs.Ytamnhbambklmkaa
