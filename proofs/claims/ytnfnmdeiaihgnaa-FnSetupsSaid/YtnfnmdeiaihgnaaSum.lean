/- Contracts of the helpers of the laws: a bound on the code, two lists that are alike, the sum of a list. -/
import Derived.Test.YtnfnmdeiaihgnaaSrc
namespace Go.Proofs.Ytnfnmdeiaihgnaa
open Go.RowKit

theorem big_any (A : Option Addr) (N C : Nat) (w : World) :
    Calls Try.prog 12 #[.slice A N C] w fun e w' => e = .returned (.bool (decide (4096 < N))) ∧ w = w' := by
  go_enter Try.func12, Try.ntmps12
  go_wp2
  go_ret
  exact ⟨ret_b (by simp; omega), rfl⟩

set_option maxHeartbeats 400000 in
/-- likeInts of two slices that read as one list: true. -/
theorem likeInts_true (A A' : Option Addr) (n c c' B B' : Nat) (l : List Int) (w : World) (h : Rd I w B A n l) (h' : Rd I w B' A' n l) (hn : n ≤ 1048576) :
    Calls Try.prog 34 #[.slice A n c, .slice A' n c'] w fun e w' => e = .returned (.bool true) ∧ Q w w' := by
  go_enter Try.func34, Try.ntmps34
  go_wp2
  go_loopw [5] (fun i wr => ∃ k : Nat, k ≤ n ∧ i = .int .i64 k ∧ Q w wr) (fun i _ => n - (intOf i).toNat)
  case atStart => exact ⟨0, Nat.zero_le _, rfl, Q.refl _⟩
  case round =>
    obtain ⟨k, hk, rfl, hq⟩ := hrel
    have h := h.q hq
    have h' := h'.q hq
    by_cases hlt : k < n
    · obtain ⟨b, o, x, rfl, hbB, hx, hc⟩ := h.at_ hlt
      obtain ⟨b', o', x', rfl, hbB', hx', hc'⟩ := h'.at_ hlt
      obtain rfl : x = x' := by rw [hx] at hx'; injection hx'
      clear hx hx'
      go_wp2
      go_quiet (fail)
      go_wp2
      go_roundw
      case rel => exact ⟨k + 1, by omega, by go_num, hq.more _⟩
      case measure => simp [intOf]; omega
    · obtain rfl : k = n := by omega
      go_wp2
      go_ret
      exact ⟨rfl, hq⟩

def sumOf : List Int → Int
  | [] => 0
  | x :: r => x + sumOf r
theorem sumOf_app (a b : List Int) : sumOf (a ++ b) = sumOf a + sumOf b := by
  induction a with
  | nil => simp [sumOf]
  | cons x r ih => simp [sumOf, ih]; omega
theorem sumOf_bd (l : List Int) (h : ∀ x ∈ l, -1099511627776 ≤ x ∧ x ≤ 1099511627776) : -1099511627776 * (l.length : Int) ≤ sumOf l ∧ sumOf l ≤ 1099511627776 * (l.length : Int) := by
  induction l with
  | nil => simp [sumOf]
  | cons x r ih =>
    have h1 := h x (by simp)
    have h2 := ih fun y hy => h y (by simp [hy])
    simp only [sumOf, List.length_cons]
    omega

theorem sumOf_sum (l : List Int) : sumOf l = l.sum := by
  induction l with
  | nil => rfl
  | cons a l ih => simp [sumOf, ih]
end Go.Proofs.Ytnfnmdeiaihgnaa
