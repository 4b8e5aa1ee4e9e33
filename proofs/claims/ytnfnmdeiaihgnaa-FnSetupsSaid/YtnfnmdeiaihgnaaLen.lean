/- The contract of the program's test of a length. -/
import Derived.Test.YtnfnmdeiaihgnaaWords
import Derived.Test.YtnfnmdeiaihgnaaProg
import Derived.KernelRfl
namespace Go.Proofs.Ytnfnmdeiaihgnaa
open Go.RowKit

theorem isLen_yes (n : Int) (w : World) (h0 : 0 ≤ n) (h1 : n ≤ 1000000000) :
    Calls Try.prog 98 #[.int .i64 n] w fun e w' => e = .returned (.bool true) ∧ w = w' := by
  go_enter Try.func98, Try.ntmps98
  go_wp2
  go_ret
  exact ⟨rfl, rfl⟩
theorem isLen_no (n : Int) (w : World) (h : n < 0 ∨ 1000000000 < n) :
    Calls Try.prog 98 #[.int .i64 n] w fun e w' => e = .returned (.bool false) ∧ w = w' := by
  by_cases h1 : n < 0
  · clear h
    go_enter Try.func98, Try.ntmps98
    go_wp2
    go_ret
    exact ⟨rfl, rfl⟩
  · have h2 : 1000000000 < n := by omega
    have h3 : 0 ≤ n := by omega
    clear h
    go_enter Try.func98, Try.ntmps98
    go_wp2
    go_ret
    exact ⟨ret_b (by simp; omega), rfl⟩
end Go.Proofs.Ytnfnmdeiaihgnaa
