/- Contracts of two helpers of the laws of chapter 6: whether the code is too long; two lists that read alike are told alike. -/
import Derived.Test.YthepfejoneeaeaaBase
namespace Go.Proofs.Ythepfejoneeaeaa
open Go.RowKit

theorem sgBig_any (A : Option Addr) (N C : Nat) (w : World) :
    Calls Try.prog 13 #[.slice A N C] w fun e w' => e = .returned (.bool (decide (4096 < N))) ∧ w = w' := by
  go_enter Try.func13, Try.ntmps13
  go_wp2
  go_ret
  exact ⟨ret_b (by simp; omega), rfl⟩

end Go.Proofs.Ythepfejoneeaeaa
