/- Contracts of the draws of the laws of chapter 4. -/
import Derived.Test.YtgplciodddfpbaaFoDw
namespace Go.Proofs.Ytgplciodddfpbaa
open Go.RowKit

theorem big_any (A : Option Addr) (N C : Nat) (w : World) :
    Calls Try.prog 9 #[.slice A N C] w fun e w' => e = .returned (.bool (decide (4096 < N))) ∧ w = w' := by
  go_enter Try.func9, Try.ntmps9
  go_wp2
  go_ret
  exact ⟨ret_b (by simp; omega), rfl⟩

def DrT (w : World) (e : Ending) (w' : World) : Prop := ∃ (a b : Int) (t : ByteArray), e = .returned (.tuple #[.int .i64 a, .int .i64 b, .string t]) ∧ -1 ≤ a ∧ a ≤ 16 ∧ -1 ≤ b ∧ b ≤ 16 ∧ t.size ≤ 7 ∧ Below w.heap.size w w'
/-- The draw of two sides. -/
def DrP (w : World) (e : Ending) (w' : World) : Prop := ∃ (a b : Int), e = .returned (.tuple #[.int .i64 a, .int .i64 b]) ∧ -1 ≤ a ∧ a ≤ 16 ∧ -1 ≤ b ∧ b ≤ 16 ∧ Below w.heap.size w w'
end Go.Proofs.Ytgplciodddfpbaa
