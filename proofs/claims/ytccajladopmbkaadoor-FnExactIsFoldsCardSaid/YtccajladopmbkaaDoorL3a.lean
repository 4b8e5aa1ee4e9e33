/- The walk of the exact law of IsFolds, out of the contracts. -/
import Derived.Test.YtccajladopmbkaaDoorStIs
namespace Go.Proofs.YtccajladopmbkaaDoor
open Go.RowKit

set_option maxRecDepth 100000 in
set_option maxHeartbeats 1000000 in
theorem w_FnExactIsFolds (s : ByteArray) (w : World) (_hm : s.size ≤ maxLen) :
    Calls Tryd.prog 5 #[.string s] w fun e w' => e = .returned (.bool true) ∧ Below w.heap.size w w' := by
  have hm := _hm
  unfold maxLen at hm
  by_cases hs : 1048576 < s.size
  · go_enter Tryd.func5, Tryd.ntmps5
    go_wp2_with fail
    go_ret
    exact ⟨rfl, Below.refl _ _⟩
  · have hsl : s.size ≤ 1048576 := by omega
    clear hs
    obtain ⟨b, hb⟩ : ∃ b, St.foldsB s.data.toList = b := ⟨_, rfl⟩
    have HB := Lib.hid hb
    clear hb
    go_enter Tryd.func5, Tryd.ntmps5
    go_wp2_with fail
    refine (specIsFolds_any s _ hsl).mono ?_
    rintro e _ ⟨rfl, rfl⟩
    rw [HB.out]
    go_wp2_with fail
    refine (implIsFolds_any s _ hsl).mono ?_
    rintro e w2 ⟨rfl, hb2⟩
    rw [HB.out]
    go_wp2_with fail
    all_goals go_ret
    all_goals exact ⟨rfl, hb2⟩
end Go.Proofs.YtccajladopmbkaaDoor
