/- The walk of the exact law of ReadRoman, out of the contracts. -/
import Derived.Test.YtoanopgafihjiaaDoorRoRead
import Derived.Test.YtoanopgafihjiaaDoorRoLaid
namespace Go.Proofs.YtoanopgafihjiaaDoor
open Go.RowKit Ro

set_option maxHeartbeats 1000000 in
theorem w_FnExactReadRoman (s : ByteArray) (w : World) (_hs : s.size ≤ maxLen) (hsg : Sg w) :
    Calls Tryd.prog 8 #[.string s] w fun e w' => e = .returned (.bool true) ∧ Below w.heap.size w w' := by
  have HSG := Lib.hid hsg
  clear hsg
  have hm := _hs
  unfold maxLen at hm
  by_cases hs : s.size ≤ 1048576
  · obtain ⟨n, hn⟩ : ∃ n, rrN s.data.toList = n := ⟨_, rfl⟩
    obtain ⟨b, hb⟩ : ∃ b, rrOk s.data.toList = b := ⟨_, rfl⟩
    have HN := Lib.hid hn
    have HB := Lib.hid hb
    clear hn hb
    go_enter Tryd.func8, Tryd.ntmps8
    go_wp2_with fail
    refine (specRead_any s _).mono ?_
    rintro e _ ⟨rfl, rfl⟩
    rw [HN.out, HB.out]
    go_wp2_with fail
    refine (implRead_any s _ HSG.out hs).mono ?_
    rintro e w2 ⟨rfl, hb2⟩
    rw [HN.out, HB.out]
    go_wp2_with fail
    all_goals go_ret
    all_goals exact ⟨rfl, hb2⟩
  · have hs' : 1048576 < s.size := by omega
    go_enter Tryd.func8, Tryd.ntmps8
    go_wp2_with fail
    go_ret
    exact ⟨rfl, Below.refl _ _⟩
end Go.Proofs.YtoanopgafihjiaaDoor
