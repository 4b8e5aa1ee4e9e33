/- The walk of the exact law of RomanText, out of the contracts. -/
import Derived.Test.YtoanopgafihjiaaDoorRoImpl
import Derived.Test.YtoanopgafihjiaaDoorRoLaid
namespace Go.Proofs.YtoanopgafihjiaaDoor
open Go.RowKit Ro

set_option maxHeartbeats 1000000 in
theorem w_FnExactRomanText (n : Int) (w : World) (_hn : -9223372036854775808 ≤ n ∧ n ≤ 9223372036854775807) (hsg : Sg w) :
    Calls Tryd.prog 7 #[.int .i64 n] w fun e w' => e = .returned (.bool true) ∧ Below w.heap.size w w' := by
  obtain ⟨s, hs⟩ : ∃ s, St (romI n) = s := ⟨_, rfl⟩
  have HS := Lib.hid hs
  have HSG := Lib.hid hsg
  clear hs hsg
  go_enter Tryd.func7, Tryd.ntmps7
  go_wp2_with fail
  refine (specRoman_any n _).mono ?_
  rintro e _ ⟨rfl, rfl⟩
  rw [HS.out]
  go_wp2_with fail
  refine (implRoman_any n _ HSG.out).mono ?_
  rintro e w2 ⟨rfl, hb2⟩
  rw [HS.out]
  go_wp2_with fail
  all_goals go_ret
  all_goals exact ⟨rfl, hb2⟩
end Go.Proofs.YtoanopgafihjiaaDoor
