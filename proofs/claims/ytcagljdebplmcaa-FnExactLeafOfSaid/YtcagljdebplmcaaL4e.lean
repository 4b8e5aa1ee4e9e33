/- The walk of the exact law of LeafOf, out of the contracts. -/
import Derived.Test.YtcagljdebplmcaaFoLo
namespace Go.Proofs.Ytcagljdebplmcaa
open Go.RowKit

set_option maxRecDepth 100000 in
set_option maxHeartbeats 2000000 in
theorem w_FnExactLeafOf (a0 a1 : Int) (s : ByteArray) (a3 : Int) (a4 : Int) (w : World) (_w0 : -9223372036854775808 ≤ a0 ∧ a0 ≤ 9223372036854775807) (_w1 : -9223372036854775808 ≤ a1 ∧ a1 ≤ 9223372036854775807) (_hm : s.size ≤ maxLen) (_w3 : -9223372036854775808 ≤ a3 ∧ a3 ≤ 9223372036854775807) (_w4 : -9223372036854775808 ≤ a4 ∧ a4 ≤ 9223372036854775807) :
    Calls Try.prog 10 #[.int .i64 a0, .int .i64 a1, .string s, .int .i64 a3, .int .i64 a4] w fun e w' => e = .returned (.bool true) ∧ Below w.heap.size w w' := by
  have hm := _hm
  unfold maxLen at hm
  by_cases hs : 1048576 < s.size
  · go_enter Try.func10, Try.ntmps10
    go_wp2_with fail
    go_ret
    exact ⟨rfl, Below.refl _ _⟩
  · have hs6 : s.size ≤ 1048576 := by omega
    have hsl : s.size ≤ 1048577 := by omega
    clear hs
    obtain ⟨v0, hv0⟩ : ∃ v, loR a0 a1 s.data.toList a3 a4 = v := ⟨_, rfl⟩
    have HV0 := Lib.hid hv0
    clear hv0
    obtain ⟨v1, hv1⟩ : ∃ v, loC a0 a1 s.data.toList a3 a4 = v := ⟨_, rfl⟩
    have HV1 := Lib.hid hv1
    clear hv1
    go_enter Try.func10, Try.ntmps10
    go_wp2_with fail
    refine (specLo_any a0 a1 a3 a4 s _ hsl _w3 _w4).mono ?_
    rintro e w1 ⟨rfl, hb1⟩
    rw [HV0.out, HV1.out]
    go_wp2_with fail
    refine (implLo_any a0 a1 a3 a4 s _ hsl _w3 _w4).mono ?_
    rintro e w2 ⟨rfl, hb2⟩
    rw [HV0.out, HV1.out]
    have HB := Lib.hid (hb1.trans (hb2.mono hb1.size))
    go_wp2_with fail
    all_goals go_ret
    all_goals exact ⟨rfl, HB.out⟩
end Go.Proofs.Ytcagljdebplmcaa
