/- The walk of the exact law of PlaceOf, out of the contracts. -/
import Derived.Test.YtjpfbonnohodhaaDoorStPl2
namespace Go.Proofs.YtjpfbonnohodhaaDoor
open Go.RowKit

set_option maxRecDepth 100000 in
set_option maxHeartbeats 2000000 in
theorem w_FnExactPlaceOf (s : ByteArray) (a1 : Int) (w : World) (_hm : s.size ≤ maxLen) (_w1 : -9223372036854775808 ≤ a1 ∧ a1 ≤ 9223372036854775807) :
    Calls Tryd.prog 8 #[.string s, .int .i64 a1] w fun e w' => e = .returned (.bool true) ∧ Below w.heap.size w w' := by
  have hm := _hm
  unfold maxLen at hm
  by_cases hs : 1048576 < s.size
  · go_enter Tryd.func8, Tryd.ntmps8
    go_wp2_with fail
    go_ret
    exact ⟨rfl, Below.refl _ _⟩
  · have hsl : s.size ≤ 1048576 := by omega
    clear hs
    obtain ⟨v0, hv0⟩ : ∃ v, plR s.data.toList a1 = v := ⟨_, rfl⟩
    have HV0 := Lib.hid hv0
    clear hv0
    obtain ⟨v1, hv1⟩ : ∃ v, plC s.data.toList a1 = v := ⟨_, rfl⟩
    have HV1 := Lib.hid hv1
    clear hv1
    go_enter Tryd.func8, Tryd.ntmps8
    go_wp2_with fail
    refine (specPl_any s a1 _ hsl).mono ?_
    rintro e w1 ⟨rfl, hb1⟩
    rw [HV0.out, HV1.out]
    have hz1 := hb1.size
    go_wp2_with fail
    refine (implPl_any s a1 _ hsl).mono ?_
    rintro e w2 ⟨rfl, hb2⟩
    rw [HV0.out, HV1.out]
    have HB := Lib.hid (hb1.trans (hb2.mono hz1))
    go_wp2_with fail
    all_goals go_ret
    all_goals exact ⟨rfl, HB.out⟩
end Go.Proofs.YtjpfbonnohodhaaDoor
