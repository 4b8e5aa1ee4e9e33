/- The walk of the exact law of CountFaces, out of the contracts. -/
import Derived.Test.YtjpfbonnohodhaaDoorStCf
namespace Go.Proofs.YtjpfbonnohodhaaDoor
open Go.RowKit

set_option maxRecDepth 100000 in
set_option maxHeartbeats 2000000 in
theorem w_FnExactCountFaces (s : ByteArray) (w : World) (_hm : s.size ≤ maxLen) :
    Calls Tryd.prog 9 #[.string s] w fun e w' => e = .returned (.bool true) ∧ Below w.heap.size w w' := by
  have hm := _hm
  unfold maxLen at hm
  by_cases hs : 1048576 < s.size
  · go_enter Tryd.func9, Tryd.ntmps9
    go_wp2_with fail
    go_ret
    exact ⟨rfl, Below.refl _ _⟩
  · have hsl : s.size ≤ 1048576 := by omega
    clear hs
    obtain ⟨v0, hv0⟩ : ∃ v, cfU s.data.toList = v := ⟨_, rfl⟩
    have HV0 := Lib.hid hv0
    clear hv0
    obtain ⟨v1, hv1⟩ : ∃ v, cfD s.data.toList = v := ⟨_, rfl⟩
    have HV1 := Lib.hid hv1
    clear hv1
    obtain ⟨v2, hv2⟩ : ∃ v, fsC s.data.toList = v := ⟨_, rfl⟩
    have HV2 := Lib.hid hv2
    clear hv2
    go_enter Tryd.func9, Tryd.ntmps9
    go_wp2_with fail
    refine (specCf_any s _ hsl).mono ?_
    rintro e w1 ⟨rfl, hb1⟩
    rw [HV0.out, HV1.out, HV2.out]
    have hz1 := hb1.size
    go_wp2_with fail
    refine (implCf_any s _ hsl).mono ?_
    rintro e w2 ⟨rfl, hb2⟩
    rw [HV0.out, HV1.out, HV2.out]
    have HB := Lib.hid (hb1.trans (hb2.mono hz1))
    go_wp2_with fail
    all_goals go_ret
    all_goals exact ⟨rfl, HB.out⟩
end Go.Proofs.YtjpfbonnohodhaaDoor
