/- The law of ReadLength. -/
import Derived.Test.YtamnhbambklmkaaDoorReadImpl
namespace Go.Proofs.YtamnhbambklmkaaDoor
open Go.RowKit

set_option maxHeartbeats 1000000 in
theorem w_ReadLength (s : ByteArray) (w : World) (h : Lb w) :
    Calls Tryd.prog 5 #[.string s] w fun e w' => e = .returned (.bool true) ∧ Below w.heap.size w w' := by
  by_cases hs : s.size ≤ 1048576
  · have HL := Lib.hid h
    clear h
    go_enter Tryd.func5, Tryd.ntmps5
    go_wp2_with fail
    refine (specRead_any s _ hs).mono ?_
    rintro e w1 ⟨x, a, rfl, h1, hb1⟩
    have HL1 := Lib.hid (HL.out.below hb1)
    go_wp2_with fail
    refine (implRead_any s _ HL1.out hs).mono ?_
    rintro e w2 ⟨y, b, rfl, h2, hb2⟩
    obtain ⟨rfl, rfl⟩ := h1.same h2
    have hbb := hb1.trans (hb2.mono hb1.size)
    clear h1 h2 hb1 hb2
    go_wp2_with fail
    all_goals go_ret
    all_goals exact ⟨rfl, hbb⟩
  · have hs' : 1048576 < s.size := by omega
    clear hs h
    go_enter Tryd.func5, Tryd.ntmps5
    go_wp2_with fail
    all_goals go_ret
    all_goals exact ⟨rfl, Below.refl _ _⟩
end Go.Proofs.YtamnhbambklmkaaDoor
