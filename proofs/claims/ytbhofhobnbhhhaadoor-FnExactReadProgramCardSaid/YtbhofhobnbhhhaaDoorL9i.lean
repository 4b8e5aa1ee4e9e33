/- The walk of the exact law of ReadProgram, out of the contracts. -/
import Derived.Test.YtbhofhobnbhhhaaDoorRpPr
import Derived.Test.YtbhofhobnbhhhaaDoorRpSp
import Derived.Test.YtbhofhobnbhhhaaDoorCtLw
namespace Go.Proofs.YtbhofhobnbhhhaaDoor
open Go.RowKit
set_option linter.unusedVariables false

set_option maxRecDepth 100000 in
set_option maxHeartbeats 8000000 in
theorem w_FnExactReadProgram (s : ByteArray) (w : World) (h : Lb w) :
    Calls Tryd.prog 10 #[.string s] w fun e w' => e = .returned (.bool true) ∧ Below w.heap.size w w' := by
  by_cases hs : s.size ≤ 1048576
  · have HL := Lib.hid h
    clear h
    go_enter Tryd.func10, Tryd.ntmps10
    go_wp2_with fail
    refine (specRp_any s _ hs).mono ?_
    rintro e w1 ⟨A1, n1, c1, R, b, rfl, o1, h1, hb1⟩
    have HL1 := Lib.hid (HL.out.below hb1)
    have z1 := hb1.size
    go_wp2_with fail
    refine (implRp_any s _ HL1.out hs).mono ?_
    rintro e w2 ⟨A2, n2, c2, R2, b2, rfl, o2, h2, hb2⟩
    obtain ⟨rfl, rfl⟩ := h1.same h2
    have hl1 : R.length = n1 := o1.rd.1
    have hl2 : R.length = n2 := o2.rd.1
    have hlen := h1.len
    rw [hl1] at hl2 hlen
    subst hl2
    have HL2 := Lib.hid (HL1.out.below hb2)
    have z2 := hb2.size
    have o1b := o1.below hb2 (Nat.le_refl _)
    have hbb2 := hb1.trans (hb2.mono z1)
    have H1 := Lib.hid h1
    clear h1 h2 hb1 hb2 o1 hl1
    go_wp2_with fail
    refine (eqCutS_true A2 A1 n1 c2 c1 _ _ R _ o2.rd o1b.rd (Nat.le_refl _) (by omega) (by omega)).mono ?_
    rintro e w3 ⟨rfl, hb3⟩
    have z3 := hb3.size
    have o2b := o2.below hb3 (Nat.le_refl _)
    have o1c := o1b.below hb3 (by omega)
    have HL3 := Lib.hid (HL2.out.below hb3)
    have hbb3 := hbb2.trans (hb3.mono (by omega))
    clear hb3 o2 o1b
    cases b <;> (
      go_wp2_with fail
      refine (markCutS_any A2 n1 c2 w1.heap.size w2.heap.size 1 R _ o2b (by omega) (by omega) (by omega)).mono ?_
      rintro e w4 ⟨rfl, o4, hm4⟩
      have z4 := hm4.size
      have o1d := o1c.only hm4 (.inl (Nat.le_refl _))
      have hb4 : Below w1.heap.size w3 w4 := hm4.below (Nat.le_refl _) (by omega)
      have hbb4 := hbb3.trans (hb4.mono (by omega))
      have HL4 := Lib.hid (HL.out.below hbb4)
      clear o2b o1c hb4 hm4
      go_wp2_with fail
      refine (heldCutS_any A2 n1 c2 w2.heap.size 1 _ o4.rd (by omega) (by omega) (by omega)).mono ?_
      rintro e _ ⟨rfl, rfl⟩
      go_wp2_with fail
      refine (implRp_any s _ HL4.out hs).mono ?_
      rintro e w5 ⟨A5, n5, c5, R5, b5, rfl, o5, h5, hb5⟩
      obtain ⟨rfl, rfl⟩ := H1.out.same h5
      have hl5 : R.length = n5 := o5.rd.1
      rw [o1d.rd.1] at hl5
      subst hl5
      have z5 := hb5.size
      have o1e := o1d.below hb5 (by omega)
      have o4b := o4.below hb5 (by omega)
      have hbb5 := hbb4.trans (hb5.mono (by omega))
      clear h5 hb5 o1d o4
      go_wp2_with fail
      refine (eqCutS_true A5 A1 n1 c5 c1 _ _ R _ o5.rd o1e.rd (Nat.le_refl _) (by omega) (by omega)).mono ?_
      rintro e w6 ⟨rfl, hb6⟩
      have z6 := hb6.size
      have o4c := o4b.below hb6 (by omega)
      have hbb6 := hbb5.trans (hb6.mono (by omega))
      clear hb6 o5 o1e o4b
      go_wp2_with fail
      refine (heldCutS_any A2 n1 c2 w2.heap.size 1 _ o4c.rd (by omega) (by omega) (by omega)).mono ?_
      rintro e _ ⟨rfl, rfl⟩
      go_wp2_with fail
      go_ret
      exact ⟨rfl, hbb6⟩)
  · have hs' : 1048576 < s.size := by omega
    clear hs h
    go_enter Tryd.func10, Tryd.ntmps10
    go_wp2_with fail
    all_goals go_ret
    all_goals exact ⟨rfl, Below.refl _ _⟩
end Go.Proofs.YtbhofhobnbhhhaaDoor
