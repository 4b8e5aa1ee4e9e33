/- The walk of the exact law of FindFolds, out of the contracts. -/
import Derived.Test.YtjpfbonnohodhaaDoorStFf2
namespace Go.Proofs.YtjpfbonnohodhaaDoor
open Go.RowKit

set_option maxRecDepth 100000 in
set_option maxHeartbeats 2000000 in
theorem w_FnExactFindFolds (A0 : Option Addr) (n0 c0 : Nat) (l0 : List Int) (w : World) (h0 : Rd I w w.heap.size A0 n0 l0) (hlb : ∀ x ∈ l0, -9223372036854775808 ≤ x ∧ x ≤ 9223372036854775807) :
    Calls Tryd.prog 7 #[.slice A0 n0 c0] w fun e w' => e = .returned (.bool true) ∧ Below w.heap.size w w' := by
  have HLB := Lib.hid hlb
  clear hlb
  by_cases hn0 : n0 ≤ 1048576
  · obtain ⟨v0, hv0⟩ : ∃ v, ffR l0 = v := ⟨_, rfl⟩
    obtain ⟨v1, hv1⟩ : ∃ v, ffC l0 = v := ⟨_, rfl⟩
    have HV0 := Lib.hid hv0
    have HV1 := Lib.hid hv1
    clear hv0 hv1
    go_enter Tryd.func7, Tryd.ntmps7
    go_wp2_with fail
    refine (toInt64S_any A0 n0 c0 w.heap.size l0 _ (h0.below (Below.refl _ _) (Nat.le_refl _)) (by omega) hn0).mono ?_
    rintro e w1 ⟨gS0, rfl, hS0_1, hb1⟩
    have hz1 := hb1.size
    have hB1 : Below w.heap.size w w1 := (Below.refl _ _).trans (hb1.mono (by omega))
    go_wp2_with fail
    refine (specFf_any _ n0 n0 _ l0 _ hS0_1.rd (by omega) hn0).mono ?_
    rintro e w2 ⟨rfl, hb2⟩
    rw [HV0.out, HV1.out]
    have hz2 := hb2.size
    have hB2 : Below w.heap.size w w2 := (hB1).trans (hb2.mono (by omega))
    go_wp2_with fail
    refine (toInt64S_any A0 n0 c0 w.heap.size l0 _ (h0.below (hB2) (Nat.le_refl _)) (by omega) hn0).mono ?_
    rintro e w3 ⟨gX0, rfl, hX0_3, hb3⟩
    have hz3 := hb3.size
    have hB3 : Below w.heap.size w w3 := (hB2).trans (hb3.mono (by omega))
    go_wp2_with fail
    refine (implFf_any _ n0 n0 _ l0 _ hX0_3.rd (by omega) hn0 HLB.out).mono ?_
    rintro e w4 ⟨rfl, hb4⟩
    rw [HV0.out, HV1.out]
    have hz4 := hb4.size
    have hB4 : Below w.heap.size w w4 := (hB3).trans (hb4.mono (by omega))
    have hX0_4 := hX0_3.below hb4 (by omega)
    go_wp2_with fail
    all_goals
      refine (toInt64S_any A0 n0 c0 w.heap.size l0 _ (h0.below (hB4) (Nat.le_refl _)) (by omega) hn0).mono ?_
      rintro e w6 ⟨gC, rfl, hC_6, hb6⟩
      have hz6 := hb6.size
      have hB6 : Below w.heap.size w w6 := (hB4).trans (hb6.mono (by omega))
      have hX0_6 := hX0_4.below hb6 (by omega)
      go_wp2_with fail
      refine (eqInt64S_true _ _ _ _ _ _ _ _ _ hX0_6.rd hC_6.rd hn0).mono ?_
      rintro e w7 ⟨rfl, hq7⟩
      have hB7 := Lib.hid (hB6.trans (hq7.below _))
      go_wp2_with fail
      go_ret
      exact ⟨rfl, hB7.out⟩
  · have hgt : 1048576 < n0 := by omega
    clear hn0
    go_enter Tryd.func7, Tryd.ntmps7
    go_wp2_with fail
    go_ret
    exact ⟨rfl, Below.refl _ _⟩
end Go.Proofs.YtjpfbonnohodhaaDoor
