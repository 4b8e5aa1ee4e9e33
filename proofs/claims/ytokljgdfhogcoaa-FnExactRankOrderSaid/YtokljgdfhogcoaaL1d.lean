/- The walk of the exact law of RankOrder, out of the contracts. -/
import Derived.Test.YtokljgdfhogcoaaRank
namespace Go.Proofs.Ytokljgdfhogcoaa
open Go.RowKit

set_option maxRecDepth 100000 in
set_option maxHeartbeats 1000000 in
theorem w_FnExactRankOrder (A0 : Option Addr) (n0 c0 : Nat) (l0 : List Int) (w : World) (h0 : Rd I w w.heap.size A0 n0 l0) :
    Calls Try.prog 9 #[.slice A0 n0 c0] w fun e w' => e = .returned (.bool true) ∧ Below w.heap.size w w' := by
  by_cases hn0 : n0 ≤ 1048576
  · go_enter Try.func9, Try.ntmps9
    go_wp2_with fail
    refine (toInt64S_any A0 n0 c0 w.heap.size l0 _ (h0.below (Below.refl _ _) (Nat.le_refl _)) (by omega) hn0).mono ?_
    rintro e w1 ⟨gS0, rfl, hS0_1, hb1⟩
    have hz1 := hb1.size
    have hB1 : Below w.heap.size w w1 := (Below.refl _ _).trans (hb1.mono (by omega))
    go_wp2_with fail
    refine (specRankOrder_any _ n0 n0 _ l0 _ hS0_1.rd (by omega) hn0 (Nat.le_refl _)).mono ?_
    rintro e w2 ⟨rfl, hb2⟩
    have hz2 := hb2.size
    have hB2 : Below w.heap.size w w2 := (hB1).trans (hb2.mono (by omega))
    have hS0_2 := hS0_1.below hb2 (by omega)
    go_wp2_with fail
    refine (toInt64S_any A0 n0 c0 w.heap.size l0 _ (h0.below (hB2) (Nat.le_refl _)) (by omega) hn0).mono ?_
    rintro e w3 ⟨gX0, rfl, hX0_3, hb3⟩
    have hz3 := hb3.size
    have hB3 : Below w.heap.size w w3 := (hB2).trans (hb3.mono (by omega))
    go_wp2_with fail
    refine (implRankOrder_any _ n0 n0 _ l0 _ hX0_3.rd (by omega) hn0 (Nat.le_refl _)).mono ?_
    rintro e w4 ⟨rfl, hb4⟩
    have hz4 := hb4.size
    have hB4 : Below w.heap.size w w4 := (hB3).trans (hb4.mono (by omega))
    have hX0_4 := hX0_3.below hb4 (by omega)
    go_wp2_with fail
    refine (toInt64S_any A0 n0 c0 w.heap.size l0 _ (h0.below (hB4) (Nat.le_refl _)) (by omega) hn0).mono ?_
    rintro e w5 ⟨gC, rfl, hC_5, hb5⟩
    have hz5 := hb5.size
    have hB5 : Below w.heap.size w w5 := (hB4).trans (hb5.mono (by omega))
    have hX0_5 := hX0_4.below hb5 (by omega)
    go_wp2_with fail
    refine (eqInt64S_true _ _ _ _ _ _ _ _ _ hX0_5.rd hC_5.rd hn0).mono ?_
    rintro e w6 ⟨rfl, hq6⟩
    have hz6 := hq6.le
    have hB6 : Below w.heap.size w w6 := (hB5).trans (hq6.below _)
    have hX0_6 := hX0_5.q hq6
    have hC_6 := hC_5.q hq6
    go_wp2_with fail
    go_ret
    exact ⟨rfl, hB6⟩
  · have hn0_ : 1048576 < n0 := by omega
    go_enter Try.func9, Try.ntmps9
    go_wp2
    go_ret
    exact ⟨rfl, Below.refl _ _⟩
end Go.Proofs.Ytokljgdfhogcoaa
