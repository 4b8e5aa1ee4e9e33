/- The walk of the exact law of IsOrder, out of the contracts. -/
import Derived.Test.YtokljgdfhogcoaaOrd
namespace Go.Proofs.Ytokljgdfhogcoaa
open Go.RowKit

set_option maxHeartbeats 400000 in
theorem w_FnExactIsOrder (A : Option Addr) (n c : Nat) (l : List Int) (w : World) (h : Rd I w w.heap.size A n l) :
    Calls Try.prog 6 #[.slice A n c] w fun e w' => e = .returned (.bool true) ∧ Below w.heap.size w w' := by
  by_cases hn : n ≤ 1048576
  · go_enter Try.func6, Try.ntmps6
    go_wp2_with fail
    refine (toInt64S_any A n c w.heap.size l _ h (Nat.le_refl _) hn).mono ?_
    rintro e w1 ⟨g1, rfl, ho1, hb1⟩
    have hz1 := hb1.size
    go_wp2_with fail
    refine (specIsOrder_any _ n n _ l _ ho1.rd hn (Nat.le_refl _)).mono ?_
    rintro e w2 ⟨rfl, hq2⟩
    have hz2 := hq2.le
    have hb2 := hb1.trans (hq2.below _)
    go_wp2_with fail
    refine (toInt64S_any A n c w.heap.size l _ (h.below hb2 (Nat.le_refl _)) (by omega) hn).mono ?_
    rintro e w3 ⟨g3, rfl, ho3, hb3⟩
    have hz3 := hb3.size
    have hb3' := hb2.trans (hb3.mono (by omega))
    go_wp2_with fail
    refine (IsOrder_any _ n n _ l _ ho3.rd (Nat.le_refl _) hn).mono ?_
    rintro e w4 ⟨rfl, hb4⟩
    have hz4 := hb4.size
    have hb4' := hb3'.trans (hb4.mono (by omega))
    have ho4 := ho3.below hb4 (Nat.le_refl _)
    go_wp2_with fail
    refine (toInt64S_any A n c w.heap.size l _ (h.below hb4' (Nat.le_refl _)) (by omega) hn).mono ?_
    rintro e w5 ⟨g5, rfl, ho5, hb5⟩
    have hz5 := hb5.size
    have hb5' := hb4'.trans (hb5.mono (by omega))
    go_wp2_with fail
    refine (eqInt64S_true _ _ n n n _ _ l _ (ho4.below hb5 hz4).rd ho5.rd hn).mono ?_
    rintro e w6 ⟨rfl, hq6⟩
    go_wp2_with fail
    go_ret
    exact ⟨rfl, hb5'.trans (hq6.below _)⟩
  · have hn' : 1048576 < n := by omega
    go_enter Try.func6, Try.ntmps6
    go_wp2
    go_ret
    exact ⟨rfl, Below.refl _ _⟩
end Go.Proofs.Ytokljgdfhogcoaa
