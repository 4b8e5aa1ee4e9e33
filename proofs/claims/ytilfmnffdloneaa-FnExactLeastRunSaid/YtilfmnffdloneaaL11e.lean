/- The walk of the exact law of LeastRun, out of the contracts. -/
import Derived.Test.YtilfmnffdloneaaGaIg
import Derived.Test.YtilfmnffdloneaaMark
namespace Go.Proofs.Ytilfmnffdloneaa
open Go.RowKit
set_option linter.unusedVariables false

set_option maxRecDepth 100000 in
set_option maxHeartbeats 1000000 in
theorem w_FnExactLeastRun (a0 : Int) (A1 : Option Addr) (n1 c1 : Nat) (l1 : List Int) (w : World) (w0_ : -9223372036854775808 ≤ a0 ∧ a0 ≤ 9223372036854775807) (h1 : Rd I w w.heap.size A1 n1 l1) :
    Calls Try.prog 9 #[.int .i64 a0, .slice A1 n1 c1] w fun e w' => e = .returned (.bool true) ∧ Below w.heap.size w w' := by
  by_cases hn1 : n1 ≤ 1048576
  · go_enter Try.func9, Try.ntmps9
    go_wp2_with fail
    refine (toInt64S_any A1 n1 c1 w.heap.size l1 _ (h1.below (Below.refl _ _) (Nat.le_refl _)) (by omega) hn1).mono ?_
    rintro e w1 ⟨gS1, rfl, hS1_1, hb1⟩
    have hz1 := hb1.size
    have hB1 : Below w.heap.size w w1 := (Below.refl _ _).trans (hb1.mono (by omega))
    go_wp2_with fail
    refine (specGaLr_any a0 _ n1 n1 _ l1 _ _ _ hS1_1.rd (by omega) hn1 rfl rfl).mono ?_
    rintro e w2 ⟨rfl, hb2⟩
    have hz2 := hb2.size
    have hB2 : Below w.heap.size w w2 := (hB1).trans (hb2.mono (by omega))
    have hS1_2 := hS1_1.below hb2 (by omega)
    go_wp2_with fail
    refine (toInt64S_any A1 n1 c1 w.heap.size l1 _ (h1.below (hB2) (Nat.le_refl _)) (by omega) hn1).mono ?_
    rintro e w3 ⟨gX1, rfl, hX1_3, hb3⟩
    have hz3 := hb3.size
    have hB3 : Below w.heap.size w w3 := (hB2).trans (hb3.mono (by omega))
    go_wp2_with fail
    refine (implGaLr_any a0 _ n1 n1 _ l1 _ _ _ hX1_3.rd (by omega) hn1 (Nat.le_refl _) w0_ rfl rfl).mono ?_
    rintro e w4 ⟨rfl, hb4⟩
    have hz4 := hb4.size
    have hB4 : Below w.heap.size w w4 := (hB3).trans (hb4.mono (by omega))
    have hX1_4 := hX1_3.below hb4 (by omega)
    go_wp2_with fail
    refine (toInt64S_any A1 n1 c1 w.heap.size l1 _ (h1.below (hB4) (Nat.le_refl _)) (by omega) hn1).mono ?_
    rintro e w5 ⟨gC, rfl, hC_5, hb5⟩
    have hz5 := hb5.size
    have hB5 : Below w.heap.size w w5 := (hB4).trans (hb5.mono (by omega))
    have hX1_5 := hX1_4.below hb5 (by omega)
    go_wp2_with fail
    refine (eqInt64S_true _ _ _ _ _ _ _ _ _ hX1_5.rd hC_5.rd hn1).mono ?_
    rintro e w6 ⟨rfl, hq6⟩
    have hz6 := hq6.le
    have hB6 : Below w.heap.size w w6 := (hB5).trans (hq6.below _)
    have hX1_6 := hX1_5.q hq6
    have hC_6 := hC_5.q hq6
    go_wp2_with fail
    go_ret
    exact ⟨rfl, hB6⟩
  · have hn1_ : 1048576 < n1 := by omega
    go_enter Try.func9, Try.ntmps9
    go_wp2
    go_ret
    exact ⟨rfl, Below.refl _ _⟩
end Go.Proofs.Ytilfmnffdloneaa
