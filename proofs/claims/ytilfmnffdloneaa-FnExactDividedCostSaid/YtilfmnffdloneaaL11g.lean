/- The walk of the exact law of DividedCost, out of the contracts. -/
import Derived.Test.YtilfmnffdloneaaGaIg
import Derived.Test.YtilfmnffdloneaaMark
namespace Go.Proofs.Ytilfmnffdloneaa
open Go.RowKit
set_option linter.unusedVariables false

set_option maxRecDepth 100000 in
set_option maxHeartbeats 1000000 in
theorem w_FnExactDividedCost (a0 : Int) (A1 : Option Addr) (n1 c1 : Nat) (l1 : List Int) (A2 : Option Addr) (n2 c2 : Nat) (l2 : List Int) (a3 : Int) (w : World) (w0_ : -9223372036854775808 ≤ a0 ∧ a0 ≤ 9223372036854775807) (h1 : Rd I w w.heap.size A1 n1 l1) (h2 : Rd I w w.heap.size A2 n2 l2) (w3_ : -9223372036854775808 ≤ a3 ∧ a3 ≤ 9223372036854775807) :
    Calls Try.prog 11 #[.int .i64 a0, .slice A1 n1 c1, .slice A2 n2 c2, .int .i64 a3] w fun e w' => e = .returned (.bool true) ∧ Below w.heap.size w w' := by
  by_cases hn1 : n1 ≤ 1048576
  · by_cases hn2 : n2 ≤ 1048576
    · go_enter Try.func11, Try.ntmps11
      go_wp2_with fail
      refine (toInt64S_any A1 n1 c1 w.heap.size l1 _ (h1.below (Below.refl _ _) (Nat.le_refl _)) (by omega) hn1).mono ?_
      rintro e w1 ⟨gS1, rfl, hS1_1, hb1⟩
      have hz1 := hb1.size
      have hB1 : Below w.heap.size w w1 := (Below.refl _ _).trans (hb1.mono (by omega))
      go_wp2_with fail
      refine (toInt64S_any A2 n2 c2 w.heap.size l2 _ (h2.below (hB1) (Nat.le_refl _)) (by omega) hn2).mono ?_
      rintro e w2 ⟨gS2, rfl, hS2_2, hb2⟩
      have hz2 := hb2.size
      have hB2 : Below w.heap.size w w2 := (hB1).trans (hb2.mono (by omega))
      have hS1_2 := hS1_1.below hb2 (by omega)
      go_wp2_with fail
      refine (specGaDc_any a0 a3 _ _ n1 n1 _ n2 n2 _ l1 l2 _ _ _ hS1_2.rd hS2_2.rd (by omega) (by omega) hn1 hn2 rfl rfl).mono ?_
      rintro e w3 ⟨rfl, hb3⟩
      have hz3 := hb3.size
      have hB3 : Below w.heap.size w w3 := (hB2).trans (hb3.mono (by omega))
      have hS1_3 := hS1_2.below hb3 (by omega)
      have hS2_3 := hS2_2.below hb3 (by omega)
      go_wp2_with fail
      refine (toInt64S_any A1 n1 c1 w.heap.size l1 _ (h1.below (hB3) (Nat.le_refl _)) (by omega) hn1).mono ?_
      rintro e w4 ⟨gX1, rfl, hX1_4, hb4⟩
      have hz4 := hb4.size
      have hB4 : Below w.heap.size w w4 := (hB3).trans (hb4.mono (by omega))
      go_wp2_with fail
      refine (toInt64S_any A2 n2 c2 w.heap.size l2 _ (h2.below (hB4) (Nat.le_refl _)) (by omega) hn2).mono ?_
      rintro e w5 ⟨gX2, rfl, hX2_5, hb5⟩
      have hz5 := hb5.size
      have hB5 : Below w.heap.size w w5 := (hB4).trans (hb5.mono (by omega))
      have hX1_5 := hX1_4.below hb5 (by omega)
      go_wp2_with fail
      refine (implGaDc_any a0 a3 _ _ n1 n1 _ n2 n2 _ l1 l2 _ _ _ hX1_5.rd hX2_5.rd (by omega) (by omega) hn1 hn2 (Nat.le_refl _) (Nat.le_refl _) w0_ w3_ rfl rfl).mono ?_
      rintro e w6 ⟨rfl, hb6⟩
      have hz6 := hb6.size
      have hB6 : Below w.heap.size w w6 := (hB5).trans (hb6.mono (by omega))
      have hX1_6 := hX1_5.below hb6 (by omega)
      have hX2_6 := hX2_5.below hb6 (by omega)
      go_wp2_with fail
      refine (toInt64S_any A1 n1 c1 w.heap.size l1 _ (h1.below (hB6) (Nat.le_refl _)) (by omega) hn1).mono ?_
      rintro e w7 ⟨gC, rfl, hC_7, hb7⟩
      have hz7 := hb7.size
      have hB7 : Below w.heap.size w w7 := (hB6).trans (hb7.mono (by omega))
      have hX1_7 := hX1_6.below hb7 (by omega)
      have hX2_7 := hX2_6.below hb7 (by omega)
      go_wp2_with fail
      refine (eqInt64S_true _ _ _ _ _ _ _ _ _ hX1_7.rd hC_7.rd hn1).mono ?_
      rintro e w8 ⟨rfl, hq8⟩
      have hz8 := hq8.le
      have hB8 : Below w.heap.size w w8 := (hB7).trans (hq8.below _)
      have hX1_8 := hX1_7.q hq8
      have hX2_8 := hX2_7.q hq8
      have hC_8 := hC_7.q hq8
      go_wp2_with fail
      refine (toInt64S_any A2 n2 c2 w.heap.size l2 _ (h2.below (hB8) (Nat.le_refl _)) (by omega) hn2).mono ?_
      rintro e w9 ⟨gC, rfl, hC_9, hb9⟩
      have hz9 := hb9.size
      have hB9 : Below w.heap.size w w9 := (hB8).trans (hb9.mono (by omega))
      have hX1_9 := hX1_8.below hb9 (by omega)
      have hX2_9 := hX2_8.below hb9 (by omega)
      go_wp2_with fail
      refine (eqInt64S_true _ _ _ _ _ _ _ _ _ hX2_9.rd hC_9.rd hn2).mono ?_
      rintro e w10 ⟨rfl, hq10⟩
      have hz10 := hq10.le
      have hB10 : Below w.heap.size w w10 := (hB9).trans (hq10.below _)
      have hX1_10 := hX1_9.q hq10
      have hX2_10 := hX2_9.q hq10
      have hC_10 := hC_9.q hq10
      go_wp2_with fail
      go_ret
      exact ⟨rfl, hB10⟩
    · have hn2_ : 1048576 < n2 := by omega
      go_enter Try.func11, Try.ntmps11
      go_wp2
      go_ret
      exact ⟨rfl, Below.refl _ _⟩
  · have hn1_ : 1048576 < n1 := by omega
    go_enter Try.func11, Try.ntmps11
    go_wp2
    go_ret
    exact ⟨rfl, Below.refl _ _⟩
end Go.Proofs.Ytilfmnffdloneaa
