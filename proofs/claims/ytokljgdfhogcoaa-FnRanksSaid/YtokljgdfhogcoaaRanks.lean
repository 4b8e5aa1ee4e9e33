/- The walk of the law of ranks: the drawn order and its rank, the drawn rank and its order, and the next one. -/
import Derived.Test.YtokljgdfhogcoaaDrawOrd
import Derived.Test.YtokljgdfhogcoaaRankMath
namespace Go.Proofs.Ytokljgdfhogcoaa
open Go.RowKit

def List1 (w : World) (e : Ending) (w' : World) : Prop :=
  ∃ A n c l, e = .returned (.slice A n c) ∧ Rd I w' w'.heap.size A n l ∧ n ≤ c ∧ n ≤ 100 ∧ Below w.heap.size w w'

set_option maxHeartbeats 1000000 in
theorem DrawRankOrder_any (N C B : Nat) (A : Option Addr) (l : List Int) (w : World) (hc : Rd U w B A N l) (hl : inByte l) (hB : B ≤ w.heap.size) (hN : N ≤ 1048576) :
    Calls Try.prog 21 #[.slice A N C] w fun e w' => List1 w e w' := by
  go_enter Try.func21, Try.ntmps21
  go_wp2_with fail
  refine (l01From_ex N C B A l _ hc hl hB).mono ?_
  rintro e w1 ⟨g, rfl, hg, hs1, hb1⟩
  have hlt1 := hs1.lt
  have hc1 := hc.below hb1 hB
  go_wp2_with fail
  refine (l01DrawOrder_any g N C B A l _ hs1 hc1 hl (by omega) hN).mono ?_
  rintro e w2 ⟨A2, n2, c2, l2, rfl, hn2, hO2, hs2, ho2⟩
  have hcap2 := hO2.cap
  go_wp2_with fail
  go_ret
  exact ⟨A2, n2, c2, l2, rfl, hO2.rd, hcap2, hn2, hb1.trans (ho2.below (B := w.heap.size) (by omega) (by omega))⟩

set_option maxHeartbeats 1000000 in
theorem DrawOrk_any (N C B : Nat) (A : Option Addr) (l : List Int) (w : World) (hc : Rd U w B A N l) (hl : inByte l) (hB : B ≤ w.heap.size) (hN : N ≤ 1048576) :
    Calls Try.prog 24 #[.slice A N C] w fun e w' => ∃ n k : Int, e = .returned (.tuple #[.int .i64 n, .int .i64 k]) ∧ (-1 ≤ n ∧ n ≤ 13) ∧ (-1 ≤ k ∧ k ≤ 1000000000) ∧ Below w.heap.size w w' := by
  have fin : ∀ (n k : Int) (W : World), (-1 ≤ n ∧ n ≤ 13) → (-1 ≤ k ∧ k ≤ 1000000000) → Below w.heap.size w W → ∃ n' k' : Int, Ending.returned (.tuple #[.int .i64 n, .int .i64 k]) = .returned (.tuple #[.int .i64 n', .int .i64 k']) ∧ (-1 ≤ n' ∧ n' ≤ 13) ∧ (-1 ≤ k' ∧ k' ≤ 1000000000) ∧ Below w.heap.size w W :=
    fun n k W h1 h2 h3 => ⟨n, k, rfl, h1, h2, h3⟩
  have FIN := Lib.hid fin
  clear fin
  go_enter Try.func24, Try.ntmps24
  go_wp2_with fail
  refine (l01From_ex N C B A l _ hc hl hB).mono ?_
  rintro e w1 ⟨g, rfl, hg, hs1, hb1⟩
  have hz1 := hb1.size
  have hlt1 := hs1.lt
  go_wp2_with fail
  refine (l01Next_any g N C B A l _ _ hs1 (hc.below hb1 hB) hl (by omega) hN (by omega)).mono ?_
  rintro e w2 ⟨v, rfl, hv0, hv1, _, hs2, ho2⟩
  have hb2 := hb1.trans (ho2.below (B := w.heap.size) (by omega) (by omega))
  have hz2 := ho2.size
  clear hv1
  by_cases hv : v = 0
  · subst hv
    go_wp2_with fail
    refine (pick_lit g N C B A l [-1, 0, 12, 13] _ _ w2 rfl rfl hs2 (hc.below hb2 hB) hl (by omega) hN (by decide) (by decide)).mono ?_
    rintro e w3 ⟨x, rfl, hx, hs3, ho3⟩
    have hz3 := ho3.size
    have hb3 := hb2.trans (ho3.below (B := w.heap.size) (by omega) (by omega))
    have hx' : -1 ≤ x ∧ x ≤ 13 := by simp at hx; omega
    clear hx
    go_wp2_with fail
    refine (pick_lit g N C B A l [-1, 0, 1, 479001599, 479001600] _ _ w3 rfl rfl hs3 (hc.below hb3 hB) hl (by omega) hN (by decide) (by decide)).mono ?_
    rintro e w4 ⟨y, rfl, hy, hs4, ho4⟩
    have hy' : -1 ≤ y ∧ y ≤ 1000000000 := by simp at hy; omega
    clear hy
    go_wp2_with fail
    go_ret2
    exact FIN.out _ _ _ hx' hy' (hb3.trans (ho4.below (B := w.heap.size) (by omega) (by omega)))
  · have hv' : (v == 0) = false := by simpa using hv
    go_wp2_with fail
    refine (l01Next_any g N C B A l _ _ hs2 (hc.below hb2 hB) hl (by omega) hN (by omega)).mono ?_
    rintro e w3 ⟨x, rfl, hx0, hx1, _, hs3, ho3⟩
    have hx1' := hx1 (by omega)
    have hz3 := ho3.size
    have hb3 := hb2.trans (ho3.below (B := w.heap.size) (by omega) (by omega))
    clear hx1
    go_wp2_with fail
    refine (specFac_int _ _ (by omega) (by omega)).mono ?_
    rintro e _ ⟨rfl, rfl⟩
    have hf := fac_bd (1 + x).toNat (by omega)
    have hf1 := hf.1
    have hf2 := hf.2
    clear hf
    go_wp2_with fail
    refine (l01Next_any g N C B A l _ _ hs3 (hc.below hb3 hB) hl (by omega) hN (by omega)).mono ?_
    rintro e w4 ⟨y, rfl, hy0, hy1, _, hs4, ho4⟩
    have hy1' := hy1 (by omega)
    clear hy1
    go_wp2_with fail
    go_ret2
    exact FIN.out _ _ _ (by omega) (by omega) (hb3.trans (ho4.below (B := w.heap.size) (by omega) (by omega)))
end Go.Proofs.Ytokljgdfhogcoaa
