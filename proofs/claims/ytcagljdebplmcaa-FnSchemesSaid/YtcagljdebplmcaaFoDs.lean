/- Contracts of the draws of the laws of chapter 4. -/
import Derived.Test.YtcagljdebplmcaaFoDw
namespace Go.Proofs.Ytcagljdebplmcaa
open Go.RowKit

theorem big_any (A : Option Addr) (N C : Nat) (w : World) :
    Calls Try.prog 14 #[.slice A N C] w fun e w' => e = .returned (.bool (decide (4096 < N))) ∧ w = w' := by
  go_enter Try.func14, Try.ntmps14
  go_wp2
  go_ret
  exact ⟨ret_b (by simp; omega), rfl⟩

def DrT (w : World) (e : Ending) (w' : World) : Prop := ∃ (a b : Int) (t : ByteArray), e = .returned (.tuple #[.int .i64 a, .int .i64 b, .string t]) ∧ -1 ≤ a ∧ a ≤ 16 ∧ -1 ≤ b ∧ b ≤ 16 ∧ t.size ≤ 7 ∧ Below w.heap.size w w'
set_option maxRecDepth 100000 in
theorem DrawFo_any (N C B : Nat) (A : Option Addr) (l : List Int) (w : World) (hc : Rd U w B A N l) (hl : inByte l) (hB : B ≤ w.heap.size) (hN : N ≤ 1048576) :
    Calls Try.prog 15 #[.slice A N C] w fun e w' => DrT w e w' := by
  go_enter Try.func15, Try.ntmps15
  go_wp2_with fail
  refine (l01From_ex N C B A l _ hc hl hB).mono ?_
  rintro e w1 ⟨g, rfl, hg, hs1, hb1⟩
  have hz1 := hb1.size
  have hlt := hs1.lt
  go_wp2_with fail
  refine (draw_any g N C B A l _ hs1 (hc.below hb1 hB) hl (by omega) hN).mono ?_
  rintro e w2 ⟨a, b, t, rfl, a1, a2, b1, b2, ht, hs2, ho2⟩
  have HB : Hid (DrT w (.returned (.tuple #[.int .i64 a, .int .i64 b, .string t])) w2) := Lib.hid ⟨a, b, t, rfl, a1, a2, b1, b2, ht, hb1.trans (ho2.below hg hz1)⟩
  clear ht hs2 ho2 hs1 hb1
  go_wp2_with fail
  go_ret3
  exact HB.out
set_option maxRecDepth 100000 in
theorem DrawMs_any (N C B : Nat) (A : Option Addr) (l : List Int) (w : World) (hc : Rd U w B A N l) (hl : inByte l) (hB : B ≤ w.heap.size) (hN : N ≤ 1048576) :
    Calls Try.prog 36 #[.slice A N C] w fun e w' => DrT w e w' := by
  go_enter Try.func36, Try.ntmps36
  go_wp2_with fail
  refine (l01From_ex N C B A l _ hc hl hB).mono ?_
  rintro e w1 ⟨g, rfl, hg, hs1, hb1⟩
  have hz1 := hb1.size
  have hlt := hs1.lt
  go_wp2_with fail
  refine (draw_any g N C B A l _ hs1 (hc.below hb1 hB) hl (by omega) hN).mono ?_
  rintro e w2 ⟨a, b, t, rfl, a1, a2, b1, b2, ht, hs2, ho2⟩
  have HB : Hid (DrT w (.returned (.tuple #[.int .i64 a, .int .i64 b, .string t])) w2) := Lib.hid ⟨a, b, t, rfl, a1, a2, b1, b2, ht, hb1.trans (ho2.below hg hz1)⟩
  clear ht hs2 ho2 hs1 hb1
  go_wp2_with fail
  go_ret3
  exact HB.out
/-- The draw of two sides. -/
def DrP (w : World) (e : Ending) (w' : World) : Prop := ∃ (a b : Int), e = .returned (.tuple #[.int .i64 a, .int .i64 b]) ∧ -1 ≤ a ∧ a ≤ 16 ∧ -1 ≤ b ∧ b ≤ 16 ∧ Below w.heap.size w w'
set_option maxRecDepth 100000 in
set_option maxHeartbeats 1000000 in
theorem DrawCs_any (N C B : Nat) (A : Option Addr) (l : List Int) (w : World) (hc : Rd U w B A N l) (hl : inByte l) (hB : B ≤ w.heap.size) (hN : N ≤ 1048576) :
    Calls Try.prog 29 #[.slice A N C] w fun e w' => DrP w e w' := by
  go_enter Try.func29, Try.ntmps29
  go_wp2_with fail
  refine (l01From_ex N C B A l _ hc hl hB).mono ?_
  rintro e w1 ⟨g, rfl, hg, hs1, hb1⟩
  have hz1 := hb1.size
  have hlt := hs1.lt
  have hc1 := hc.below hb1 hB
  go_wp2_with fail
  refine (side_draw g N C B A l _ hs1 hc1 hl (by omega) hN).mono ?_
  rintro e w2 ⟨a, rfl, a1, a2, hs2, ho2⟩
  have hc2 := hc1.below (ho2.below (Nat.le_refl g) (by omega)) (by omega)
  go_wp2_with fail
  refine (side_draw g N C B A l _ hs2 hc2 hl (by omega) hN).mono ?_
  rintro e w3 ⟨b, rfl, b1, b2, hs3, ho3⟩
  have HB : Hid (DrP w (.returned (.tuple #[.int .i64 a, .int .i64 b])) w3) := Lib.hid ⟨a, b, rfl, a1, a2, b1, b2, hb1.trans ((ho2.trans ho3).below hg hz1)⟩
  clear hs3 ho3 hs2 ho2 hs1 hb1
  go_wp2_with fail
  go_ret2
  exact HB.out
set_option maxRecDepth 100000 in
set_option maxHeartbeats 1000000 in
theorem DrawSo_any (N C B : Nat) (A : Option Addr) (l : List Int) (w : World) (hc : Rd U w B A N l) (hl : inByte l) (hB : B ≤ w.heap.size) (hN : N ≤ 1048576) :
    Calls Try.prog 26 #[.slice A N C] w fun e w' => DrP w e w' := by
  go_enter Try.func26, Try.ntmps26
  go_wp2_with fail
  refine (l01From_ex N C B A l _ hc hl hB).mono ?_
  rintro e w1 ⟨g, rfl, hg, hs1, hb1⟩
  have hz1 := hb1.size
  have hlt := hs1.lt
  have hc1 := hc.below hb1 hB
  go_wp2_with fail
  refine (side_draw g N C B A l _ hs1 hc1 hl (by omega) hN).mono ?_
  rintro e w2 ⟨a, rfl, a1, a2, hs2, ho2⟩
  have hc2 := hc1.below (ho2.below (Nat.le_refl g) (by omega)) (by omega)
  by_cases h4 : 4 ≤ a
  · have h4b : ¬ (a < 4) := by omega
    go_wp2_with fail
    refine (side_draw g N C B A l _ hs2 hc2 hl (by omega) hN).mono ?_
    rintro e w3 ⟨b, rfl, b1, b2, hs3, ho3⟩
    have HB : Hid (∀ x y : Int, (x = a ∨ x = 4) → (y = b ∨ y = 4) → DrP w (.returned (.tuple #[.int .i64 x, .int .i64 y])) w3) := Lib.hid fun x y hx hy => ⟨x, y, rfl, by omega, by omega, by omega, by omega, hb1.trans ((ho2.trans ho3).below hg hz1)⟩
    clear hs3 ho3 hs2 ho2 hs1 hb1
    go_wp2_with fail
    all_goals
      go_ret2
      refine HB.out _ _ ?_ ?_ <;> omega
  · have h4b : a < 4 := by omega
    have h4c : a ≤ 4 := by omega
    go_wp2_with fail
    refine (side_draw g N C B A l _ hs2 hc2 hl (by omega) hN).mono ?_
    rintro e w3 ⟨b, rfl, b1, b2, hs3, ho3⟩
    have HB : Hid (∀ x y : Int, (x = a ∨ x = 4) → (y = b ∨ y = 4) → DrP w (.returned (.tuple #[.int .i64 x, .int .i64 y])) w3) := Lib.hid fun x y hx hy => ⟨x, y, rfl, by omega, by omega, by omega, by omega, hb1.trans ((ho2.trans ho3).below hg hz1)⟩
    clear hs3 ho3 hs2 ho2 hs1 hb1
    go_wp2_with fail
    all_goals
      go_ret2
      refine HB.out _ _ ?_ ?_ <;> omega
end Go.Proofs.Ytcagljdebplmcaa
