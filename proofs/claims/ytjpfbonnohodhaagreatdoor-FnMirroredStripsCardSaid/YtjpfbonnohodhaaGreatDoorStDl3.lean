/- Contracts of the draws of the law of mirrored strips. -/
import Derived.Test.YtjpfbonnohodhaaGreatDoorStDl
import Derived.Test.YtjpfbonnohodhaaGreatDoorStCreases
namespace Go.Proofs.YtjpfbonnohodhaaGreatDoor
open Go.RowKit Go.Shelf

theorem DrawMirror_any (N C B : Nat) (A : Option Addr) (l : List Int) (w : World) (hc : Rd U w B A N l) (hl : inByte l) (hB : B ≤ w.heap.size) (hN : N ≤ 1048576) :
    Calls Tryz.prog 5 #[.slice A N C] w fun e w' => DrT w e w' := by
  go_enter Tryz.func5, Tryz.ntmps5
  go_wp2_with fail
  refine (l01From_ex N C B A l _ hc hl hB).mono ?_
  rintro e w1 ⟨g, rfl, hg, hs1, hb1⟩
  have hz1 := hb1.size
  have hlt := hs1.lt
  go_wp2_with fail
  refine (l03Draw_any g N C B A l _ hs1 (hc.below hb1 hB) hl (by omega) hN).mono ?_
  rintro e w2 ⟨t, rfl, ht, hs2, ho2⟩
  have HB : Hid (DrT w (.returned (.string t)) w2) := ⟨t, rfl, ht, hb1.trans (ho2.below hg hz1)⟩
  clear ht hs2 ho2 hs1 hb1
  go_wp2_with fail
  go_ret
  exact HB.out
def DrX (w : World) (e : Ending) (w' : World) : Prop :=
  ∃ (A' : Option Addr) (n' c' : Nat) (L : List Int), e = .returned (.slice A' n' c') ∧ Rd I w' w'.heap.size A' n' L ∧ n' ≤ 1048576 ∧ (∀ x ∈ L, -1000 ≤ x ∧ x ≤ 1000) ∧ Below w.heap.size w w'
theorem DrawTurn_any (N C B : Nat) (A : Option Addr) (l : List Int) (w : World) (hc : Rd U w B A N l) (hl : inByte l) (hB : B ≤ w.heap.size) (hN : N ≤ 1048576) :
    Calls Tryz.prog 8 #[.slice A N C] w fun e w' => DrX w e w' := by
  go_enter Tryz.func8, Tryz.ntmps8
  go_wp2_with fail
  refine (l01From_ex N C B A l _ hc hl hB).mono ?_
  rintro e w1 ⟨g, rfl, hg, hs1, hb1⟩
  have hz1 := hb1.size
  have hlt := hs1.lt
  go_wp2_with fail
  refine (l03DrawList_any g N C B A l _ hs1 (hc.below hb1 hB) hl (by omega) hN).mono ?_
  rintro e w2 ⟨A', n', c', L, rfl, hr, hn, hL, ho2⟩
  have HB : Hid (DrX w (.returned (.slice A' n' c')) w2) := ⟨A', n', c', L, rfl, hr, hn, hL, hb1.trans (ho2.below hg hz1)⟩
  clear hr hn hL ho2 hs1 hb1
  go_wp2_with fail
  go_ret
  exact HB.out
end Go.Proofs.YtjpfbonnohodhaaGreatDoor
