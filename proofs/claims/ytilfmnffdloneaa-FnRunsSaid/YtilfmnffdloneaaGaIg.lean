/- Chapter 11: what the laws want: the model's two contracts in another form, and the program's (imported). -/
import Derived.Test.YtilfmnffdloneaaGaDc
import Derived.Test.YtilfmnffdloneaaGaPc
import Derived.Test.YtilfmnffdloneaaGaPb
import Derived.Test.YtilfmnffdloneaaGpHf
namespace Go.Proofs.Ytilfmnffdloneaa
open Go.RowKit

theorem specGaG_below (sl : Int) (A : Option Addr) (n c B : Nat) (q : List Int) (b : Bool) (w : World) (h : Rd I w B A n q) (hn : n ≤ 1048576) (hb : Ga.okG sl q = b) :
    Calls Try.prog 35 #[.int .i64 sl, .slice A n c] w fun e w' => e = .returned (.bool b) ∧ Below w.heap.size w w' := by
  refine (specGaG_any sl A n c B q b w h hn hb).mono ?_
  rintro e w' ⟨rfl, rfl⟩
  exact ⟨rfl, Below.refl _ _⟩

theorem specGaRf_below (sl : Int) (A1 A2 : Option Addr) (n1 c1 B1 n2 c2 B2 : Nat) (q u : List Int) (R C : Int) (w : World) (h1 : Rd I w B1 A1 n1 q) (h2 : Rd I w B2 A2 n2 u) (hn1 : n1 ≤ 1048576) (hn2 : n2 ≤ 1048576) (hR : Ga.rfR sl q u = R) (hC : Ga.rfC sl q u = C) :
    Calls Try.prog 21 #[.int .i64 sl, .slice A1 n1 c1, .slice A2 n2 c2] w fun e w' => e = .returned (.tuple #[.int .i64 R, .int .i64 C]) ∧ Below w.heap.size w w' := by
  refine (specGaRf_any sl A1 A2 n1 c1 B1 n2 c2 B2 q u R C w h1 h2 hn1 hn2 hR hC).mono ?_
  rintro e w' ⟨rfl, hq⟩
  exact ⟨rfl, hq.below _⟩

end Go.Proofs.Ytilfmnffdloneaa
