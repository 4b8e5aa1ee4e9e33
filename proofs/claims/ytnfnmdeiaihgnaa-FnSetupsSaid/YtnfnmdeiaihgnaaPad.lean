/- The padded count: contracts of the model's and the program's function, and the walk of the exact law. -/
import Derived.Test.YtnfnmdeiaihgnaaIn
namespace Go.Proofs.Ytnfnmdeiaihgnaa
open Go.RowKit

def padOk (n u : Int) : Prop := (0 ≤ n ∧ n ≤ 1000000000) ∧ 1 ≤ u ∧ u ≤ 1000000000
instance (n u : Int) : Decidable (padOk n u) := by unfold padOk; infer_instance
def padR (n u : Int) : Int := if padOk n u then (n + u - 1) / u * u else 0
def padC (n u : Int) : Int := if padOk n u then 0 else 2

theorem pad_bd (n u : Int) (h0 : 0 ≤ n) (h1 : n ≤ 1000000000) (h2 : 1 ≤ u) (h3 : u ≤ 1000000000) : 0 ≤ (n + u - 1) / u ∧ (n + u - 1) / u ≤ 2000000000 ∧ n ≤ (n + u - 1) / u * u ∧ (n + u - 1) / u * u < n + u := by
  have a1 := Int.ediv_nonneg (a := n + u - 1) (b := u) (by omega) (by omega)
  have a2 := Int.ediv_le_self (a := n + u - 1) u (by omega)
  have a3 := Int.mul_ediv_add_emod (n + u - 1) u
  have a4 := Int.emod_nonneg (n + u - 1) (show u ≠ 0 by omega)
  have a5 := Int.emod_lt_of_pos (n + u - 1) (show 0 < u by omega)
  rw [Int.mul_comm] at a3
  generalize (n + u - 1) / u * u = x at *
  omega

end Go.Proofs.Ytnfnmdeiaihgnaa
