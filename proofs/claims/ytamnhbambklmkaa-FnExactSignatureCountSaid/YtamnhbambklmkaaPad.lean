/- The padded count: contracts of the model's and the program's function, and the walk of the exact law. -/
import Derived.Test.YtamnhbambklmkaaIn
namespace Go.Proofs.Ytamnhbambklmkaa
open Go.RowKit

def padOk (n u : Int) : Prop := (0 ≤ n ∧ n ≤ 1000000000) ∧ 1 ≤ u ∧ u ≤ 1000000000
instance (n u : Int) : Decidable (padOk n u) := by unfold padOk; infer_instance
def padR (n u : Int) : Int := if padOk n u then (n + u - 1) / u * u else 0
def padC (n u : Int) : Int := if padOk n u then 0 else 2

theorem pad_bd (n u : Int) (h0 : 0 ≤ n) (h1 : n ≤ 1000000000) (h2 : 1 ≤ u) (h3 : u ≤ 1000000000) : 0 ≤ (n + u - 1) / u ∧ (n + u - 1) / u ≤ 2000000000 ∧ n ≤ (n + u - 1) / u * u ∧ (n + u - 1) / u * u < n + u := by
  have a1 := Int.ediv_nonneg (a := n + u - 1) (b := u) (by omega) (by omega)
  have a2 := Int.ediv_le_self (a := n + u - 1) u (by omega)
  have a3 := Int.mul_ediv_add_emod (n + u - 1) u
  have a4 := Int.emod_nonneg (n + u - 1) (show u ≠ 0 by omega)
  have a5 := Int.emod_lt_of_pos (n + u - 1) (show 0 < u by omega)
  rw [Int.mul_comm] at a3
  generalize (n + u - 1) / u * u = x at *
  omega

set_option maxHeartbeats 1000000 in
theorem implPad_any (n u : Int) (w : World) (hn : -9223372036854775808 ≤ n ∧ n ≤ 9223372036854775807) (hu : -9223372036854775808 ≤ u ∧ u ≤ 9223372036854775807) :
    Calls Try.prog 68 #[.int .i64 n, .int .i64 u] w fun e w' => e = .returned (.tuple #[.int .i64 (padR n u), .int .i64 (padC n u)]) ∧ w = w' := by
  by_cases ho : padOk n u
  · have HR : Hid (padR n u = (n + u - 1) / u * u) := if_pos ho
    have HC : Hid (padC n u = 0) := if_pos ho
    obtain ⟨⟨h0, h1⟩, h2, h3⟩ := ho
    obtain ⟨b0, b1, b2, b3⟩ := pad_bd n u h0 h1 h2 h3
    have e1 : IntKind.i64.wrap ((n + u - 1) / u * u) = (n + u - 1) / u * u := IntWalk.i64_in _ (by omega)
    clear b2 b3
    have HE := Lib.hid e1
    clear e1
    rw [HR.out, HC.out]
    have e2 := HE.out
    have u0 : ¬ u = 0 := by omega
    go_enter Try.func68, Try.ntmps68
    go_wp2_with fail
    go_ret2
    exact ⟨rfl, rfl⟩
  · have HR : Hid (padR n u = 0) := if_neg ho
    have HC : Hid (padC n u = 2) := if_neg ho
    rw [HR.out, HC.out]
    have hcase : n < 0 ∨ (0 ≤ n ∧ 1000000000 < n) ∨ (0 ≤ n ∧ n ≤ 1000000000 ∧ u < 1) ∨ (0 ≤ n ∧ n ≤ 1000000000 ∧ 1 ≤ u ∧ 1000000000 < u) := by unfold padOk at ho; omega
    clear ho
    rcases hcase with h1 | ⟨h0, h1⟩ | ⟨h0, h1, h2⟩ | ⟨h0, h1, h2, h3⟩
    all_goals
      go_enter Try.func68, Try.ntmps68
      go_wp2_with fail
      go_ret2
      exact ⟨rfl, rfl⟩

theorem l01Ceil_any (n u q : Int) (w : World) (h0 : 0 ≤ n) (h1 : n ≤ 1000000000) (h2 : 1 ≤ u) (h3 : u ≤ 1000000000) (hq : (n + u - 1) / u = q) :
    Calls Try.prog 69 #[.int .i64 n, .int .i64 u] w fun e w' => e = .returned (.int .i64 q) ∧ w = w' := by
  subst hq
  have u0 : ¬ u = 0 := by omega
  obtain ⟨b0, b1, b2, b3⟩ := pad_bd n u h0 h1 h2 h3
  clear b2 b3
  go_enter Try.func69, Try.ntmps69
  go_wp2_with fail
  go_ret
  exact ⟨rfl, rfl⟩

end Go.Proofs.Ytamnhbambklmkaa
