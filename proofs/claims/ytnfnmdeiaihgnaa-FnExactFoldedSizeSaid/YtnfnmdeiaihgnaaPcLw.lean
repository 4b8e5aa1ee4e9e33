/- Contracts of the laws' helpers at pieces: a copy, two equal ones, marks written and read back, a list's size. -/
import Derived.Test.YtnfnmdeiaihgnaaPc
import Derived.Test.YtnfnmdeiaihgnaaBase
import Derived.Deep.RegionLaw
import Derived.OwnWalk
import Derived.BigQuiet
import Derived.Deep.QuietTactic
namespace Go.Proofs.Ytnfnmdeiaihgnaa
open Go.RowKit
set_option linter.unusedVariables false

set_option maxRecDepth 100000 in
theorem toPiece_any (x : Pc) (w : World) :
    Calls Try.prog 35 #[x.agg] w fun e w' => e = .returned x.agg ∧ Below w.heap.size w w' := by
  go_enter Try.func35, Try.ntmps35
  go_wp2
  exact bodyPost_ret (v := x.agg) (by simp [results, Try.results35, go_sem]) rfl ⟨rfl, (((Below.refl _ w).alloc (Nat.le_refl _) _).alloc (by simp) _).alloc (by simp; omega) _⟩
set_option maxRecDepth 100000 in
theorem eqPiece_true (x : Pc) (w : World) :
    Calls Try.prog 41 #[x.agg, x.agg] w fun e w' => e = .returned (.bool true) ∧ Below w.heap.size w w' := by
  have HB : Below w.heap.size w ((w.alloc (.cells #[.int .i64 x.w, .int .i64 x.h] 25)).alloc (.cells #[.int .i64 x.w, .int .i64 x.h] 25)) := ((Below.refl _ _).alloc (Nat.le_refl _) _).alloc (by simp) _
  go_enter Try.func41, Try.ntmps41
  go_wp2
  go_ret
  exact ⟨rfl, HB⟩
def mkPc (q : Int) : Pc := ⟨q, q + 1⟩
def marksPc (n : Nat) (q : Int) : List Pc := (List.range n).map fun j : Nat => mkPc (q + 2 * (j : Int))
theorem marksPc_len (n : Nat) (q : Int) : (marksPc n q).length = n := by simp [marksPc]
theorem marksPc_at (n : Nat) (q : Int) (j : Nat) (h : j < n) : (marksPc n q)[j]? = some (mkPc (q + 2 * (j : Int))) := by simp [marksPc, h]
theorem mkPc_step (m l : List Pc) (k n : Nat) (x : Pc) (hm : m.length = n) (hl : l.length = n) (hx : m[k]? = some x) (hk : k < n) :
    (m.take k ++ l.drop k).set k x = m.take (k + 1) ++ l.drop (k + 1) := by
  rw [List.drop_eq_getElem_cons (by omega), set_mid _ _ _ _ _ (by simp; omega), take_next m k x hx]
  simp
theorem mod3c_Pc (z : Int) (h : 0 ≤ z) : z.tmod 3 = 0 ∨ z.tmod 3 = 1 ∨ z.tmod 3 = 2 := by
  rw [Int.tmod_eq_emod_of_nonneg h]
  omega
end Go.Proofs.Ytnfnmdeiaihgnaa
