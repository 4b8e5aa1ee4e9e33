/- Contracts of NestedPlace, the model's, and of PartnerOf, the program's and the model's. -/
import Derived.Test.YtamnhbambklmkaaSgNs
namespace Go.Proofs.Ytamnhbambklmkaa
open Go.RowKit

theorem Sg.pt_no {n p r c : Int} (h : Sg.nsOk n p = false) (hr : Sg.ptR n p = r) (hc : Sg.nsC n p = c) : r = 0 ∧ c = 2 := by
  unfold Sg.ptR at hr
  unfold Sg.nsC at hc
  rw [h] at hr hc
  exact ⟨hr.symm, hc.symm⟩
theorem Sg.pt_yes {n p r c : Int} (h : Sg.nsOk n p = true) (hr : Sg.ptR n p = r) (hc : Sg.nsC n p = c) : r = 4 * n + 1 - p ∧ c = 0 := by
  unfold Sg.ptR at hr
  unfold Sg.nsC at hc
  rw [h] at hr hc
  exact ⟨hr.symm, hc.symm⟩

theorem to_below {P : Program} {f : FuncId} {args : Array Value} {w : World} {v : Ending} (h : Calls P f args w fun e w' => e = v ∧ w = w') : Calls P f args w fun e w' => e = v ∧ Below w.heap.size w w' :=
  h.mono fun _ _ ⟨he, hw⟩ => ⟨he, by rw [← hw]; exact Below.refl _ _⟩
end Go.Proofs.Ytamnhbambklmkaa
