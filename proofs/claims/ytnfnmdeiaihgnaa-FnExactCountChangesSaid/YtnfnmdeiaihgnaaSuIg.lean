/- Chapter 13: the program's contracts, for the laws. -/
import Derived.Test.YtnfnmdeiaihgnaaSxVt
import Derived.Test.YtnfnmdeiaihgnaaSxEf
import Derived.Test.YtnfnmdeiaihgnaaSxFz
namespace Go.Proofs.Ytnfnmdeiaihgnaa
open Go.RowKit
theorem q_belowU {P : Program} {f : FuncId} {args : Array Value} {w : World} {v : Ending} (h : Calls P f args w fun e w' => e = v ∧ Q w w') : Calls P f args w fun e w' => e = v ∧ Below w.heap.size w w' := h.mono fun _ _ ⟨a, b⟩ => ⟨a, b.below _⟩
end Go.Proofs.Ytnfnmdeiaihgnaa
