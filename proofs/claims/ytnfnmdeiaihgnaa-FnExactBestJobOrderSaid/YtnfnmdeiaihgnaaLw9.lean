/- A word for regions that draw their order. -/
import Derived.Test.YtnfnmdeiaihgnaaWords
namespace Go.Proofs.Ytnfnmdeiaihgnaa
open Go.RowKit
theorem sz_drew9 {V w : World} (h : Below V.drew.heap.size V.drew w) : V.heap.size ≤ w.heap.size := h.size
end Go.Proofs.Ytnfnmdeiaihgnaa
