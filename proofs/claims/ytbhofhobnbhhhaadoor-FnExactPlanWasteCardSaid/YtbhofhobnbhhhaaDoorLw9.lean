/- A word for regions that draw their order. -/
import Derived.Test.YtbhofhobnbhhhaaDoorWords
namespace Go.Proofs.YtbhofhobnbhhhaaDoor
open Go.RowKit
theorem sz_drew9 {V w : World} (h : Below V.drew.heap.size V.drew w) : V.heap.size ≤ w.heap.size := h.size
end Go.Proofs.YtbhofhobnbhhhaaDoor
