/- Contracts of the helpers of the exact laws at a form: marks in its lists. -/
import Derived.Test.YtfiefjbipjalpaaFmTo
namespace Go.Proofs.Ytfiefjbipjalpaa
open Go.RowKit

theorem only_wide {w w' : World} {lo hi lo' hi' : Nat} (h : Only lo hi w w') (h1 : lo' ≤ lo) (h2 : hi ≤ hi') : Only lo' hi' w w' := ⟨h.os, h.tape, h.output, h.size, fun k hk hne => h.block k hk (by omega)⟩
end Go.Proofs.Ytfiefjbipjalpaa
