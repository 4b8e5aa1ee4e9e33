/- The walk of the exact law of SignatureOf, out of the contracts. -/
import Derived.Test.YtfiefjbipjalpaaSgSc
import Derived.Test.YtfiefjbipjalpaaMark
namespace Go.Proofs.Ytfiefjbipjalpaa
open Go.RowKit
end Go.Proofs.Ytfiefjbipjalpaa
