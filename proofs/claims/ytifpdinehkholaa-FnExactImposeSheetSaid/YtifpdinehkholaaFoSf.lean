/- Contracts of the model's FoldSheet and FacesDown. -/
import Derived.Test.YtifpdinehkholaaFoLs
namespace Go.Proofs.Ytifpdinehkholaa
open Go.RowKit

end Go.Proofs.Ytifpdinehkholaa
