/- Contracts of the model's FoldSheet and FacesDown. -/
import Derived.Test.YtfiefjbipjalpaaFoLs
namespace Go.Proofs.Ytfiefjbipjalpaa
open Go.RowKit

end Go.Proofs.Ytfiefjbipjalpaa
