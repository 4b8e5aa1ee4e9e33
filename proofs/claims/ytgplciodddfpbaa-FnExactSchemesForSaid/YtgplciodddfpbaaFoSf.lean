/- Contracts of the model's FoldSheet and FacesDown. -/
import Derived.Test.YtgplciodddfpbaaFoLs
namespace Go.Proofs.Ytgplciodddfpbaa
open Go.RowKit

end Go.Proofs.Ytgplciodddfpbaa
