/-
  What the calls of package tag come to, said of cells: fits, fold, Of, Make, Check.
-/
import Derived.Test.YtgmbbbdeoldfcadBase
import Derived.Test.YtgmbbbdeoldfcadTagMath
namespace Go.Proofs.Ytgmbbbdeoldfcad
open Go.RowKit

end Go.Proofs.Ytgmbbbdeoldfcad
