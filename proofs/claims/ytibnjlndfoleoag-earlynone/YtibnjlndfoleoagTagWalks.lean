/-
  What the calls of package tag come to, said of cells: fits, fold, Of, Make, Check.
-/
import Derived.Test.YtibnjlndfoleoagBase
import Derived.Test.YtibnjlndfoleoagTagMath
namespace Go.Proofs.Ytibnjlndfoleoag
open Go.RowKit

end Go.Proofs.Ytibnjlndfoleoag
