/-
  What the calls of package tag come to, said of cells: fits, fold, Of, Make, Check.
-/
import Derived.Test.YtmeeafmdccipjahBase
import Derived.Test.YtmeeafmdccipjahTagMath
namespace Go.Proofs.Ytmeeafmdccipjah
open Go.RowKit

end Go.Proofs.Ytmeeafmdccipjah
