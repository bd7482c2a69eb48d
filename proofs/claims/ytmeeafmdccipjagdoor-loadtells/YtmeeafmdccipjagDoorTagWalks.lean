/-
  What the calls of package tag come to, said of cells: fits, fold, Of, Make, Check.
-/
import Derived.Test.YtmeeafmdccipjagDoorBase
import Derived.Test.YtmeeafmdccipjagDoorTagMath
namespace Go.Proofs.YtmeeafmdccipjagDoor
open Go.RowKit

end Go.Proofs.YtmeeafmdccipjagDoor
