/-
  What the calls of package tag come to, said of cells: fits, fold, Of, Make, Check.
-/
import Derived.Test.YtibnjlndfoleoagDoorBase
import Derived.Test.YtibnjlndfoleoagDoorTagMath
namespace Go.Proofs.YtibnjlndfoleoagDoor
open Go.RowKit

end Go.Proofs.YtibnjlndfoleoagDoor
