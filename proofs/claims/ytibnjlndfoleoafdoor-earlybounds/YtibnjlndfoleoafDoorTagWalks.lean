/-
  What the calls of package tag come to, said of cells: fits, fold, Of, Make, Check.
-/
import Derived.Test.YtibnjlndfoleoafDoorBase
import Derived.Test.YtibnjlndfoleoafDoorTagMath
namespace Go.Proofs.YtibnjlndfoleoafDoor
open Go.RowKit

end Go.Proofs.YtibnjlndfoleoafDoor
