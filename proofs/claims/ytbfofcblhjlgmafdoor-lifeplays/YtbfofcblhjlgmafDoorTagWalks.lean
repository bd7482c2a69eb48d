/-
  What the calls of package tag come to, said of cells: fits, fold, Of, Make, Check.
-/
import Derived.Test.YtbfofcblhjlgmafDoorBase
import Derived.Test.YtbfofcblhjlgmafDoorTagMath
namespace Go.Proofs.YtbfofcblhjlgmafDoor
open Go.RowKit

end Go.Proofs.YtbfofcblhjlgmafDoor
