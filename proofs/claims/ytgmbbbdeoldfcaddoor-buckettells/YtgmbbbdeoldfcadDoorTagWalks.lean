/-
  What the calls of package tag come to, said of cells: fits, fold, Of, Make, Check.
-/
import Derived.Test.YtgmbbbdeoldfcadDoorBase
import Derived.Test.YtgmbbbdeoldfcadDoorTagMath
namespace Go.Proofs.YtgmbbbdeoldfcadDoor
open Go.RowKit

end Go.Proofs.YtgmbbbdeoldfcadDoor
