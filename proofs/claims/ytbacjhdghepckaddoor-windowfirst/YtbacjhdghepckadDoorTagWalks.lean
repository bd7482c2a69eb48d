/-
  What the calls of package tag come to, said of cells: fits, fold, Of, Make, Check.
-/
import Derived.Test.YtbacjhdghepckadDoorBase
import Derived.Test.YtbacjhdghepckadDoorTagMath
namespace Go.Proofs.YtbacjhdghepckadDoor
open Go.RowKit

end Go.Proofs.YtbacjhdghepckadDoor
