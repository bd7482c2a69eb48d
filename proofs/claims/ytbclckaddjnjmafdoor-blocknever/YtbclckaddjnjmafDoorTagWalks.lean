/-
  What the calls of package tag come to, said of cells: fits, fold, Of, Make, Check.
-/
import Derived.Test.YtbclckaddjnjmafDoorBase
import Derived.Test.YtbclckaddjnjmafDoorTagMath
namespace Go.Proofs.YtbclckaddjnjmafDoor
open Go.RowKit

end Go.Proofs.YtbclckaddjnjmafDoor
