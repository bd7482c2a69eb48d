/-
  What the calls of package tag come to, said of cells: fits, fold, Of, Make, Check.
-/
import Derived.Test.YtccphnljogjbiagDoorBase
import Derived.Test.YtccphnljogjbiagDoorTagMath
namespace Go.Proofs.YtccphnljogjbiagDoor
open Go.RowKit

end Go.Proofs.YtccphnljogjbiagDoor
