/-
  What the calls of package tag come to, said of cells: fits, fold, Of, Make, Check.
-/
import Derived.Test.YtholccdkmgpjladDoorBase
import Derived.Test.YtholccdkmgpjladDoorTagMath
namespace Go.Proofs.YtholccdkmgpjladDoor
open Go.RowKit

end Go.Proofs.YtholccdkmgpjladDoor
