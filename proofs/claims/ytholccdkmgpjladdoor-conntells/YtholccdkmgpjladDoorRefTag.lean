/-
  What the reference's In, Tag and Tagged come to.
-/
import Derived.Test.YtholccdkmgpjladDoorTagWalks
namespace Go.Proofs.YtholccdkmgpjladDoor
open Go.RowKit



end Go.Proofs.YtholccdkmgpjladDoor
