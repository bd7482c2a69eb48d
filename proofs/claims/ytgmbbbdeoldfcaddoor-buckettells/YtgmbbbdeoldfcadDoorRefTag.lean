/-
  What the reference's In, Tag and Tagged come to.
-/
import Derived.Test.YtgmbbbdeoldfcadDoorTagWalks
namespace Go.Proofs.YtgmbbbdeoldfcadDoor
open Go.RowKit



end Go.Proofs.YtgmbbbdeoldfcadDoor
