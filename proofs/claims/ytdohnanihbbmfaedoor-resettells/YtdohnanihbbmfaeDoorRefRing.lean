/-
  What the reference's Ring, Turn and Key come to.
-/
import Derived.Test.YtdohnanihbbmfaeDoorRefTag
import Derived.Test.YtdohnanihbbmfaeDoorRingWalks
import Derived.Deep.RegionHeld3
import Derived.Deep.DrawnRows
namespace Go.Proofs.YtdohnanihbbmfaeDoor
open Go.RowKit
attribute [local go_sem ↓] Go.wp_at_zero Go.wp_at_succ



end Go.Proofs.YtdohnanihbbmfaeDoor
