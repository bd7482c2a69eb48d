/-
  What the reference's Ring, Turn and Key come to.
-/
import Derived.Test.YtfhpfdlbgmgclakDoorRefTag
import Derived.Test.YtfhpfdlbgmgclakDoorRingWalks
import Derived.Deep.RegionHeld3
import Derived.Deep.DrawnRows
namespace Go.Proofs.YtfhpfdlbgmgclakDoor
open Go.RowKit
attribute [local go_sem ↓] Go.wp_at_zero Go.wp_at_succ



end Go.Proofs.YtfhpfdlbgmgclakDoor
