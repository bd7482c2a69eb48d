/-
  What the calls of package ring come to, said of a ring's three numbers: isEpoch, New, Check, Turn, Key.
-/
import Derived.Test.YtfhpfdlbgmgclajDoorTagWalks
import Derived.Test.YtfhpfdlbgmgclajDoorRingMath
namespace Go.Proofs.YtfhpfdlbgmgclajDoor
open Go.RowKit

/-- An error by its number: 0 is none. -/
def errV (n : Int) : Value := if n = 0 then .nilIface else .iface 39 (.int .i64 n)
theorem errV_zero {n : Int} (h : n = 0) : errV n = .nilIface := if_pos h
theorem errV_pos {n : Int} (h : ¬ n = 0) : errV n = .iface 39 (.int .i64 n) := if_neg h
/-- A ring by its three numbers. -/
def ringV (ep key old : Int) : Value := .agg #[.int .i64 ep, .int .i64 key, .int .i64 old]



end Go.Proofs.YtfhpfdlbgmgclajDoor
