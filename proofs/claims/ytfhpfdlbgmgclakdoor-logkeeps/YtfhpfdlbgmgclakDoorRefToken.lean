/-
  What the reference's Time and Token come to.
-/
import Derived.Test.YtfhpfdlbgmgclakDoorRefRing
import Derived.Test.YtfhpfdlbgmgclakDoorTokenMath
namespace Go.Proofs.YtfhpfdlbgmgclakDoor
open Go.RowKit
attribute [local go_sem ↓] Go.wp_at_zero Go.wp_at_succ

theorem rtime_any (n : Int) (w : World) : Calls Tryd.prog 35 #[.int .i64 n] w fun e w' => e = .returned (.bool (TokenM.timeB n)) ∧ w' = w := by
  by_cases h0 : 0 ≤ n
  · by_cases h1 : n ≤ 100000
    · rw [(TokenM.timeB_iff n).2 ⟨h0, h1⟩]
      go_enter Tryd.func35, Tryd.ntmps35
      go_wp2
      go_ret
      exact ⟨rfl, rfl⟩
    · rw [(TokenM.timeB_not n).2 (by omega)]
      go_enter Tryd.func35, Tryd.ntmps35
      go_wp2
      go_ret
      exact ⟨rfl, rfl⟩
  · rw [(TokenM.timeB_not n).2 (by omega)]
    go_enter Tryd.func35, Tryd.ntmps35
    go_wp2
    go_ret
    exact ⟨rfl, rfl⟩


end Go.Proofs.YtfhpfdlbgmgclakDoor
