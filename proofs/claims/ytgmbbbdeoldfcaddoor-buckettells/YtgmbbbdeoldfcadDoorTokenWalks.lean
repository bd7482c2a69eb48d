/-
  What the calls of package token come to, said of a ring's and a token's numbers: IsTime, fits, Make, Check.
-/
import Derived.Test.YtgmbbbdeoldfcadDoorRingWalks
import Derived.Test.YtgmbbbdeoldfcadDoorTokenMath
namespace Go.Proofs.YtgmbbbdeoldfcadDoor
open Go.RowKit


theorem time_any (n : Int) (w : World) : Calls Tryd.prog 14 #[.int .i64 n] w fun e w' => e = .returned (.bool (TokenM.timeB n)) ∧ w' = w := by
  by_cases h0 : 0 ≤ n
  · by_cases h1 : n ≤ 100000
    · rw [(TokenM.timeB_iff n).2 ⟨h0, h1⟩]
      go_enter Tryd.func14, Tryd.ntmps14
      go_wp2
      go_ret
      exact ⟨rfl, rfl⟩
    · rw [(TokenM.timeB_not n).2 (by omega)]
      go_enter Tryd.func14, Tryd.ntmps14
      go_wp2
      go_ret
      exact ⟨rfl, rfl⟩
  · rw [(TokenM.timeB_not n).2 (by omega)]
    go_enter Tryd.func14, Tryd.ntmps14
    go_wp2
    go_ret
    exact ⟨rfl, rfl⟩




end Go.Proofs.YtgmbbbdeoldfcadDoor
