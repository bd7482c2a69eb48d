/-
  What the reference's Bit, Turned, Conn and Number come to.
-/
import Derived.Test.YtimilfnbbimipajGreatDoorRingWalks
import Derived.Test.YtimilfnbbimipajGreatDoorConnMath
namespace Go.Proofs.YtimilfnbbimipajGreatDoor
open Go.RowKit


set_option maxHeartbeats 1600000 in
theorem rconn_any (s m : Int) (w : World) : Calls Tryz.prog 53 #[.agg #[.int .i64 s, .int .i64 m]] w fun e w' => e = .returned (.bool (ConnM.bad s m == 0)) ∧ Below w.heap.size w w' := by
  by_cases h1 : s < 0
  · rw [show (ConnM.bad s m == 0) = false by rw [ConnM.bad_one.2 (by omega)]; rfl]
    go_enter Tryz.func53, Tryz.ntmps53
    go_wp2
    go_ret
    exact ⟨rfl, (by (repeat' (first | exact Below.refl _ _ | refine Below.alloc ?_ ?_ _ | refine Below.setCell ?_ ?_ _ | refine Below.drew ?_)); all_goals (first | exact Nat.le_refl _ | omega | (simp; done) | (simp; omega)))⟩
  · skip
    by_cases h2 : 15 < s
    · rw [show (ConnM.bad s m == 0) = false by rw [ConnM.bad_one.2 (by omega)]; rfl]
      go_enter Tryz.func53, Tryz.ntmps53
      go_wp2
      go_ret
      exact ⟨rfl, (by (repeat' (first | exact Below.refl _ _ | refine Below.alloc ?_ ?_ _ | refine Below.setCell ?_ ?_ _ | refine Below.drew ?_)); all_goals (first | exact Nat.le_refl _ | omega | (simp; done) | (simp; omega)))⟩
    · skip
      by_cases h3 : m < 0
      · rw [show (ConnM.bad s m == 0) = false by rw [ConnM.bad_one.2 (by omega)]; rfl]
        go_enter Tryz.func53, Tryz.ntmps53
        go_wp2
        go_ret
        exact ⟨rfl, (by (repeat' (first | exact Below.refl _ _ | refine Below.alloc ?_ ?_ _ | refine Below.setCell ?_ ?_ _ | refine Below.drew ?_)); all_goals (first | exact Nat.le_refl _ | omega | (simp; done) | (simp; omega)))⟩
      · skip
        have hm : (ConnM.bad s m == 0) = decide (m ≤ 4095) := by
          by_cases h4 : m ≤ 4095
          · rw [ConnM.bad_zero.2 (by omega)]; simp [h4]
          · rw [ConnM.bad_one.2 (by omega)]; simp [h4]
        rw [hm]
        clear hm
        go_enter Tryz.func53, Tryz.ntmps53
        go_wp2
        go_ret
        exact ⟨rfl, (by (repeat' (first | exact Below.refl _ _ | refine Below.alloc ?_ ?_ _ | refine Below.setCell ?_ ?_ _ | refine Below.drew ?_)); all_goals (first | exact Nat.le_refl _ | omega | (simp; done) | (simp; omega)))⟩
end Go.Proofs.YtimilfnbbimipajGreatDoor
