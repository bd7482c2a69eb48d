/-
  What the calls of package conn come to, said of a conn's two numbers: Number, Of, Route.
-/
import Derived.Test.YtimilfnbbimipajGreatDoorRingWalks
import Derived.Test.YtimilfnbbimipajGreatDoorConnMath
namespace Go.Proofs.YtimilfnbbimipajGreatDoor
open Go.RowKit

set_option maxHeartbeats 1600000 in
set_option maxRecDepth 8000 in
theorem cnumber_any (s m : Int) (w : World) : Calls Tryz.prog 79 #[.agg #[.int .i64 s, .int .i64 m]] w fun e w' => e = .returned (.tuple #[.int .i64 (ConnM.told (ConnM.bad s m) (ConnM.turn (4096 * s + m))), errV (ConnM.bad s m)]) ∧ Below w.heap.size w w' := by
  by_cases h1 : s < 0
  · rw [ConnM.bad_one.2 (by omega), ConnM.told_pos (by omega), errV_pos (by omega)]
    go_enter Tryz.func79, Tryz.ntmps79
    go_wp2
    exact bodyPost_ret (v := .tuple #[.int .i64 0, .iface 71 (.int .i64 1)]) (by simp [results, Tryz.results79, go_sem]) rfl ⟨rfl, (by (repeat' (first | exact Below.refl _ _ | refine Below.alloc ?_ ?_ _ | refine Below.setCell ?_ ?_ _ | refine Below.drew ?_)); all_goals (first | exact Nat.le_refl _ | omega | (simp; done) | (simp; omega)))⟩
  · skip
    by_cases h2 : 16 ≤ s
    · rw [ConnM.bad_one.2 (by omega), ConnM.told_pos (by omega), errV_pos (by omega)]
      go_enter Tryz.func79, Tryz.ntmps79
      go_wp2
      exact bodyPost_ret (v := .tuple #[.int .i64 0, .iface 71 (.int .i64 1)]) (by simp [results, Tryz.results79, go_sem]) rfl ⟨rfl, (by (repeat' (first | exact Below.refl _ _ | refine Below.alloc ?_ ?_ _ | refine Below.setCell ?_ ?_ _ | refine Below.drew ?_)); all_goals (first | exact Nat.le_refl _ | omega | (simp; done) | (simp; omega)))⟩
    · skip
      by_cases h3 : m < 0
      · rw [ConnM.bad_one.2 (by omega), ConnM.told_pos (by omega), errV_pos (by omega)]
        go_enter Tryz.func79, Tryz.ntmps79
        go_wp2
        exact bodyPost_ret (v := .tuple #[.int .i64 0, .iface 71 (.int .i64 1)]) (by simp [results, Tryz.results79, go_sem]) rfl ⟨rfl, (by (repeat' (first | exact Below.refl _ _ | refine Below.alloc ?_ ?_ _ | refine Below.setCell ?_ ?_ _ | refine Below.drew ?_)); all_goals (first | exact Nat.le_refl _ | omega | (simp; done) | (simp; omega)))⟩
      · skip
        by_cases h4 : 4096 ≤ m
        · rw [ConnM.bad_one.2 (by omega), ConnM.told_pos (by omega), errV_pos (by omega)]
          go_enter Tryz.func79, Tryz.ntmps79
          go_wp2
          exact bodyPost_ret (v := .tuple #[.int .i64 0, .iface 71 (.int .i64 1)]) (by simp [results, Tryz.results79, go_sem]) rfl ⟨rfl, (by (repeat' (first | exact Below.refl _ _ | refine Below.alloc ?_ ?_ _ | refine Below.setCell ?_ ?_ _ | refine Below.drew ?_)); all_goals (first | exact Nat.le_refl _ | omega | (simp; done) | (simp; omega)))⟩
        · skip
          rw [ConnM.bad_zero.2 (by omega), ConnM.told_zero rfl, errV_zero rfl]
          have hx := ConnM.xor_eq (x := 4096 * s + m) (by omega) (by omega)
          rw [Int.mul_comm 4096 s] at hx ⊢
          generalize ConnM.turn (s * 4096 + m) = x at hx ⊢
          go_enter Tryz.func79, Tryz.ntmps79
          go_wp2
          exact bodyPost_ret (v := .tuple #[.int .i64 x, .nilIface]) (by simp [results, Tryz.results79, go_sem]) rfl ⟨rfl, (by (repeat' (first | exact Below.refl _ _ | refine Below.alloc ?_ ?_ _ | refine Below.setCell ?_ ?_ _ | refine Below.drew ?_)); all_goals (first | exact Nat.le_refl _ | omega | (simp; done) | (simp; omega)))⟩

end Go.Proofs.YtimilfnbbimipajGreatDoor
