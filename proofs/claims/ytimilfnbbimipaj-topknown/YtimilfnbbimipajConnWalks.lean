/-
  What the calls of package conn come to, said of a conn's two numbers: Number, Of, Route.
-/
import Derived.Test.YtimilfnbbimipajRingWalks
import Derived.Test.YtimilfnbbimipajConnMath
namespace Go.Proofs.Ytimilfnbbimipaj
open Go.RowKit

set_option maxHeartbeats 1600000 in
set_option maxRecDepth 8000 in
theorem cnumber_any (s m : Int) (w : World) : Calls Try.prog 12 #[.agg #[.int .i64 s, .int .i64 m]] w fun e w' => e = .returned (.tuple #[.int .i64 (ConnM.told (ConnM.bad s m) (ConnM.turn (4096 * s + m))), errV (ConnM.bad s m)]) ∧ Below w.heap.size w w' := by
  by_cases h1 : s < 0
  · rw [ConnM.bad_one.2 (by omega), ConnM.told_pos (by omega), errV_pos (by omega)]
    go_enter Try.func12, Try.ntmps12
    go_wp2
    exact bodyPost_ret (v := .tuple #[.int .i64 0, .iface 59 (.int .i64 1)]) (by simp [results, Try.results12, go_sem]) rfl ⟨rfl, (by (repeat' (first | exact Below.refl _ _ | refine Below.alloc ?_ ?_ _ | refine Below.setCell ?_ ?_ _ | refine Below.drew ?_)); all_goals (first | exact Nat.le_refl _ | omega | (simp; done) | (simp; omega)))⟩
  · skip
    by_cases h2 : 16 ≤ s
    · rw [ConnM.bad_one.2 (by omega), ConnM.told_pos (by omega), errV_pos (by omega)]
      go_enter Try.func12, Try.ntmps12
      go_wp2
      exact bodyPost_ret (v := .tuple #[.int .i64 0, .iface 59 (.int .i64 1)]) (by simp [results, Try.results12, go_sem]) rfl ⟨rfl, (by (repeat' (first | exact Below.refl _ _ | refine Below.alloc ?_ ?_ _ | refine Below.setCell ?_ ?_ _ | refine Below.drew ?_)); all_goals (first | exact Nat.le_refl _ | omega | (simp; done) | (simp; omega)))⟩
    · skip
      by_cases h3 : m < 0
      · rw [ConnM.bad_one.2 (by omega), ConnM.told_pos (by omega), errV_pos (by omega)]
        go_enter Try.func12, Try.ntmps12
        go_wp2
        exact bodyPost_ret (v := .tuple #[.int .i64 0, .iface 59 (.int .i64 1)]) (by simp [results, Try.results12, go_sem]) rfl ⟨rfl, (by (repeat' (first | exact Below.refl _ _ | refine Below.alloc ?_ ?_ _ | refine Below.setCell ?_ ?_ _ | refine Below.drew ?_)); all_goals (first | exact Nat.le_refl _ | omega | (simp; done) | (simp; omega)))⟩
      · skip
        by_cases h4 : 4096 ≤ m
        · rw [ConnM.bad_one.2 (by omega), ConnM.told_pos (by omega), errV_pos (by omega)]
          go_enter Try.func12, Try.ntmps12
          go_wp2
          exact bodyPost_ret (v := .tuple #[.int .i64 0, .iface 59 (.int .i64 1)]) (by simp [results, Try.results12, go_sem]) rfl ⟨rfl, (by (repeat' (first | exact Below.refl _ _ | refine Below.alloc ?_ ?_ _ | refine Below.setCell ?_ ?_ _ | refine Below.drew ?_)); all_goals (first | exact Nat.le_refl _ | omega | (simp; done) | (simp; omega)))⟩
        · skip
          rw [ConnM.bad_zero.2 (by omega), ConnM.told_zero rfl, errV_zero rfl]
          have hx := ConnM.xor_eq (x := 4096 * s + m) (by omega) (by omega)
          rw [Int.mul_comm 4096 s] at hx ⊢
          generalize ConnM.turn (s * 4096 + m) = x at hx ⊢
          go_enter Try.func12, Try.ntmps12
          go_wp2
          exact bodyPost_ret (v := .tuple #[.int .i64 x, .nilIface]) (by simp [results, Try.results12, go_sem]) rfl ⟨rfl, (by (repeat' (first | exact Below.refl _ _ | refine Below.alloc ?_ ?_ _ | refine Below.setCell ?_ ?_ _ | refine Below.drew ?_)); all_goals (first | exact Nat.le_refl _ | omega | (simp; done) | (simp; omega)))⟩

set_option maxHeartbeats 1600000 in
set_option maxRecDepth 8000 in
theorem cof_any (n : Int) (w : World) : Calls Try.prog 35 #[.int .i64 n] w fun e w' => e = .returned (.tuple #[.agg #[.int .i64 (ConnM.told (ConnM.ofErr n) (ConnM.turn n / 4096)), .int .i64 (ConnM.told (ConnM.ofErr n) (ConnM.turn n % 4096))], errV (ConnM.ofErr n)]) ∧ Below w.heap.size w w' := by
  by_cases h1 : n < 0
  · rw [ConnM.of_one.2 (by omega), ConnM.told_pos (by omega), ConnM.told_pos (by omega), errV_pos (by omega)]
    go_enter Try.func35, Try.ntmps35
    go_wp2
    exact bodyPost_ret (v := .tuple #[.agg #[.int .i64 0, .int .i64 0], .iface 59 (.int .i64 1)]) (by simp [results, Try.results35, go_sem]) rfl ⟨rfl, (by (repeat' (first | exact Below.refl _ _ | refine Below.alloc ?_ ?_ _ | refine Below.setCell ?_ ?_ _ | refine Below.drew ?_)); all_goals (first | exact Nat.le_refl _ | omega | (simp; done) | (simp; omega)))⟩
  · skip
    by_cases h2 : 65536 ≤ n
    · rw [ConnM.of_one.2 (by omega), ConnM.told_pos (by omega), ConnM.told_pos (by omega), errV_pos (by omega)]
      go_enter Try.func35, Try.ntmps35
      go_wp2
      exact bodyPost_ret (v := .tuple #[.agg #[.int .i64 0, .int .i64 0], .iface 59 (.int .i64 1)]) (by simp [results, Try.results35, go_sem]) rfl ⟨rfl, (by (repeat' (first | exact Below.refl _ _ | refine Below.alloc ?_ ?_ _ | refine Below.setCell ?_ ?_ _ | refine Below.drew ?_)); all_goals (first | exact Nat.le_refl _ | omega | (simp; done) | (simp; omega)))⟩
    · skip
      rw [ConnM.of_zero.2 (by omega), ConnM.told_zero rfl, ConnM.told_zero rfl, errV_zero rfl]
      have hx := ConnM.xor_eq (x := n) (by omega) (by omega)
      have hx0 := ConnM.turn_lo n
      have hx1 := ConnM.turn_hi (x := n) (by omega)
      generalize ConnM.turn n = x at hx hx0 hx1 ⊢
      go_enter Try.func35, Try.ntmps35
      go_wp2
      exact bodyPost_ret (v := .tuple #[.agg #[.int .i64 (x / 4096), .int .i64 (x % 4096)], .nilIface]) (by simp [results, Try.results35, go_sem]) rfl ⟨rfl, (by (repeat' (first | exact Below.refl _ _ | refine Below.alloc ?_ ?_ _ | refine Below.setCell ?_ ?_ _ | refine Below.drew ?_)); all_goals (first | exact Nat.le_refl _ | omega | (simp; done) | (simp; omega)))⟩

set_option maxHeartbeats 1600000 in
set_option maxRecDepth 8000 in
theorem croute_any (n k : Int) (w : World) : Calls Try.prog 16 #[.int .i64 n, .int .i64 k] w fun e w' => e = .returned (.tuple #[.int .i64 (ConnM.told (ConnM.routeErr n k) (ConnM.turn n / 4096 % k)), errV (ConnM.routeErr n k)]) ∧ Below w.heap.size w w' := by
  have C := hide (fun w => cof_any n w)
  by_cases h0 : n < 0 ∨ 65535 < n
  · rw [ConnM.route_one.2 (by omega), ConnM.told_pos (by omega), errV_pos (by omega)]
    rw [ConnM.of_one.2 h0, ConnM.told_pos (by omega), ConnM.told_pos (by omega), errV_pos (by omega)] at C
    clear h0
    go_enter Try.func16, Try.ntmps16
    go_wp2_with fail
    refine (unhide C _).mono ?_
    rintro e w1 ⟨rfl, hb1⟩
    obtain ⟨hc1, hf1, hz1⟩ := lies hb1
    try simp at hz1
    have HB1 := hide hb1
    clear hb1
    go_wp2
    exact bodyPost_ret (v := .tuple #[.int .i64 0, .iface 59 (.int .i64 1)]) (by simp [results, Try.results16, go_sem]) rfl ⟨rfl, (by (repeat' (first | exact Below.refl _ _ | refine Below.alloc ?_ ?_ _ | refine Below.setCell ?_ ?_ _ | refine Below.drew ?_ | refine Below.trans ?_ (Below.mono (unhide HB1) ?_))); all_goals (first | exact Nat.le_refl _ | omega | (simp; done) | (simp; omega)))⟩
  · rw [ConnM.of_zero.2 (by omega), ConnM.told_zero rfl, ConnM.told_zero rfl, errV_zero rfl] at C
    have hx0 := ConnM.turn_lo n
    have hx1 := ConnM.turn_hi (x := n) (by omega)
    by_cases h1 : k < 1
    · rw [ConnM.route_one.2 (by omega), ConnM.told_pos (by omega), errV_pos (by omega)]
      generalize ConnM.turn n / 4096 = d at C
      generalize ConnM.turn n % 4096 = r at C
      clear h0 hx0 hx1
      go_enter Try.func16, Try.ntmps16
      go_wp2_with fail
      refine (unhide C _).mono ?_
      rintro e w1 ⟨rfl, hb1⟩
      obtain ⟨hc1, hf1, hz1⟩ := lies hb1
      try simp at hz1
      have HB1 := hide hb1
      clear hb1
      go_wp2
      exact bodyPost_ret (v := .tuple #[.int .i64 0, .iface 59 (.int .i64 1)]) (by simp [results, Try.results16, go_sem]) rfl ⟨rfl, (by (repeat' (first | exact Below.refl _ _ | refine Below.alloc ?_ ?_ _ | refine Below.setCell ?_ ?_ _ | refine Below.drew ?_ | refine Below.trans ?_ (Below.mono (unhide HB1) ?_))); all_goals (first | exact Nat.le_refl _ | omega | (simp; done) | (simp; omega)))⟩
    · by_cases h2 : 16 < k
      · rw [ConnM.route_one.2 (by omega), ConnM.told_pos (by omega), errV_pos (by omega)]
        generalize ConnM.turn n / 4096 = d at C
        generalize ConnM.turn n % 4096 = r at C
        clear h0 hx0 hx1
        go_enter Try.func16, Try.ntmps16
        go_wp2_with fail
        refine (unhide C _).mono ?_
        rintro e w1 ⟨rfl, hb1⟩
        obtain ⟨hc1, hf1, hz1⟩ := lies hb1
        try simp at hz1
        have HB1 := hide hb1
        clear hb1
        go_wp2
        exact bodyPost_ret (v := .tuple #[.int .i64 0, .iface 59 (.int .i64 1)]) (by simp [results, Try.results16, go_sem]) rfl ⟨rfl, (by (repeat' (first | exact Below.refl _ _ | refine Below.alloc ?_ ?_ _ | refine Below.setCell ?_ ?_ _ | refine Below.drew ?_ | refine Below.trans ?_ (Below.mono (unhide HB1) ?_))); all_goals (first | exact Nat.le_refl _ | omega | (simp; done) | (simp; omega)))⟩
      · rw [ConnM.route_zero.2 (by omega), ConnM.told_zero rfl, errV_zero rfl]
        have hd0 : 0 ≤ ConnM.turn n / 4096 := by omega
        have hd1 : ConnM.turn n / 4096 ≤ 15 := by omega
        generalize ConnM.turn n / 4096 = d at C hd0 hd1 ⊢
        generalize ConnM.turn n % 4096 = r at C
        have k1 : 1 ≤ k := by omega
        have k2 : k ≤ 16 := by omega
        have k3 : ¬ k = 0 := by omega
        clear h0 hx0 hx1 h1 h2
        go_enter Try.func16, Try.ntmps16
        go_wp2_with fail
        refine (unhide C _).mono ?_
        rintro e w1 ⟨rfl, hb1⟩
        obtain ⟨hc1, hf1, hz1⟩ := lies hb1
        try simp at hz1
        have HB1 := hide hb1
        clear hb1
        go_wp2
        exact bodyPost_ret (v := .tuple #[.int .i64 (d % k), .nilIface]) (by simp [results, Try.results16, go_sem]) rfl ⟨rfl, (by (repeat' (first | exact Below.refl _ _ | refine Below.alloc ?_ ?_ _ | refine Below.setCell ?_ ?_ _ | refine Below.drew ?_ | refine Below.trans ?_ (Below.mono (unhide HB1) ?_))); all_goals (first | exact Nat.le_refl _ | omega | (simp; done) | (simp; omega)))⟩
end Go.Proofs.Ytimilfnbbimipaj
