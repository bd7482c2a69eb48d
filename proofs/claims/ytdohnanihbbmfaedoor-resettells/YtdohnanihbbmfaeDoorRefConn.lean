/-
  What the reference's Bit, Turned, Conn and Number come to.
-/
import Derived.Test.YtdohnanihbbmfaeDoorRingWalks
import Derived.Test.YtdohnanihbbmfaeDoorConnMath
namespace Go.Proofs.YtdohnanihbbmfaeDoor
open Go.RowKit

set_option maxHeartbeats 800000 in
theorem cbit_any {B : Int} (k : Nat) (w : World) (h0 : 0 ≤ B) (h1 : B ≤ 65535) (hk : k ≤ 64) :
    Calls Tryd.prog 16 #[.int .i64 B, .int .i64 k] w fun e w' => e = .returned (.bool (ConnM.bit B k)) ∧ w' = w := by
  have HE := hide (ConnM.bit_div h0 k)
  generalize ConnM.bit B k = E at HE ⊢
  go_enter Tryd.func16, Tryd.ntmps16
  go_wp2
  go_loop [0, 5] (fun n i => ∃ j : Nat, j ≤ k ∧ i = .int .i64 j ∧ n = .int .i64 (B / 2 ^ j)) (fun _ i => k - (intOf i).toNat)
  case atStart => exact ⟨0, Nat.zero_le _, rfl, by simp⟩
  case round =>
    obtain ⟨j, hj, rfl, rfl⟩ := hrel
    obtain ⟨d0, d1⟩ := ConnM.div_in h0 (show B ≤ 4294967295 by omega) j
    by_cases hlt : j < k
    · have HS := hide (ConnM.div_step B j)
      clear HE
      generalize B / 2 ^ j = q at d0 d1 HS ⊢
      go_wp2
      go_round
      case rel => exact ⟨j + 1, by omega, by go_num, by rw [unhide HS]⟩
      case measure => simp [intOf]; omega
    · obtain rfl : j = k := by omega
      generalize B / 2 ^ j = q at d0 d1 HE ⊢
      go_wp2
      go_ret
      exact ⟨by rw [unhide HE]; simp; rfl, rfl⟩

set_option maxHeartbeats 1600000 in
set_option maxRecDepth 8000 in
theorem rturned_any {n : Int} (w : World) (h0 : 0 ≤ n) (h1 : n ≤ 65535) : Calls Tryd.prog 11 #[.int .i64 n] w fun e w' => e = .returned (.int .i64 (ConnM.turn n)) ∧ w' = w := by
  have CB := hide (fun (k : Nat) (hk : k ≤ 64) w => cbit_any (B := n) k w h0 h1 hk)
  have HT := hide (ConnM.upto_all h1)
  have HU := hide (fun k => ConnM.upto_in h1 k)
  have HS := hide (fun (k : Nat) (hk : k < 16) => ConnM.upto_step (x := n) hk)
  have HZ := hide (ConnM.upto_zero n)
  generalize ConnM.upto n = up at HT HU HS HZ
  generalize ConnM.turn n = E at HT ⊢
  generalize ConnM.bit n = bt at CB HS
  go_enter Tryd.func11, Tryd.ntmps11
  go_wp2
  go_loop [3, 4, 5] (fun out p k => ∃ j : Nat, j ≤ 16 ∧ k = .int .i64 j ∧ p = .int .i64 (2 ^ j) ∧ out = .int .i64 (up j)) (fun _ _ k => 16 - (intOf k).toNat)
  case atStart => exact ⟨0, Nat.zero_le _, rfl, rfl, by rw [unhide HZ]⟩
  case round =>
    obtain ⟨j, hj, rfl, rfl, rfl⟩ := hrel
    by_cases hj16 : (j : Int) < 16
    · have HP := hide (show (2 : Int) ^ (j + 1) = 2 * 2 ^ j by rw [Int.pow_succ, Int.mul_comm])
      have hp1 : (2 : Int) ^ j ≤ 65536 := ConnM.pow16 (by omega)
      have hp0 : 0 ≤ (2 : Int) ^ j := Int.le_of_lt (Int.pow_pos (by decide))
      obtain ⟨hs0, hs1⟩ := unhide HU j
      have HI := hide (unhide HS j (by omega))
      have CJ := hide (unhide CB j (by omega))
      generalize bt j = q at CJ HI
      generalize hs : up j = s at hs0 hs1 HI
      clear hs
      generalize (2 : Int) ^ j = p at hp0 hp1 HI HP ⊢
      by_cases h2 : (j : Int) % 2 = 0
      · rw [show decide (j % 2 = 0) = true by simp; omega] at HI
        have h2b : ((j : Int) % 2 == 0) = true := by simp [h2]
        cases q with
        | true =>
          have HI' := hide (show up (j + 1) = s by rw [unhide HI]; simp)
          clear HI
          go_wp2_with fail
          refine (unhide CJ _).mono ?_
          rintro e w' ⟨rfl, rfl⟩
          go_wp2
          go_round
          case rel => exact ⟨j + 1, by omega, by go_num, by rw [unhide HP], by rw [unhide HI']⟩
          case measure => simp [intOf]; omega
        | false =>
          have HI' := hide (show up (j + 1) = s + p by rw [unhide HI]; simp)
          clear HI
          go_wp2_with fail
          refine (unhide CJ _).mono ?_
          rintro e w' ⟨rfl, rfl⟩
          go_wp2
          go_round
          case rel => exact ⟨j + 1, by omega, by go_num, by rw [unhide HP], by rw [unhide HI']⟩
          case measure => simp [intOf]; omega
      · rw [show decide (j % 2 = 0) = false by simp; omega] at HI
        have h2b : ((j : Int) % 2 == 0) = false := by simp [h2]
        cases q with
        | true =>
          have HI' := hide (show up (j + 1) = s + p by rw [unhide HI]; simp)
          clear HI
          go_wp2_with fail
          refine (unhide CJ _).mono ?_
          rintro e w' ⟨rfl, rfl⟩
          go_wp2
          go_round
          case rel => exact ⟨j + 1, by omega, by go_num, by rw [unhide HP], by rw [unhide HI']⟩
          case measure => simp [intOf]; omega
        | false =>
          have HI' := hide (show up (j + 1) = s by rw [unhide HI]; simp)
          clear HI
          go_wp2_with fail
          refine (unhide CJ _).mono ?_
          rintro e w' ⟨rfl, rfl⟩
          go_wp2
          go_round
          case rel => exact ⟨j + 1, by omega, by go_num, by rw [unhide HP], by rw [unhide HI']⟩
          case measure => simp [intOf]; omega
    · obtain rfl : j = 16 := by omega
      rw [unhide HT]
      clear HS HU CB
      go_wp2
      go_ret
      exact ⟨rfl, rfl⟩

theorem rnumber_any {s m : Int} (w : World) (h0 : 0 ≤ s) (h1 : s ≤ 15) (h2 : 0 ≤ m) (h3 : m ≤ 4095) : Calls Tryd.prog 7 #[.agg #[.int .i64 s, .int .i64 m]] w fun e w' => e = .returned (.int .i64 (ConnM.turn (4096 * s + m))) ∧ Below w.heap.size w w' := by
  have C := hide (fun w => rturned_any (n := 4096 * s + m) w (by omega) (by omega))
  generalize ConnM.turn (4096 * s + m) = x at C ⊢
  go_enter Tryd.func7, Tryd.ntmps7
  go_wp2_with fail
  refine (unhide C _).mono ?_
  rintro e w' ⟨rfl, rfl⟩
  go_wp2
  go_ret
  exact ⟨rfl, (by (repeat' (first | exact Below.refl _ _ | refine Below.alloc ?_ ?_ _ | refine Below.setCell ?_ ?_ _ | refine Below.drew ?_)); all_goals (first | exact Nat.le_refl _ | omega | (simp; done) | (simp; omega)))⟩

set_option maxHeartbeats 1600000 in
theorem rconn_any (s m : Int) (w : World) : Calls Tryd.prog 5 #[.agg #[.int .i64 s, .int .i64 m]] w fun e w' => e = .returned (.bool (ConnM.bad s m == 0)) ∧ Below w.heap.size w w' := by
  by_cases h1 : s < 0
  · rw [show (ConnM.bad s m == 0) = false by rw [ConnM.bad_one.2 (by omega)]; rfl]
    go_enter Tryd.func5, Tryd.ntmps5
    go_wp2
    go_ret
    exact ⟨rfl, (by (repeat' (first | exact Below.refl _ _ | refine Below.alloc ?_ ?_ _ | refine Below.setCell ?_ ?_ _ | refine Below.drew ?_)); all_goals (first | exact Nat.le_refl _ | omega | (simp; done) | (simp; omega)))⟩
  · skip
    by_cases h2 : 15 < s
    · rw [show (ConnM.bad s m == 0) = false by rw [ConnM.bad_one.2 (by omega)]; rfl]
      go_enter Tryd.func5, Tryd.ntmps5
      go_wp2
      go_ret
      exact ⟨rfl, (by (repeat' (first | exact Below.refl _ _ | refine Below.alloc ?_ ?_ _ | refine Below.setCell ?_ ?_ _ | refine Below.drew ?_)); all_goals (first | exact Nat.le_refl _ | omega | (simp; done) | (simp; omega)))⟩
    · skip
      by_cases h3 : m < 0
      · rw [show (ConnM.bad s m == 0) = false by rw [ConnM.bad_one.2 (by omega)]; rfl]
        go_enter Tryd.func5, Tryd.ntmps5
        go_wp2
        go_ret
        exact ⟨rfl, (by (repeat' (first | exact Below.refl _ _ | refine Below.alloc ?_ ?_ _ | refine Below.setCell ?_ ?_ _ | refine Below.drew ?_)); all_goals (first | exact Nat.le_refl _ | omega | (simp; done) | (simp; omega)))⟩
      · skip
        have hm : (ConnM.bad s m == 0) = decide (m ≤ 4095) := by
          by_cases h4 : m ≤ 4095
          · rw [ConnM.bad_zero.2 (by omega)]; simp [h4]
          · rw [ConnM.bad_one.2 (by omega)]; simp [h4]
        rw [hm]
        clear hm
        go_enter Tryd.func5, Tryd.ntmps5
        go_wp2
        go_ret
        exact ⟨rfl, (by (repeat' (first | exact Below.refl _ _ | refine Below.alloc ?_ ?_ _ | refine Below.setCell ?_ ?_ _ | refine Below.drew ?_)); all_goals (first | exact Nat.le_refl _ | omega | (simp; done) | (simp; omega)))⟩
end Go.Proofs.YtdohnanihbbmfaeDoor
