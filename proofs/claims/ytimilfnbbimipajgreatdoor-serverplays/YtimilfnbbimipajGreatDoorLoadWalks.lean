/-
  What the calls of package load come to: Level, Needs; and what the document's answer is.
-/
import Derived.Test.YtimilfnbbimipajGreatDoorLoadMath
namespace Go.Proofs.YtimilfnbbimipajGreatDoor
open Go.RowKit

set_option maxHeartbeats 1600000 in
theorem level_any (n : Int) (w : World) : Calls Tryz.prog 77 #[.int .i64 n] w fun e w' => e = .returned (.tuple #[.int .i64 (LoadM.level n), errV (LoadM.err n)]) ∧ w' = w := by
  rcases LoadM.five n with k | k | k | k | rfl
  · rw [LoadM.err_bad (.inl k), LoadM.level_bad (.inl k), errV_pos (by omega)]
    go_enter Tryz.func77, Tryz.ntmps77
    go_wp2
    exact bodyPost_ret (v := .tuple #[.int .i64 0, .iface 71 (.int .i64 1)]) (by simp [results, Tryz.results77, go_sem]) rfl ⟨rfl, rfl⟩
  · rw [LoadM.err_bad (.inr k), LoadM.level_bad (.inr k), errV_pos (by omega)]
    have k0 : ¬ n < 0 := by omega
    go_enter Tryz.func77, Tryz.ntmps77
    go_wp2
    exact bodyPost_ret (v := .tuple #[.int .i64 0, .iface 71 (.int .i64 1)]) (by simp [results, Tryz.results77, go_sem]) rfl ⟨rfl, rfl⟩
  · rw [LoadM.err_good k.1 (by omega), LoadM.level_calm k.1 k.2, errV_zero rfl]
    obtain ⟨k0, k1⟩ := k
    have k2 : ¬ n < 0 := by omega
    have k3 : ¬ 8 < n := by omega
    go_enter Tryz.func77, Tryz.ntmps77
    go_wp2
    exact bodyPost_ret (v := .tuple #[.int .i64 0, .nilIface]) (by simp [results, Tryz.results77, go_sem]) rfl ⟨rfl, rfl⟩
  · rw [LoadM.err_good (by omega) (by omega), LoadM.level_pressed k.1 k.2, errV_zero rfl]
    obtain ⟨k0, k1⟩ := k
    have k2 : ¬ n < 0 := by omega
    have k3 : ¬ 8 < n := by omega
    have k4 : ¬ n < 4 := by omega
    have k5 : ¬ n = 8 := by omega
    go_enter Tryz.func77, Tryz.ntmps77
    go_wp2
    exact bodyPost_ret (v := .tuple #[.int .i64 1, .nilIface]) (by simp [results, Tryz.results77, go_sem]) rfl ⟨rfl, rfl⟩
  · rw [LoadM.err_good (by omega) (by omega), LoadM.level_full, errV_zero rfl]
    go_enter Tryz.func77, Tryz.ntmps77
    go_wp2
    exact bodyPost_ret (v := .tuple #[.int .i64 2, .nilIface]) (by simp [results, Tryz.results77, go_sem]) rfl ⟨rfl, rfl⟩


set_option maxHeartbeats 3200000 in
theorem needs_any (n : Int) (t o : Bool) (w : World) : Calls Tryz.prog 59 #[.int .i64 n, .bool t, .bool o] w fun e w' => e = .returned (.tuple #[.int .i64 (LoadM.kind n t o), errV (LoadM.err n)]) ∧ w' = w := by
  rcases LoadM.five n with k | k | k | k | rfl
  · have C := hide (fun w => level_any n w)
    rw [LoadM.err_bad (.inl k), LoadM.level_bad (.inl k), errV_pos (by omega)] at C
    rw [LoadM.err_bad (.inl k), LoadM.kind_bad (.inl k), errV_pos (by omega)]
    go_enter Tryz.func59, Tryz.ntmps59
    go_wp2_with fail
    refine (unhide C _).mono ?_
    rintro e w' ⟨rfl, rfl⟩
    go_wp2
    exact bodyPost_ret (v := .tuple #[.int .i64 0, .iface 71 (.int .i64 1)]) (by simp [results, Tryz.results59, go_sem]) rfl ⟨rfl, rfl⟩
  · have C := hide (fun w => level_any n w)
    rw [LoadM.err_bad (.inr k), LoadM.level_bad (.inr k), errV_pos (by omega)] at C
    rw [LoadM.err_bad (.inr k), LoadM.kind_bad (.inr k), errV_pos (by omega)]
    have k0 : ¬ n < 0 := by omega
    go_enter Tryz.func59, Tryz.ntmps59
    go_wp2_with fail
    refine (unhide C _).mono ?_
    rintro e w' ⟨rfl, rfl⟩
    go_wp2
    exact bodyPost_ret (v := .tuple #[.int .i64 0, .iface 71 (.int .i64 1)]) (by simp [results, Tryz.results59, go_sem]) rfl ⟨rfl, rfl⟩
  · have C := hide (fun w => level_any n w)
    rw [LoadM.err_good k.1 (by omega), LoadM.level_calm k.1 k.2, errV_zero rfl] at C
    rw [LoadM.err_good k.1 (by omega), LoadM.kind_calm k.1 k.2, errV_zero rfl]
    obtain ⟨k0, k1⟩ := k
    have k2 : ¬ n < 0 := by omega
    have k3 : ¬ 8 < n := by omega
    go_enter Tryz.func59, Tryz.ntmps59
    go_wp2_with fail
    refine (unhide C _).mono ?_
    rintro e w' ⟨rfl, rfl⟩
    go_wp2
    exact bodyPost_ret (v := .tuple #[.int .i64 1, .nilIface]) (by simp [results, Tryz.results59, go_sem]) rfl ⟨rfl, rfl⟩
  · have C := hide (fun w => level_any n w)
    rw [LoadM.err_good (by omega) (by omega), LoadM.level_pressed k.1 k.2, errV_zero rfl] at C
    cases t
    · cases o
      · rw [LoadM.err_good (by omega) (by omega), LoadM.kind_bare k.1 k.2, errV_zero rfl]
        obtain ⟨k0, k1⟩ := k
        have k2 : ¬ n < 0 := by omega
        have k3 : ¬ 8 < n := by omega
        have k4 : ¬ n < 4 := by omega
        have k5 : ¬ n = 8 := by omega
        go_enter Tryz.func59, Tryz.ntmps59
        go_wp2_with fail
        refine (unhide C _).mono ?_
        rintro e w' ⟨rfl, rfl⟩
        go_wp2
        exact bodyPost_ret (v := .tuple #[.int .i64 0, .nilIface]) (by simp [results, Tryz.results59, go_sem]) rfl ⟨rfl, rfl⟩
      · rw [LoadM.err_good (by omega) (by omega), LoadM.kind_shown k.1 k.2 (.inr rfl), errV_zero rfl]
        obtain ⟨k0, k1⟩ := k
        have k2 : ¬ n < 0 := by omega
        have k3 : ¬ 8 < n := by omega
        have k4 : ¬ n < 4 := by omega
        have k5 : ¬ n = 8 := by omega
        go_enter Tryz.func59, Tryz.ntmps59
        go_wp2_with fail
        refine (unhide C _).mono ?_
        rintro e w' ⟨rfl, rfl⟩
        go_wp2
        exact bodyPost_ret (v := .tuple #[.int .i64 1, .nilIface]) (by simp [results, Tryz.results59, go_sem]) rfl ⟨rfl, rfl⟩
    · cases o
      · rw [LoadM.err_good (by omega) (by omega), LoadM.kind_shown k.1 k.2 (.inl rfl), errV_zero rfl]
        obtain ⟨k0, k1⟩ := k
        have k2 : ¬ n < 0 := by omega
        have k3 : ¬ 8 < n := by omega
        have k4 : ¬ n < 4 := by omega
        have k5 : ¬ n = 8 := by omega
        go_enter Tryz.func59, Tryz.ntmps59
        go_wp2_with fail
        refine (unhide C _).mono ?_
        rintro e w' ⟨rfl, rfl⟩
        go_wp2
        exact bodyPost_ret (v := .tuple #[.int .i64 1, .nilIface]) (by simp [results, Tryz.results59, go_sem]) rfl ⟨rfl, rfl⟩
      · rw [LoadM.err_good (by omega) (by omega), LoadM.kind_shown k.1 k.2 (.inl rfl), errV_zero rfl]
        obtain ⟨k0, k1⟩ := k
        have k2 : ¬ n < 0 := by omega
        have k3 : ¬ 8 < n := by omega
        have k4 : ¬ n < 4 := by omega
        have k5 : ¬ n = 8 := by omega
        go_enter Tryz.func59, Tryz.ntmps59
        go_wp2_with fail
        refine (unhide C _).mono ?_
        rintro e w' ⟨rfl, rfl⟩
        go_wp2
        exact bodyPost_ret (v := .tuple #[.int .i64 1, .nilIface]) (by simp [results, Tryz.results59, go_sem]) rfl ⟨rfl, rfl⟩
  · have C := hide (fun w => level_any 8 w)
    rw [LoadM.err_good (by omega) (by omega), LoadM.level_full, errV_zero rfl] at C
    rw [LoadM.err_good (by omega) (by omega), LoadM.kind_full, errV_zero rfl]
    go_enter Tryz.func59, Tryz.ntmps59
    go_wp2_with fail
    refine (unhide C _).mono ?_
    rintro e w' ⟨rfl, rfl⟩
    go_wp2
    exact bodyPost_ret (v := .tuple #[.int .i64 2, .nilIface]) (by simp [results, Tryz.results59, go_sem]) rfl ⟨rfl, rfl⟩

set_option maxHeartbeats 3200000 in
theorem rneeds_any (n : Int) (t o : Bool) (w : World) : Calls Tryz.prog 52 #[.int .i64 n, .bool t, .bool o] w fun e w' => e = .returned (.tuple #[.int .i64 (LoadM.kind n t o), .int .i64 (LoadM.err n)]) ∧ w' = w := by
  rcases LoadM.five n with k | k | k | k | rfl
  · rw [LoadM.err_bad (.inl k), LoadM.kind_bad (.inl k)]
    go_enter Tryz.func52, Tryz.ntmps52
    go_wp2
    exact bodyPost_ret (v := .tuple #[.int .i64 0, .int .i64 1]) (by simp [results, Tryz.results52, go_sem]) rfl ⟨rfl, rfl⟩
  · rw [LoadM.err_bad (.inr k), LoadM.kind_bad (.inr k)]
    have k0 : ¬ n < 0 := by omega
    go_enter Tryz.func52, Tryz.ntmps52
    go_wp2
    exact bodyPost_ret (v := .tuple #[.int .i64 0, .int .i64 1]) (by simp [results, Tryz.results52, go_sem]) rfl ⟨rfl, rfl⟩
  · rw [LoadM.err_good k.1 (by omega), LoadM.kind_calm k.1 k.2]
    obtain ⟨k0, k1⟩ := k
    have k2 : ¬ n < 0 := by omega
    have k3 : ¬ 8 < n := by omega
    go_enter Tryz.func52, Tryz.ntmps52
    go_wp2
    exact bodyPost_ret (v := .tuple #[.int .i64 1, .int .i64 0]) (by simp [results, Tryz.results52, go_sem]) rfl ⟨rfl, rfl⟩
  · cases t
    · cases o
      · rw [LoadM.err_good (by omega) (by omega), LoadM.kind_bare k.1 k.2]
        obtain ⟨k0, k1⟩ := k
        have k2 : ¬ n < 0 := by omega
        have k3 : ¬ 8 < n := by omega
        have k4 : ¬ n < 4 := by omega
        have k5 : ¬ n = 8 := by omega
        go_enter Tryz.func52, Tryz.ntmps52
        go_wp2
        exact bodyPost_ret (v := .tuple #[.int .i64 0, .int .i64 0]) (by simp [results, Tryz.results52, go_sem]) rfl ⟨rfl, rfl⟩
      · rw [LoadM.err_good (by omega) (by omega), LoadM.kind_shown k.1 k.2 (.inr rfl)]
        obtain ⟨k0, k1⟩ := k
        have k2 : ¬ n < 0 := by omega
        have k3 : ¬ 8 < n := by omega
        have k4 : ¬ n < 4 := by omega
        have k5 : ¬ n = 8 := by omega
        go_enter Tryz.func52, Tryz.ntmps52
        go_wp2
        exact bodyPost_ret (v := .tuple #[.int .i64 1, .int .i64 0]) (by simp [results, Tryz.results52, go_sem]) rfl ⟨rfl, rfl⟩
    · cases o
      · rw [LoadM.err_good (by omega) (by omega), LoadM.kind_shown k.1 k.2 (.inl rfl)]
        obtain ⟨k0, k1⟩ := k
        have k2 : ¬ n < 0 := by omega
        have k3 : ¬ 8 < n := by omega
        have k4 : ¬ n < 4 := by omega
        have k5 : ¬ n = 8 := by omega
        go_enter Tryz.func52, Tryz.ntmps52
        go_wp2
        exact bodyPost_ret (v := .tuple #[.int .i64 1, .int .i64 0]) (by simp [results, Tryz.results52, go_sem]) rfl ⟨rfl, rfl⟩
      · rw [LoadM.err_good (by omega) (by omega), LoadM.kind_shown k.1 k.2 (.inl rfl)]
        obtain ⟨k0, k1⟩ := k
        have k2 : ¬ n < 0 := by omega
        have k3 : ¬ 8 < n := by omega
        have k4 : ¬ n < 4 := by omega
        have k5 : ¬ n = 8 := by omega
        go_enter Tryz.func52, Tryz.ntmps52
        go_wp2
        exact bodyPost_ret (v := .tuple #[.int .i64 1, .int .i64 0]) (by simp [results, Tryz.results52, go_sem]) rfl ⟨rfl, rfl⟩
  · rw [LoadM.err_good (by omega) (by omega), LoadM.kind_full]
    go_enter Tryz.func52, Tryz.ntmps52
    go_wp2
    exact bodyPost_ret (v := .tuple #[.int .i64 2, .int .i64 0]) (by simp [results, Tryz.results52, go_sem]) rfl ⟨rfl, rfl⟩
end Go.Proofs.YtimilfnbbimipajGreatDoor
