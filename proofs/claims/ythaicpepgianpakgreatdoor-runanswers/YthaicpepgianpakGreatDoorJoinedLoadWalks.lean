/-
  Texts joined: LoadWalks RefTag.
-/
import Derived.Test.YthaicpepgianpakGreatDoorJoinedLoadMath
import Derived.Test.YthaicpepgianpakGreatDoorJoinedBase
namespace Go.Proofs.YthaicpepgianpakGreatDoor
open Go.RowKit

set_option maxHeartbeats 1600000 in
theorem level_any (n : Int) (w : World) : Calls Tryz.prog 140 #[.int .i64 n] w fun e w' => e = .returned (.tuple #[.int .i64 (LoadM.level n), errV (LoadM.err n)]) ∧ w' = w := by
  rcases LoadM.five n with k | k | k | k | rfl
  · rw [LoadM.err_bad (.inl k), LoadM.level_bad (.inl k), errV_pos (by omega)]
    go_enter Tryz.func140, Tryz.ntmps140
    go_wp2
    exact bodyPost_ret (v := .tuple #[.int .i64 0, .iface 85 (.int .i64 1)]) (by simp [results, Tryz.results140, go_sem]) rfl ⟨rfl, rfl⟩
  · rw [LoadM.err_bad (.inr k), LoadM.level_bad (.inr k), errV_pos (by omega)]
    have k0 : ¬ n < 0 := by omega
    go_enter Tryz.func140, Tryz.ntmps140
    go_wp2
    exact bodyPost_ret (v := .tuple #[.int .i64 0, .iface 85 (.int .i64 1)]) (by simp [results, Tryz.results140, go_sem]) rfl ⟨rfl, rfl⟩
  · rw [LoadM.err_good k.1 (by omega), LoadM.level_calm k.1 k.2, errV_zero rfl]
    obtain ⟨k0, k1⟩ := k
    have k2 : ¬ n < 0 := by omega
    have k3 : ¬ 8 < n := by omega
    go_enter Tryz.func140, Tryz.ntmps140
    go_wp2
    exact bodyPost_ret (v := .tuple #[.int .i64 0, .nilIface]) (by simp [results, Tryz.results140, go_sem]) rfl ⟨rfl, rfl⟩
  · rw [LoadM.err_good (by omega) (by omega), LoadM.level_pressed k.1 k.2, errV_zero rfl]
    obtain ⟨k0, k1⟩ := k
    have k2 : ¬ n < 0 := by omega
    have k3 : ¬ 8 < n := by omega
    have k4 : ¬ n < 4 := by omega
    have k5 : ¬ n = 8 := by omega
    go_enter Tryz.func140, Tryz.ntmps140
    go_wp2
    exact bodyPost_ret (v := .tuple #[.int .i64 1, .nilIface]) (by simp [results, Tryz.results140, go_sem]) rfl ⟨rfl, rfl⟩
  · rw [LoadM.err_good (by omega) (by omega), LoadM.level_full, errV_zero rfl]
    go_enter Tryz.func140, Tryz.ntmps140
    go_wp2
    exact bodyPost_ret (v := .tuple #[.int .i64 2, .nilIface]) (by simp [results, Tryz.results140, go_sem]) rfl ⟨rfl, rfl⟩


set_option maxHeartbeats 3200000 in
theorem needs_any (n : Int) (t o : Bool) (w : World) : Calls Tryz.prog 114 #[.int .i64 n, .bool t, .bool o] w fun e w' => e = .returned (.tuple #[.int .i64 (LoadM.kind n t o), errV (LoadM.err n)]) ∧ w' = w := by
  rcases LoadM.five n with k | k | k | k | rfl
  · have C := hide (fun w => level_any n w)
    rw [LoadM.err_bad (.inl k), LoadM.level_bad (.inl k), errV_pos (by omega)] at C
    rw [LoadM.err_bad (.inl k), LoadM.kind_bad (.inl k), errV_pos (by omega)]
    go_enter Tryz.func114, Tryz.ntmps114
    go_wp2_with fail
    refine (unhide C _).mono ?_
    rintro e w' ⟨rfl, rfl⟩
    go_wp2
    exact bodyPost_ret (v := .tuple #[.int .i64 0, .iface 85 (.int .i64 1)]) (by simp [results, Tryz.results114, go_sem]) rfl ⟨rfl, rfl⟩
  · have C := hide (fun w => level_any n w)
    rw [LoadM.err_bad (.inr k), LoadM.level_bad (.inr k), errV_pos (by omega)] at C
    rw [LoadM.err_bad (.inr k), LoadM.kind_bad (.inr k), errV_pos (by omega)]
    have k0 : ¬ n < 0 := by omega
    go_enter Tryz.func114, Tryz.ntmps114
    go_wp2_with fail
    refine (unhide C _).mono ?_
    rintro e w' ⟨rfl, rfl⟩
    go_wp2
    exact bodyPost_ret (v := .tuple #[.int .i64 0, .iface 85 (.int .i64 1)]) (by simp [results, Tryz.results114, go_sem]) rfl ⟨rfl, rfl⟩
  · have C := hide (fun w => level_any n w)
    rw [LoadM.err_good k.1 (by omega), LoadM.level_calm k.1 k.2, errV_zero rfl] at C
    rw [LoadM.err_good k.1 (by omega), LoadM.kind_calm k.1 k.2, errV_zero rfl]
    obtain ⟨k0, k1⟩ := k
    have k2 : ¬ n < 0 := by omega
    have k3 : ¬ 8 < n := by omega
    go_enter Tryz.func114, Tryz.ntmps114
    go_wp2_with fail
    refine (unhide C _).mono ?_
    rintro e w' ⟨rfl, rfl⟩
    go_wp2
    exact bodyPost_ret (v := .tuple #[.int .i64 1, .nilIface]) (by simp [results, Tryz.results114, go_sem]) rfl ⟨rfl, rfl⟩
  · have C := hide (fun w => level_any n w)
    rw [LoadM.err_good (by omega) (by omega), LoadM.level_pressed k.1 k.2, errV_zero rfl] at C
    cases t
    · cases o
      · rw [LoadM.err_good (by omega) (by omega), LoadM.kind_bare k.1 k.2, errV_zero rfl]
        obtain ⟨k0, k1⟩ := k
        have k2 : ¬ n < 0 := by omega
        have k3 : ¬ 8 < n := by omega
        have k4 : ¬ n < 4 := by omega
        have k5 : ¬ n = 8 := by omega
        go_enter Tryz.func114, Tryz.ntmps114
        go_wp2_with fail
        refine (unhide C _).mono ?_
        rintro e w' ⟨rfl, rfl⟩
        go_wp2
        exact bodyPost_ret (v := .tuple #[.int .i64 0, .nilIface]) (by simp [results, Tryz.results114, go_sem]) rfl ⟨rfl, rfl⟩
      · rw [LoadM.err_good (by omega) (by omega), LoadM.kind_shown k.1 k.2 (.inr rfl), errV_zero rfl]
        obtain ⟨k0, k1⟩ := k
        have k2 : ¬ n < 0 := by omega
        have k3 : ¬ 8 < n := by omega
        have k4 : ¬ n < 4 := by omega
        have k5 : ¬ n = 8 := by omega
        go_enter Tryz.func114, Tryz.ntmps114
        go_wp2_with fail
        refine (unhide C _).mono ?_
        rintro e w' ⟨rfl, rfl⟩
        go_wp2
        exact bodyPost_ret (v := .tuple #[.int .i64 1, .nilIface]) (by simp [results, Tryz.results114, go_sem]) rfl ⟨rfl, rfl⟩
    · cases o
      · rw [LoadM.err_good (by omega) (by omega), LoadM.kind_shown k.1 k.2 (.inl rfl), errV_zero rfl]
        obtain ⟨k0, k1⟩ := k
        have k2 : ¬ n < 0 := by omega
        have k3 : ¬ 8 < n := by omega
        have k4 : ¬ n < 4 := by omega
        have k5 : ¬ n = 8 := by omega
        go_enter Tryz.func114, Tryz.ntmps114
        go_wp2_with fail
        refine (unhide C _).mono ?_
        rintro e w' ⟨rfl, rfl⟩
        go_wp2
        exact bodyPost_ret (v := .tuple #[.int .i64 1, .nilIface]) (by simp [results, Tryz.results114, go_sem]) rfl ⟨rfl, rfl⟩
      · rw [LoadM.err_good (by omega) (by omega), LoadM.kind_shown k.1 k.2 (.inl rfl), errV_zero rfl]
        obtain ⟨k0, k1⟩ := k
        have k2 : ¬ n < 0 := by omega
        have k3 : ¬ 8 < n := by omega
        have k4 : ¬ n < 4 := by omega
        have k5 : ¬ n = 8 := by omega
        go_enter Tryz.func114, Tryz.ntmps114
        go_wp2_with fail
        refine (unhide C _).mono ?_
        rintro e w' ⟨rfl, rfl⟩
        go_wp2
        exact bodyPost_ret (v := .tuple #[.int .i64 1, .nilIface]) (by simp [results, Tryz.results114, go_sem]) rfl ⟨rfl, rfl⟩
  · have C := hide (fun w => level_any 8 w)
    rw [LoadM.err_good (by omega) (by omega), LoadM.level_full, errV_zero rfl] at C
    rw [LoadM.err_good (by omega) (by omega), LoadM.kind_full, errV_zero rfl]
    go_enter Tryz.func114, Tryz.ntmps114
    go_wp2_with fail
    refine (unhide C _).mono ?_
    rintro e w' ⟨rfl, rfl⟩
    go_wp2
    exact bodyPost_ret (v := .tuple #[.int .i64 2, .nilIface]) (by simp [results, Tryz.results114, go_sem]) rfl ⟨rfl, rfl⟩

set_option maxHeartbeats 3200000 in
theorem rneeds_any (n : Int) (t o : Bool) (w : World) : Calls Tryz.prog 97 #[.int .i64 n, .bool t, .bool o] w fun e w' => e = .returned (.tuple #[.int .i64 (LoadM.kind n t o), .int .i64 (LoadM.err n)]) ∧ w' = w := by
  rcases LoadM.five n with k | k | k | k | rfl
  · rw [LoadM.err_bad (.inl k), LoadM.kind_bad (.inl k)]
    go_enter Tryz.func97, Tryz.ntmps97
    go_wp2
    exact bodyPost_ret (v := .tuple #[.int .i64 0, .int .i64 1]) (by simp [results, Tryz.results97, go_sem]) rfl ⟨rfl, rfl⟩
  · rw [LoadM.err_bad (.inr k), LoadM.kind_bad (.inr k)]
    have k0 : ¬ n < 0 := by omega
    go_enter Tryz.func97, Tryz.ntmps97
    go_wp2
    exact bodyPost_ret (v := .tuple #[.int .i64 0, .int .i64 1]) (by simp [results, Tryz.results97, go_sem]) rfl ⟨rfl, rfl⟩
  · rw [LoadM.err_good k.1 (by omega), LoadM.kind_calm k.1 k.2]
    obtain ⟨k0, k1⟩ := k
    have k2 : ¬ n < 0 := by omega
    have k3 : ¬ 8 < n := by omega
    go_enter Tryz.func97, Tryz.ntmps97
    go_wp2
    exact bodyPost_ret (v := .tuple #[.int .i64 1, .int .i64 0]) (by simp [results, Tryz.results97, go_sem]) rfl ⟨rfl, rfl⟩
  · cases t
    · cases o
      · rw [LoadM.err_good (by omega) (by omega), LoadM.kind_bare k.1 k.2]
        obtain ⟨k0, k1⟩ := k
        have k2 : ¬ n < 0 := by omega
        have k3 : ¬ 8 < n := by omega
        have k4 : ¬ n < 4 := by omega
        have k5 : ¬ n = 8 := by omega
        go_enter Tryz.func97, Tryz.ntmps97
        go_wp2
        exact bodyPost_ret (v := .tuple #[.int .i64 0, .int .i64 0]) (by simp [results, Tryz.results97, go_sem]) rfl ⟨rfl, rfl⟩
      · rw [LoadM.err_good (by omega) (by omega), LoadM.kind_shown k.1 k.2 (.inr rfl)]
        obtain ⟨k0, k1⟩ := k
        have k2 : ¬ n < 0 := by omega
        have k3 : ¬ 8 < n := by omega
        have k4 : ¬ n < 4 := by omega
        have k5 : ¬ n = 8 := by omega
        go_enter Tryz.func97, Tryz.ntmps97
        go_wp2
        exact bodyPost_ret (v := .tuple #[.int .i64 1, .int .i64 0]) (by simp [results, Tryz.results97, go_sem]) rfl ⟨rfl, rfl⟩
    · cases o
      · rw [LoadM.err_good (by omega) (by omega), LoadM.kind_shown k.1 k.2 (.inl rfl)]
        obtain ⟨k0, k1⟩ := k
        have k2 : ¬ n < 0 := by omega
        have k3 : ¬ 8 < n := by omega
        have k4 : ¬ n < 4 := by omega
        have k5 : ¬ n = 8 := by omega
        go_enter Tryz.func97, Tryz.ntmps97
        go_wp2
        exact bodyPost_ret (v := .tuple #[.int .i64 1, .int .i64 0]) (by simp [results, Tryz.results97, go_sem]) rfl ⟨rfl, rfl⟩
      · rw [LoadM.err_good (by omega) (by omega), LoadM.kind_shown k.1 k.2 (.inl rfl)]
        obtain ⟨k0, k1⟩ := k
        have k2 : ¬ n < 0 := by omega
        have k3 : ¬ 8 < n := by omega
        have k4 : ¬ n < 4 := by omega
        have k5 : ¬ n = 8 := by omega
        go_enter Tryz.func97, Tryz.ntmps97
        go_wp2
        exact bodyPost_ret (v := .tuple #[.int .i64 1, .int .i64 0]) (by simp [results, Tryz.results97, go_sem]) rfl ⟨rfl, rfl⟩
  · rw [LoadM.err_good (by omega) (by omega), LoadM.kind_full]
    go_enter Tryz.func97, Tryz.ntmps97
    go_wp2
    exact bodyPost_ret (v := .tuple #[.int .i64 2, .int .i64 0]) (by simp [results, Tryz.results97, go_sem]) rfl ⟨rfl, rfl⟩
end Go.Proofs.YthaicpepgianpakGreatDoor
namespace Go.Proofs.YthaicpepgianpakGreatDoor
open Go.RowKit

theorem in_yes (n : Int) (w : World) (h0 : 0 ≤ n) (h1 : n < 999983) :
    Calls Tryz.prog 94 #[.int .i64 n] w fun e w' => e = .returned (.bool true) ∧ w' = w := by
  have h2 : n ≤ 999982 := by omega
  go_enter Tryz.func94, Tryz.ntmps94
  go_wp2
  go_ret
  exact ⟨rfl, rfl⟩

theorem in_no (n : Int) (w : World) (h : n < 0 ∨ 999983 ≤ n) :
    Calls Tryz.prog 94 #[.int .i64 n] w fun e w' => e = .returned (.bool false) ∧ w' = w := by
  by_cases h0 : 0 ≤ n
  · have h1 : ¬ n ≤ 999982 := by omega
    go_enter Tryz.func94, Tryz.ntmps94
    go_wp2
    go_ret
    exact ⟨rfl, rfl⟩
  · go_enter Tryz.func94, Tryz.ntmps94
    go_wp2
    go_ret
    exact ⟨rfl, rfl⟩

theorem in_any (n : Int) (w : World) : Calls Tryz.prog 94 #[.int .i64 n] w fun e w' => e = .returned (.bool (TagM.inB n)) ∧ w' = w := by
  by_cases h : TagM.inB n = true
  · rw [h]; exact in_yes n w ((TagM.inB_iff n).1 h).1 ((TagM.inB_iff n).1 h).2
  · have h' : TagM.inB n = false := by simpa using h
    rw [h']; exact in_no n w ((TagM.inB_not n).1 h')

set_option maxHeartbeats 800000 in
theorem ref_tag (key : Int) (a : Option Addr) (cap : Nat) (zs : List Int) (w : World) (hi : Ints w a zs) (he : TagM.err key zs = 0) :
    Calls Tryz.prog 18 #[.int .i64 key, .slice a zs.length cap] w fun e w' => e = .returned (.int .i64 (TagM.tag key zs)) ∧ w' = w := by
  obtain ⟨hk, hl, hall⟩ := TagM.err_zero.1 he
  obtain ⟨h0, h1⟩ := (TagM.inB_iff _).1 hk
  have H := hide hall
  have HI := hide hi
  clear hall hi he hk
  generalize hlen : zs.length = len at hl ⊢
  have HL := hide hlen
  clear hlen
  go_enter Tryz.func18, Tryz.ntmps18
  go_wp2
  go_loop [5, 6] (fun t i => ∃ k : Nat, k ≤ len ∧ i = .int .i64 k ∧ t = .int .i64 (TagM.run key (zs.take k))) (fun _ i => len - (intOf i).toNat)
  case atStart => exact ⟨0, Nat.zero_le _, rfl, rfl⟩
  case round =>
    obtain ⟨k, hk, rfl, rfl⟩ := hrel
    have hb := TagM.run_bd key (zs.take k) ⟨h0, h1⟩
    obtain ⟨hb1, hb2⟩ := hb
    by_cases hlt : k < len
    · obtain ⟨b, off, rfl, hcell⟩ := (unhide HI).2 k (by rw [unhide HL]; exact hlt)
      have hn := all_getD (unhide H) k (by rw [unhide HL]; exact hlt)
      have hr := hide (run_take key zs k (by rw [unhide HL]; exact hlt))
      generalize zs.getD k 0 = n at hcell hn hr
      obtain ⟨hn1, hn2⟩ := hn
      go_wp2
      go_round
      case rel => exact ⟨k + 1, by omega, by go_num, by rw [unhide hr]; unfold TagM.step; rw [← Int.add_assoc]⟩
      case measure => simp [intOf]; omega
    · go_wp2
      go_ret
      exact ⟨ret_int (by rw [List.take_of_length_le (by rw [unhide HL]; omega)]; rfl), rfl⟩

end Go.Proofs.YthaicpepgianpakGreatDoor
