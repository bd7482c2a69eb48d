/-
  What the reference's In, Tag and Tagged come to.
-/
import Derived.Test.YtimilfnbbimipajGreatDoorTagWalks
namespace Go.Proofs.YtimilfnbbimipajGreatDoor
open Go.RowKit

theorem in_yes (n : Int) (w : World) (h0 : 0 ≤ n) (h1 : n < 999983) :
    Calls Tryz.prog 4 #[.int .i64 n] w fun e w' => e = .returned (.bool true) ∧ w' = w := by
  have h2 : n ≤ 999982 := by omega
  go_enter Tryz.func4, Tryz.ntmps4
  go_wp2
  go_ret
  exact ⟨rfl, rfl⟩

theorem in_no (n : Int) (w : World) (h : n < 0 ∨ 999983 ≤ n) :
    Calls Tryz.prog 4 #[.int .i64 n] w fun e w' => e = .returned (.bool false) ∧ w' = w := by
  by_cases h0 : 0 ≤ n
  · have h1 : ¬ n ≤ 999982 := by omega
    go_enter Tryz.func4, Tryz.ntmps4
    go_wp2
    go_ret
    exact ⟨rfl, rfl⟩
  · go_enter Tryz.func4, Tryz.ntmps4
    go_wp2
    go_ret
    exact ⟨rfl, rfl⟩

theorem in_any (n : Int) (w : World) : Calls Tryz.prog 4 #[.int .i64 n] w fun e w' => e = .returned (.bool (TagM.inB n)) ∧ w' = w := by
  by_cases h : TagM.inB n = true
  · rw [h]; exact in_yes n w ((TagM.inB_iff n).1 h).1 ((TagM.inB_iff n).1 h).2
  · have h' : TagM.inB n = false := by simpa using h
    rw [h']; exact in_no n w ((TagM.inB_not n).1 h')

set_option maxHeartbeats 800000 in
theorem ref_tag (key : Int) (a : Option Addr) (cap : Nat) (zs : List Int) (w : World) (hi : Ints w a zs) (he : TagM.err key zs = 0) :
    Calls Tryz.prog 26 #[.int .i64 key, .slice a zs.length cap] w fun e w' => e = .returned (.int .i64 (TagM.tag key zs)) ∧ w' = w := by
  obtain ⟨hk, hl, hall⟩ := TagM.err_zero.1 he
  obtain ⟨h0, h1⟩ := (TagM.inB_iff _).1 hk
  have H := hide hall
  have HI := hide hi
  clear hall hi he hk
  generalize hlen : zs.length = len at hl ⊢
  have HL := hide hlen
  clear hlen
  go_enter Tryz.func26, Tryz.ntmps26
  go_wp2
  go_loop [5, 6] (fun t i => ∃ k : Nat, k ≤ len ∧ i = .int .i64 k ∧ t = .int .i64 (TagM.run key (zs.take k))) (fun _ i => len - (intOf i).toNat)
  case atStart => exact ⟨0, Nat.zero_le _, rfl, rfl⟩
  case round =>
    obtain ⟨k, hk, rfl, rfl⟩ := hrel
    have hb := TagM.run_bd key (zs.take k) ⟨h0, h1⟩
    obtain ⟨hb1, hb2⟩ := hb
    by_cases hlt : k < len
    · obtain ⟨b, off, rfl, hcell⟩ := (unhide HI).2 k (by rw [unhide HL]; exact hlt)
      have hn := all_getD (unhide H) k (by rw [unhide HL]; exact hlt)
      have hr := hide (run_take key zs k (by rw [unhide HL]; exact hlt))
      generalize zs.getD k 0 = n at hcell hn hr
      obtain ⟨hn1, hn2⟩ := hn
      go_wp2
      go_round
      case rel => exact ⟨k + 1, by omega, by go_num, by rw [unhide hr]; unfold TagM.step; rw [← Int.add_assoc]⟩
      case measure => simp [intOf]; omega
    · go_wp2
      go_ret
      exact ⟨ret_int (by rw [List.take_of_length_le (by rw [unhide HL]; omega)]; rfl), rfl⟩

end Go.Proofs.YtimilfnbbimipajGreatDoor
