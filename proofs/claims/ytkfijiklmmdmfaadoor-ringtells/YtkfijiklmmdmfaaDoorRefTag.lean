/-
  What the reference's In, Tag and Tagged come to.
-/
import Derived.Test.YtkfijiklmmdmfaaDoorTagWalks
namespace Go.Proofs.YtkfijiklmmdmfaaDoor
open Go.RowKit

theorem in_yes (n : Int) (w : World) (h0 : 0 ≤ n) (h1 : n < 999983) :
    Calls Tryd.prog 10 #[.int .i64 n] w fun e w' => e = .returned (.bool true) ∧ w' = w := by
  have h2 : n ≤ 999982 := by omega
  go_enter Tryd.func10, Tryd.ntmps10
  go_wp2
  go_ret
  exact ⟨rfl, rfl⟩

theorem in_no (n : Int) (w : World) (h : n < 0 ∨ 999983 ≤ n) :
    Calls Tryd.prog 10 #[.int .i64 n] w fun e w' => e = .returned (.bool false) ∧ w' = w := by
  by_cases h0 : 0 ≤ n
  · have h1 : ¬ n ≤ 999982 := by omega
    go_enter Tryd.func10, Tryd.ntmps10
    go_wp2
    go_ret
    exact ⟨rfl, rfl⟩
  · go_enter Tryd.func10, Tryd.ntmps10
    go_wp2
    go_ret
    exact ⟨rfl, rfl⟩

theorem in_any (n : Int) (w : World) : Calls Tryd.prog 10 #[.int .i64 n] w fun e w' => e = .returned (.bool (TagM.inB n)) ∧ w' = w := by
  by_cases h : TagM.inB n = true
  · rw [h]; exact in_yes n w ((TagM.inB_iff n).1 h).1 ((TagM.inB_iff n).1 h).2
  · have h' : TagM.inB n = false := by simpa using h
    rw [h']; exact in_no n w ((TagM.inB_not n).1 h')

set_option maxHeartbeats 800000 in
theorem ref_tag (key : Int) (a : Option Addr) (cap : Nat) (zs : List Int) (w : World) (hi : Ints w a zs) (he : TagM.err key zs = 0) :
    Calls Tryd.prog 7 #[.int .i64 key, .slice a zs.length cap] w fun e w' => e = .returned (.int .i64 (TagM.tag key zs)) ∧ w' = w := by
  obtain ⟨hk, hl, hall⟩ := TagM.err_zero.1 he
  obtain ⟨h0, h1⟩ := (TagM.inB_iff _).1 hk
  have H := hide hall
  have HI := hide hi
  clear hall hi he hk
  generalize hlen : zs.length = len at hl ⊢
  have HL := hide hlen
  clear hlen
  go_enter Tryd.func7, Tryd.ntmps7
  go_wp2
  go_loop [5, 6] (fun t i => ∃ k : Nat, k ≤ len ∧ i = .int .i64 k ∧ t = .int .i64 (TagM.run key (zs.take k))) (fun _ i => len - (intOf i).toNat)
  case atStart => exact ⟨0, Nat.zero_le _, rfl, rfl⟩
  case round =>
    obtain ⟨k, hk, rfl, rfl⟩ := hrel
    have hb := TagM.run_bd key (zs.take k) ⟨h0, h1⟩
    obtain ⟨hb1, hb2⟩ := hb
    by_cases hlt : k < len
    · obtain ⟨b, off, rfl, hcell⟩ := (unhide HI).2 k (by rw [unhide HL]; exact hlt)
      have hn := all_getD (unhide H) k (by rw [unhide HL]; exact hlt)
      have hr := hide (run_take key zs k (by rw [unhide HL]; exact hlt))
      generalize zs.getD k 0 = n at hcell hn hr
      obtain ⟨hn1, hn2⟩ := hn
      go_wp2
      go_round
      case rel => exact ⟨k + 1, by omega, by go_num, by rw [unhide hr]; unfold TagM.step; rw [← Int.add_assoc]⟩
      case measure => simp [intOf]; omega
    · go_wp2
      go_ret
      exact ⟨ret_int (by rw [List.take_of_length_le (by rw [unhide HL]; omega)]; rfl), rfl⟩

set_option maxHeartbeats 800000 in
theorem ref_tagged (key : Int) (a : Option Addr) (cap : Nat) (zs : List Int) (w : World) (hi : Ints w a zs) :
    Calls Tryd.prog 6 #[.int .i64 key, .slice a zs.length cap] w fun e w' => e = .returned (.int .i64 (TagM.err key zs)) ∧ w' = w := by
  unfold TagM.err
  by_cases hk : TagM.inB key = false
  · rw [if_pos hk]
    generalize zs.length = len
    have HK := hide ((TagM.inB_not _).1 hk)
    clear hk hi
    go_enter Tryd.func6, Tryd.ntmps6
    go_wp2_with (go_at_call 10; refine (in_no _ _ (unhide HK)).mono ?_; rintro e w' ⟨rfl, rfl⟩)
    go_ret
    exact ⟨rfl, rfl⟩
  · have hk' : TagM.inB key = true := by simpa using hk
    obtain ⟨h0, h1⟩ := (TagM.inB_iff _).1 hk'
    rw [if_neg hk]
    clear hk hk'
    by_cases hl : 12 < zs.length
    · rw [if_pos hl]
      clear hi
      generalize zs.length = len at hl ⊢
      go_enter Tryd.func6, Tryd.ntmps6
      go_wp2_with (go_at_call 10; refine (in_yes _ _ h0 h1).mono ?_; rintro e w' ⟨rfl, rfl⟩)
      go_ret
      exact ⟨rfl, rfl⟩
    · rw [if_neg hl]
      have HI := hide hi
      have hl' : zs.length ≤ 12 := by omega
      clear hl hi
      by_cases hall : zs.all TagM.inB = true
      · rw [if_pos hall]
        have H := hide hall
        clear hall
        generalize hlen : zs.length = len at hl' ⊢
        have HL := hide hlen
        clear hlen
        go_enter Tryd.func6, Tryd.ntmps6
        go_wp2_with (go_at_call 10; refine (in_yes _ _ h0 h1).mono ?_; rintro e w' ⟨rfl, rfl⟩)
        go_loop [5, 6] (fun v i => v = .bool true ∧ ∃ k : Nat, k ≤ len ∧ i = .int .i64 k) (fun _ i => len - (intOf i).toNat)
        case atStart => exact ⟨rfl, 0, Nat.zero_le _, rfl⟩
        case round =>
          obtain ⟨rfl, k, hk, rfl⟩ := hrel
          by_cases hlt : k < len
          · obtain ⟨b, off, rfl, hcell⟩ := (unhide HI).2 k (by rw [unhide HL]; exact hlt)
            have hn := all_getD (unhide H) k (by rw [unhide HL]; exact hlt)
            generalize zs.getD k 0 = n at hcell hn
            obtain ⟨hn1, hn2⟩ := hn
            go_wp2_with fail
            refine (in_yes _ _ hn1 hn2).mono ?_
            rintro e w' ⟨rfl, rfl⟩
            go_wp2
            go_round
            case rel => exact ⟨rfl, k + 1, by omega, by go_num⟩
            case measure => simp [intOf]; omega
          · go_wp2
            go_ret
            exact ⟨rfl, rfl⟩
      · rw [if_neg hall]
        obtain ⟨j, hj, hgood, hbad⟩ := first_bad hall
        clear hall
        generalize hlen : zs.length = len at hl' hj ⊢
        have HL := hide hlen
        have HG := hide hgood
        have HB := hide hbad
        clear hlen hgood hbad
        go_enter Tryd.func6, Tryd.ntmps6
        go_wp2_with (go_at_call 10; refine (in_yes _ _ h0 h1).mono ?_; rintro e w' ⟨rfl, rfl⟩)
        go_loop [5, 6] (fun v i => v = .bool true ∧ ∃ k : Nat, k ≤ j ∧ i = .int .i64 k) (fun _ i => len - (intOf i).toNat)
        case atStart => exact ⟨rfl, 0, Nat.zero_le _, rfl⟩
        case round =>
          obtain ⟨rfl, k, hk, rfl⟩ := hrel
          have hlt : k < len := by omega
          obtain ⟨b, off, rfl, hcell⟩ := (unhide HI).2 k (by rw [unhide HL]; exact hlt)
          by_cases hkj : k < j
          · have hn := unhide HG k hkj
            generalize zs.getD k 0 = n at hcell hn
            obtain ⟨hn1, hn2⟩ := hn
            go_wp2_with fail
            refine (in_yes _ _ hn1 hn2).mono ?_
            rintro e w' ⟨rfl, rfl⟩
            go_wp2
            go_round
            case rel => exact ⟨rfl, k + 1, by omega, by go_num⟩
            case measure => simp [intOf]; omega
          · obtain rfl : k = j := by omega
            have hn := unhide HB
            generalize zs.getD k 0 = n at hcell hn
            have HN := hide hn
            clear hn
            go_wp2_with fail
            refine (in_no _ _ (unhide HN)).mono ?_
            rintro e w' ⟨rfl, rfl⟩
            go_wp2
            go_ret
            exact ⟨rfl, rfl⟩
end Go.Proofs.YtkfijiklmmdmfaaDoor
