/-
  What the calls of package tag come to, said of cells: fits, fold, Of, Make, Check.
-/
import Derived.Test.YtfhpfdlbgmgclakDoorBase
import Derived.Test.YtfhpfdlbgmgclakDoorTagMath
namespace Go.Proofs.YtfhpfdlbgmgclakDoor
open Go.RowKit

set_option maxHeartbeats 400000 in
theorem fits_yes (n : Int) (w : World) (h0 : 0 ≤ n) (h1 : n < 999983) :
    Calls Tryd.prog 57 #[.int .i64 n] w fun e w' => e = .returned (.bool true) ∧ w' = w := by
  go_enter Tryd.func57, Tryd.ntmps57
  go_wp2
  go_ret
  exact ⟨rfl, rfl⟩

set_option maxHeartbeats 400000 in
theorem fits_no (n : Int) (w : World) (h : n < 0 ∨ 999983 ≤ n) :
    Calls Tryd.prog 57 #[.int .i64 n] w fun e w' => e = .returned (.bool false) ∧ w' = w := by
  by_cases h0 : 0 ≤ n
  · have h1 : ¬ n < 999983 := by omega
    go_enter Tryd.func57, Tryd.ntmps57
    go_wp2
    go_ret
    exact ⟨rfl, rfl⟩
  · go_enter Tryd.func57, Tryd.ntmps57
    go_wp2
    go_ret
    exact ⟨rfl, rfl⟩

set_option maxHeartbeats 400000 in
theorem fold_any (t n : Int) (w : World) (h0 : 0 ≤ t) (h1 : t < 999983) (h2 : 0 ≤ n) (h3 : n ≤ 999983) :
    Calls Tryd.prog 58 #[.int .i64 t, .int .i64 n] w fun e w' => e = .returned (.int .i64 (TagM.step t n)) ∧ w' = w := by
  go_enter Tryd.func58, Tryd.ntmps58
  go_wp2
  go_ret
  exact ⟨ret_int (by unfold TagM.step; rfl), rfl⟩

set_option maxHeartbeats 400000 in
theorem of_key (key : Int) (a : Option Addr) (len cap : Nat) (w : World) (h : key < 0 ∨ 999983 ≤ key) :
    Calls Tryd.prog 41 #[.int .i64 key, .slice a len cap] w fun e w' => e = .returned (.tuple #[.int .i64 0, .iface 67 (.int .i64 1)]) ∧ w' = w := by
  go_enter Tryd.func41, Tryd.ntmps41
  go_wp2_with (go_at_call 57; refine (fits_no _ _ h).mono ?_; rintro e w' ⟨rfl, rfl⟩)
  go_ret2
  exact ⟨rfl, rfl⟩

set_option maxHeartbeats 400000 in
theorem of_full (key : Int) (a : Option Addr) (len cap : Nat) (w : World) (h0 : 0 ≤ key) (h1 : key < 999983) (hl : 12 < len) :
    Calls Tryd.prog 41 #[.int .i64 key, .slice a len cap] w fun e w' => e = .returned (.tuple #[.int .i64 0, .iface 67 (.int .i64 4)]) ∧ w' = w := by
  go_enter Tryd.func41, Tryd.ntmps41
  go_wp2_with (go_at_call 57; refine (fits_yes _ _ h0 h1).mono ?_; rintro e w' ⟨rfl, rfl⟩)
  go_ret2
  exact ⟨rfl, rfl⟩


/-- No numbers: no round. -/
theorem of_none (key : Int) (a : Option Addr) (cap : Nat) (w : World) (h0 : 0 ≤ key) (h1 : key < 999983) :
    Calls Tryd.prog 41 #[.int .i64 key, .slice a 0 cap] w fun e w' => e = .returned (.tuple #[.int .i64 (TagM.tag key []), .nilIface]) ∧ w' = w := by
  go_enter Tryd.func41, Tryd.ntmps41
  go_wp2_with (go_at_call 57; refine (fits_yes _ _ h0 h1).mono ?_; rintro e w' ⟨rfl, rfl⟩)
  refine wp_loop_rounds 1 ?_
  rw [rounds_succ]
  go_wp2_with (go_at_call 58; refine (fold_any _ _ _ h0 h1 h0 (by omega)).mono ?_; rintro e w' ⟨rfl, rfl⟩)
  go_ret2
  exact ⟨rfl, rfl⟩

theorem take_snoc (zs : List Int) (k : Nat) (h : k < zs.length) : zs.take (k + 1) = zs.take k ++ [zs.getD k 0] := by
  rw [List.take_succ_eq_append_getElem h]; simp [List.getD, h]
theorem run_take (key : Int) (zs : List Int) (k : Nat) (h : k < zs.length) : TagM.run key (zs.take (k + 1)) = TagM.step (TagM.run key (zs.take k)) (zs.getD k 0 + 1) := by
  rw [take_snoc zs k h, TagM.run_snoc]
theorem all_getD {zs : List Int} (h : zs.all TagM.inB = true) (k : Nat) (hk : k < zs.length) : 0 ≤ zs.getD k 0 ∧ zs.getD k 0 < 999983 := by
  have := List.all_eq_true.1 h (zs.getD k 0) (by simp [List.getD, hk])
  exact (TagM.inB_iff _).1 this

set_option maxHeartbeats 800000 in
theorem of_ok (key : Int) (b off cap : Nat) (zs : List Int) (w : World) (h0 : 0 ≤ key) (h1 : key < 999983) (hl : zs.length ≤ 12) (hall : zs.all TagM.inB = true)
    (hc : ∀ k, k < zs.length → w.cell? ⟨b, off + k, none⟩ = some (.int .i64 (zs.getD k 0))) :
    Calls Tryd.prog 41 #[.int .i64 key, .slice (some ⟨b, off, none⟩) zs.length cap] w fun e w' => e = .returned (.tuple #[.int .i64 (TagM.tag key zs), .nilIface]) ∧ w' = w := by
  have H := hide hall
  clear hall
  generalize hlen : zs.length = len at hl hc ⊢
  have HL := hide hlen
  have HC := hide hc
  clear hlen hc
  go_enter Tryd.func41, Tryd.ntmps41
  go_wp2_with (go_at_call 57; refine (fits_yes _ _ h0 h1).mono ?_; rintro e w' ⟨rfl, rfl⟩)
  go_loop [6, 20] (fun t i => ∃ k : Nat, k ≤ len ∧ i = .int .i64 k ∧ t = .int .i64 (TagM.run key (zs.take k))) (fun _ i => len - (intOf i).toNat)
  case atStart => exact ⟨0, Nat.zero_le _, rfl, rfl⟩
  case round =>
    obtain ⟨k, hk, rfl, rfl⟩ := hrel
    have hb := TagM.run_bd key (zs.take k) ⟨h0, h1⟩
    obtain ⟨hb1, hb2⟩ := hb
    by_cases hlt : k < len
    · have hcell := unhide HC k hlt
      have hn := all_getD (unhide H) k (by rw [unhide HL]; exact hlt)
      have hr := hide (run_take key zs k (by rw [unhide HL]; exact hlt))
      generalize zs.getD k 0 = n at hcell hn hr
      obtain ⟨hn1, hn2⟩ := hn
      go_wp2_with fail
      refine (fits_yes _ _ hn1 hn2).mono ?_
      rintro e w' ⟨rfl, rfl⟩
      go_wp2_with fail
      refine (fold_any _ _ _ hb1 hb2 (by omega) (by omega)).mono ?_
      rintro e w' ⟨rfl, rfl⟩
      go_wp2
      go_round
      case rel => exact ⟨k + 1, by omega, by go_num, by rw [unhide hr]⟩
      case measure => simp [intOf]; omega
    · go_wp2_with (go_at_call 58; refine (fold_any _ _ _ hb1 hb2 h0 (by omega)).mono ?_; rintro e w' ⟨rfl, rfl⟩)
      go_ret2
      exact ⟨ret_pair (by rw [List.take_of_length_le (by rw [unhide HL]; omega)]; rfl), rfl⟩

theorem first_bad {zs : List Int} (h : ¬ zs.all TagM.inB = true) : ∃ j, j < zs.length ∧ (∀ i, i < j → 0 ≤ zs.getD i 0 ∧ zs.getD i 0 < 999983) ∧ (zs.getD j 0 < 0 ∨ 999983 ≤ zs.getD j 0) := by
  induction zs with
  | nil => simp at h
  | cons a l ih =>
    by_cases ha : TagM.inB a = true
    · have hl : ¬ l.all TagM.inB = true := by
        intro hl; apply h; simp only [List.all_cons, ha, hl, Bool.and_self]
      obtain ⟨j, h1, h2, h3⟩ := ih hl
      refine ⟨j + 1, by simp; omega, ?_, by simpa using h3⟩
      intro i hi
      cases i with
      | zero => simpa using (TagM.inB_iff _).1 ha
      | succ i => simpa using h2 i (by omega)
    · refine ⟨0, by simp, fun i hi => by omega, ?_⟩
      have : TagM.inB a = false := by simpa using ha
      simpa using (TagM.inB_not _).1 this

set_option maxHeartbeats 800000 in
theorem of_bad (key : Int) (b off cap : Nat) (zs : List Int) (w : World) (h0 : 0 ≤ key) (h1 : key < 999983) (hl : zs.length ≤ 12) (hall : ¬ zs.all TagM.inB = true)
    (hc : ∀ k, k < zs.length → w.cell? ⟨b, off + k, none⟩ = some (.int .i64 (zs.getD k 0))) :
    Calls Tryd.prog 41 #[.int .i64 key, .slice (some ⟨b, off, none⟩) zs.length cap] w fun e w' => e = .returned (.tuple #[.int .i64 0, .iface 67 (.int .i64 1)]) ∧ w' = w := by
  obtain ⟨j, hj, hgood, hbad⟩ := first_bad hall
  clear hall
  generalize zs.length = len at hl hc hj ⊢
  have HC := hide hc
  have HG := hide hgood
  have HB := hide hbad
  clear hc hgood hbad
  go_enter Tryd.func41, Tryd.ntmps41
  go_wp2_with (go_at_call 57; refine (fits_yes _ _ h0 h1).mono ?_; rintro e w' ⟨rfl, rfl⟩)
  go_loop [6, 20] (fun t i => ∃ (k : Nat) (x : Int), k ≤ j ∧ i = .int .i64 k ∧ t = .int .i64 x ∧ 0 ≤ x ∧ x < 999983) (fun _ i => len - (intOf i).toNat)
  case atStart => exact ⟨0, _, Nat.zero_le _, rfl, rfl, h0, h1⟩
  case round =>
    obtain ⟨k, x, hk, rfl, rfl, hb1, hb2⟩ := hrel
    have hlt : k < len := by omega
    by_cases hkj : k < j
    · have hcell := unhide HC k hlt
      have hn := unhide HG k hkj
      generalize zs.getD k 0 = n at hcell hn
      obtain ⟨hn1, hn2⟩ := hn
      go_wp2_with fail
      refine (fits_yes _ _ hn1 hn2).mono ?_
      rintro e w' ⟨rfl, rfl⟩
      go_wp2_with fail
      refine (fold_any _ _ _ hb1 hb2 (by omega) (by omega)).mono ?_
      rintro e w' ⟨rfl, rfl⟩
      have hs := TagM.step_bd x (n + 1)
      generalize TagM.step x (n + 1) = y at hs ⊢
      obtain ⟨hs1, hs2⟩ := hs
      go_wp2
      go_round
      case rel => exact ⟨k + 1, y, by omega, by go_num, rfl, hs1, hs2⟩
      case measure => simp [intOf]; omega
    · obtain rfl : k = j := by omega
      have hcell := unhide HC k hlt
      have hn := unhide HB
      generalize zs.getD k 0 = n at hcell hn
      have HN := hide hn
      clear hn
      go_wp2_with fail
      refine (fits_no _ _ (unhide HN)).mono ?_
      rintro e w' ⟨rfl, rfl⟩
      go_wp2
      go_ret2
      exact ⟨rfl, rfl⟩

/-- Of, where nothing is wrong. -/
theorem of_yes (key : Int) (a : Option Addr) (cap : Nat) (zs : List Int) (w : World) (hi : Ints w a zs) (he : TagM.err key zs = 0) :
    Calls Tryd.prog 41 #[.int .i64 key, .slice a zs.length cap] w fun e w' => e = .returned (.tuple #[.int .i64 (TagM.tag key zs), .nilIface]) ∧ w' = w := by
  obtain ⟨hk, hl, hall⟩ := TagM.err_zero.1 he
  obtain ⟨h0, h1⟩ := (TagM.inB_iff _).1 hk
  by_cases hz : 0 < zs.length
  · obtain ⟨b, off, rfl, hc⟩ := hi.row hz
    exact of_ok key b off cap zs w h0 h1 hl hall hc
  · have : zs = [] := List.length_eq_zero_iff.1 (by omega)
    subst this
    exact of_none key a cap w h0 h1

/-- Of, where something is wrong. -/
theorem of_no (key : Int) (a : Option Addr) (cap : Nat) (zs : List Int) (w : World) (hi : Ints w a zs) (he : ¬ TagM.err key zs = 0) :
    Calls Tryd.prog 41 #[.int .i64 key, .slice a zs.length cap] w fun e w' => e = .returned (.tuple #[.int .i64 0, .iface 67 (.int .i64 (TagM.err key zs))]) ∧ w' = w := by
  unfold TagM.err at he ⊢
  by_cases hk : TagM.inB key = false
  · rw [if_pos hk]
    exact of_key key a zs.length cap w ((TagM.inB_not _).1 hk)
  · have hk' : TagM.inB key = true := by simpa using hk
    obtain ⟨h0, h1⟩ := (TagM.inB_iff _).1 hk'
    rw [if_neg hk] at he ⊢
    by_cases hl : 12 < zs.length
    · rw [if_pos hl]
      exact of_full key a zs.length cap w h0 h1 hl
    · rw [if_neg hl] at he ⊢
      by_cases hall : zs.all TagM.inB = true
      · rw [if_pos hall] at he; exact absurd rfl he
      · rw [if_neg hall]
        have hz : 0 < zs.length := by
          cases zs with
          | nil => simp at hall
          | cons a l => simp
        obtain ⟨b, off, rfl, hc⟩ := hi.row hz
        exact of_bad key b off cap zs w h0 h1 (by omega) hall hc

theorem make_yes (key : Int) (a : Option Addr) (cap : Nat) (zs : List Int) (w : World) (hi : Ints w a zs) (he : TagM.err key zs = 0) :
    Calls Tryd.prog 39 #[.int .i64 key, .slice a zs.length cap] w fun e w' => e = .returned (.tuple #[.int .i64 (TagM.tag key zs), .nilIface]) ∧ w' = w := by
  have H := of_yes key a cap zs w hi he
  generalize zs.length = len at H ⊢
  have H' := hide H
  clear H hi he
  go_enter Tryd.func39, Tryd.ntmps39
  go_wp2_with fail
  refine (unhide H').mono ?_
  rintro e w' ⟨rfl, rfl⟩
  go_wp2
  go_ret2
  exact ⟨rfl, rfl⟩

theorem make_no (key : Int) (a : Option Addr) (cap : Nat) (zs : List Int) (w : World) (hi : Ints w a zs) (he : ¬ TagM.err key zs = 0) :
    Calls Tryd.prog 39 #[.int .i64 key, .slice a zs.length cap] w fun e w' => e = .returned (.tuple #[.int .i64 0, .iface 67 (.int .i64 (TagM.err key zs))]) ∧ w' = w := by
  have H := of_no key a cap zs w hi he
  generalize zs.length = len at H ⊢
  have H' := hide H
  clear H hi he
  go_enter Tryd.func39, Tryd.ntmps39
  go_wp2_with fail
  refine (unhide H').mono ?_
  rintro e w' ⟨rfl, rfl⟩
  go_wp2
  go_ret2
  exact ⟨rfl, rfl⟩

set_option maxHeartbeats 400000 in
theorem check_no (key : Int) (a : Option Addr) (cap : Nat) (zs : List Int) (n : Int) (w : World) (hi : Ints w a zs) (he : ¬ TagM.err key zs = 0) :
    Calls Tryd.prog 40 #[.int .i64 key, .slice a zs.length cap, .int .i64 n] w fun e w' => e = .returned (.tuple #[.bool false, .iface 67 (.int .i64 (TagM.err key zs))]) ∧ w' = w := by
  have H := make_no key a cap zs w hi he
  generalize zs.length = len at H ⊢
  generalize TagM.err key zs = e0 at H ⊢
  have H' := hide H
  clear H hi he
  go_enter Tryd.func40, Tryd.ntmps40
  go_wp2_with fail
  refine (unhide H').mono ?_
  rintro e w' ⟨rfl, rfl⟩
  go_wp2
  go_ret2
  exact ⟨rfl, rfl⟩

set_option maxHeartbeats 400000 in
theorem check_yes (key : Int) (a : Option Addr) (cap : Nat) (zs : List Int) (n : Int) (w : World) (hi : Ints w a zs) (he : TagM.err key zs = 0) (h0 : 0 ≤ n) (h1 : n < 999983) :
    Calls Tryd.prog 40 #[.int .i64 key, .slice a zs.length cap, .int .i64 n] w fun e w' => e = .returned (.tuple #[.bool (n == TagM.tag key zs), .nilIface]) ∧ w' = w := by
  have H := make_yes key a cap zs w hi he
  generalize zs.length = len at H ⊢
  generalize TagM.tag key zs = t at H ⊢
  have H' := hide H
  clear H hi he
  go_enter Tryd.func40, Tryd.ntmps40
  go_wp2_with fail
  refine (unhide H').mono ?_
  rintro e w' ⟨rfl, rfl⟩
  go_wp2_with fail
  refine (fits_yes _ _ h0 h1).mono ?_
  rintro e w' ⟨rfl, rfl⟩
  go_wp2
  go_ret2
  exact ⟨rfl, rfl⟩

set_option maxHeartbeats 400000 in
theorem check_out (key : Int) (a : Option Addr) (cap : Nat) (zs : List Int) (n : Int) (w : World) (hi : Ints w a zs) (he : TagM.err key zs = 0) (h0 : n < 0 ∨ 999983 ≤ n) :
    Calls Tryd.prog 40 #[.int .i64 key, .slice a zs.length cap, .int .i64 n] w fun e w' => e = .returned (.tuple #[.bool false, .iface 67 (.int .i64 1)]) ∧ w' = w := by
  have H := make_yes key a cap zs w hi he
  generalize zs.length = len at H ⊢
  generalize TagM.tag key zs = t at H
  have H' := hide H
  have H0 := hide h0
  clear H hi he h0
  go_enter Tryd.func40, Tryd.ntmps40
  go_wp2_with fail
  refine (unhide H').mono ?_
  rintro e w' ⟨rfl, rfl⟩
  go_wp2_with fail
  refine (fits_no _ _ (unhide H0)).mono ?_
  rintro e w' ⟨rfl, rfl⟩
  go_wp2
  go_ret2
  exact ⟨rfl, rfl⟩

end Go.Proofs.YtfhpfdlbgmgclakDoor
