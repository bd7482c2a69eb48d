/-
  Texts joined: RefConn RefQueue.
-/
import Derived.Test.YthaicpepgianpakGreatDoorRingWalks
import Derived.Test.YthaicpepgianpakGreatDoorJoinedConnMath
import Derived.Test.YthaicpepgianpakGreatDoorQueueWalks
namespace Go.Proofs.YthaicpepgianpakGreatDoor
open Go.RowKit

set_option maxHeartbeats 800000 in
theorem cbit_any {B : Int} (k : Nat) (w : World) (h0 : 0 ≤ B) (h1 : B ≤ 65535) (hk : k ≤ 64) :
    Calls Tryz.prog 73 #[.int .i64 B, .int .i64 k] w fun e w' => e = .returned (.bool (ConnM.bit B k)) ∧ w' = w := by
  have HE := hide (ConnM.bit_div h0 k)
  generalize ConnM.bit B k = E at HE ⊢
  go_enter Tryz.func73, Tryz.ntmps73
  go_wp2
  go_loop [0, 5] (fun n i => ∃ j : Nat, j ≤ k ∧ i = .int .i64 j ∧ n = .int .i64 (B / 2 ^ j)) (fun _ i => k - (intOf i).toNat)
  case atStart => exact ⟨0, Nat.zero_le _, rfl, by simp⟩
  case round =>
    obtain ⟨j, hj, rfl, rfl⟩ := hrel
    obtain ⟨d0, d1⟩ := ConnM.div_in h0 (show B ≤ 4294967295 by omega) j
    by_cases hlt : j < k
    · have HS := hide (ConnM.div_step B j)
      clear HE
      generalize B / 2 ^ j = q at d0 d1 HS ⊢
      go_wp2
      go_round
      case rel => exact ⟨j + 1, by omega, by go_num, by rw [unhide HS]⟩
      case measure => simp [intOf]; omega
    · obtain rfl : j = k := by omega
      generalize B / 2 ^ j = q at d0 d1 HE ⊢
      go_wp2
      go_ret
      exact ⟨by rw [unhide HE]; simp; rfl, rfl⟩

set_option maxHeartbeats 1600000 in
set_option maxRecDepth 8000 in
theorem rturned_any {n : Int} (w : World) (h0 : 0 ≤ n) (h1 : n ≤ 65535) : Calls Tryz.prog 46 #[.int .i64 n] w fun e w' => e = .returned (.int .i64 (ConnM.turn n)) ∧ w' = w := by
  have CB := hide (fun (k : Nat) (hk : k ≤ 64) w => cbit_any (B := n) k w h0 h1 hk)
  have HT := hide (ConnM.upto_all h1)
  have HU := hide (fun k => ConnM.upto_in h1 k)
  have HS := hide (fun (k : Nat) (hk : k < 16) => ConnM.upto_step (x := n) hk)
  have HZ := hide (ConnM.upto_zero n)
  generalize ConnM.upto n = up at HT HU HS HZ
  generalize ConnM.turn n = E at HT ⊢
  generalize ConnM.bit n = bt at CB HS
  go_enter Tryz.func46, Tryz.ntmps46
  go_wp2
  go_loop [3, 4, 5] (fun out p k => ∃ j : Nat, j ≤ 16 ∧ k = .int .i64 j ∧ p = .int .i64 (2 ^ j) ∧ out = .int .i64 (up j)) (fun _ _ k => 16 - (intOf k).toNat)
  case atStart => exact ⟨0, Nat.zero_le _, rfl, rfl, by rw [unhide HZ]⟩
  case round =>
    obtain ⟨j, hj, rfl, rfl, rfl⟩ := hrel
    by_cases hj16 : (j : Int) < 16
    · have HP := hide (show (2 : Int) ^ (j + 1) = 2 * 2 ^ j by rw [Int.pow_succ, Int.mul_comm])
      have hp1 : (2 : Int) ^ j ≤ 65536 := ConnM.pow16 (by omega)
      have hp0 : 0 ≤ (2 : Int) ^ j := Int.le_of_lt (Int.pow_pos (by decide))
      obtain ⟨hs0, hs1⟩ := unhide HU j
      have HI := hide (unhide HS j (by omega))
      have CJ := hide (unhide CB j (by omega))
      generalize bt j = q at CJ HI
      generalize hs : up j = s at hs0 hs1 HI
      clear hs
      generalize (2 : Int) ^ j = p at hp0 hp1 HI HP ⊢
      by_cases h2 : (j : Int) % 2 = 0
      · rw [show decide (j % 2 = 0) = true by simp; omega] at HI
        have h2b : ((j : Int) % 2 == 0) = true := by simp [h2]
        cases q with
        | true =>
          have HI' := hide (show up (j + 1) = s by rw [unhide HI]; simp)
          clear HI
          go_wp2_with fail
          refine (unhide CJ _).mono ?_
          rintro e w' ⟨rfl, rfl⟩
          go_wp2
          go_round
          case rel => exact ⟨j + 1, by omega, by go_num, by rw [unhide HP], by rw [unhide HI']⟩
          case measure => simp [intOf]; omega
        | false =>
          have HI' := hide (show up (j + 1) = s + p by rw [unhide HI]; simp)
          clear HI
          go_wp2_with fail
          refine (unhide CJ _).mono ?_
          rintro e w' ⟨rfl, rfl⟩
          go_wp2
          go_round
          case rel => exact ⟨j + 1, by omega, by go_num, by rw [unhide HP], by rw [unhide HI']⟩
          case measure => simp [intOf]; omega
      · rw [show decide (j % 2 = 0) = false by simp; omega] at HI
        have h2b : ((j : Int) % 2 == 0) = false := by simp [h2]
        cases q with
        | true =>
          have HI' := hide (show up (j + 1) = s + p by rw [unhide HI]; simp)
          clear HI
          go_wp2_with fail
          refine (unhide CJ _).mono ?_
          rintro e w' ⟨rfl, rfl⟩
          go_wp2
          go_round
          case rel => exact ⟨j + 1, by omega, by go_num, by rw [unhide HP], by rw [unhide HI']⟩
          case measure => simp [intOf]; omega
        | false =>
          have HI' := hide (show up (j + 1) = s by rw [unhide HI]; simp)
          clear HI
          go_wp2_with fail
          refine (unhide CJ _).mono ?_
          rintro e w' ⟨rfl, rfl⟩
          go_wp2
          go_round
          case rel => exact ⟨j + 1, by omega, by go_num, by rw [unhide HP], by rw [unhide HI']⟩
          case measure => simp [intOf]; omega
    · obtain rfl : j = 16 := by omega
      rw [unhide HT]
      clear HS HU CB
      go_wp2
      go_ret
      exact ⟨rfl, rfl⟩

theorem rnumber_any {s m : Int} (w : World) (h0 : 0 ≤ s) (h1 : s ≤ 15) (h2 : 0 ≤ m) (h3 : m ≤ 4095) : Calls Tryz.prog 25 #[.agg #[.int .i64 s, .int .i64 m]] w fun e w' => e = .returned (.int .i64 (ConnM.turn (4096 * s + m))) ∧ Below w.heap.size w w' := by
  have C := hide (fun w => rturned_any (n := 4096 * s + m) w (by omega) (by omega))
  generalize ConnM.turn (4096 * s + m) = x at C ⊢
  go_enter Tryz.func25, Tryz.ntmps25
  go_wp2_with fail
  refine (unhide C _).mono ?_
  rintro e w' ⟨rfl, rfl⟩
  go_wp2
  go_ret
  exact ⟨rfl, (by (repeat' (first | exact Below.refl _ _ | refine Below.alloc ?_ ?_ _ | refine Below.setCell ?_ ?_ _ | refine Below.drew ?_)); all_goals (first | exact Nat.le_refl _ | omega | (simp; done) | (simp; omega)))⟩

set_option maxHeartbeats 1600000 in
theorem rconn_any (s m : Int) (w : World) : Calls Tryz.prog 98 #[.agg #[.int .i64 s, .int .i64 m]] w fun e w' => e = .returned (.bool (ConnM.bad s m == 0)) ∧ Below w.heap.size w w' := by
  by_cases h1 : s < 0
  · rw [show (ConnM.bad s m == 0) = false by rw [ConnM.bad_one.2 (by omega)]; rfl]
    go_enter Tryz.func98, Tryz.ntmps98
    go_wp2
    go_ret
    exact ⟨rfl, (by (repeat' (first | exact Below.refl _ _ | refine Below.alloc ?_ ?_ _ | refine Below.setCell ?_ ?_ _ | refine Below.drew ?_)); all_goals (first | exact Nat.le_refl _ | omega | (simp; done) | (simp; omega)))⟩
  · skip
    by_cases h2 : 15 < s
    · rw [show (ConnM.bad s m == 0) = false by rw [ConnM.bad_one.2 (by omega)]; rfl]
      go_enter Tryz.func98, Tryz.ntmps98
      go_wp2
      go_ret
      exact ⟨rfl, (by (repeat' (first | exact Below.refl _ _ | refine Below.alloc ?_ ?_ _ | refine Below.setCell ?_ ?_ _ | refine Below.drew ?_)); all_goals (first | exact Nat.le_refl _ | omega | (simp; done) | (simp; omega)))⟩
    · skip
      by_cases h3 : m < 0
      · rw [show (ConnM.bad s m == 0) = false by rw [ConnM.bad_one.2 (by omega)]; rfl]
        go_enter Tryz.func98, Tryz.ntmps98
        go_wp2
        go_ret
        exact ⟨rfl, (by (repeat' (first | exact Below.refl _ _ | refine Below.alloc ?_ ?_ _ | refine Below.setCell ?_ ?_ _ | refine Below.drew ?_)); all_goals (first | exact Nat.le_refl _ | omega | (simp; done) | (simp; omega)))⟩
      · skip
        have hm : (ConnM.bad s m == 0) = decide (m ≤ 4095) := by
          by_cases h4 : m ≤ 4095
          · rw [ConnM.bad_zero.2 (by omega)]; simp [h4]
          · rw [ConnM.bad_one.2 (by omega)]; simp [h4]
        rw [hm]
        clear hm
        go_enter Tryz.func98, Tryz.ntmps98
        go_wp2
        go_ret
        exact ⟨rfl, (by (repeat' (first | exact Below.refl _ _ | refine Below.alloc ?_ ?_ _ | refine Below.setCell ?_ ?_ _ | refine Below.drew ?_)); all_goals (first | exact Nat.le_refl _ | omega | (simp; done) | (simp; omega)))⟩
end Go.Proofs.YthaicpepgianpakGreatDoor
namespace Go.Proofs.YthaicpepgianpakGreatDoor
open Go.RowKit
attribute [local go_sem ↓] Go.wp_at_zero Go.wp_at_succ


set_option maxHeartbeats 1600000 in
set_option maxRecDepth 8000 in
theorem rplace_at {b j cap : Nat} {a : Option Addr} {L : List (Int × Int)} (s m : Int) (w : World) (c0 : w.cell? ⟨b, j, none⟩ = some (.slice a L.length cap)) (hp : PRow w a L.length cap L) (hl : L.length ≤ 8) :
    Calls Tryz.prog 99 #[.pointer (some ⟨b, j, none⟩), .agg #[.int .i64 s, .int .i64 m]] w fun e w' => e = .returned (.int .i64 (QueueM.place L (s, m))) ∧ Below w.heap.size w w' := by
  have HC0 := hide c0
  have HP := hide hp
  generalize hq : QueueM.place L (s, m) = E
  have HQ := hide hq
  clear hp hq c0
  generalize hn : L.length = n at HC0 HP hl
  have HL := hide hn
  clear hn
  go_enter Tryz.func99, Tryz.ntmps99
  go_wp2
  have HC := hide (Held.fresh (w := w) [.int .i64 s, .int .i64 m] 78 rfl)
  have HB0 := hide (show Below w.heap.size w (w.alloc (.cells #[.int .i64 s, .int .i64 m] 78)) from (by (repeat' (first | exact Below.refl _ _ | refine Below.alloc ?_ ?_ _ | refine Below.setCell ?_ ?_ _ | refine Below.drew ?_)); all_goals (first | exact Nat.le_refl _ | omega | (simp; done) | (simp; omega))))
  go_loopw [5] (fun i wr => ∃ k : Nat, k ≤ n ∧ i = .int .i64 k ∧ Hid ((s, m) ∉ L.take k) ∧ Hid (Held wr w.heap.size [.int .i64 s, .int .i64 m]) ∧ Hid (Below w.heap.size w wr)) (fun i _ => n - (intOf i).toNat)
  case atStart => exact ⟨0, Nat.zero_le _, rfl, hide (by simp), HC, HB0⟩
  case round =>
    obtain ⟨k, hk, rfl, HN, HC, HB⟩ := hrel
    have q0 := cell_later (unhide HB) (unhide HC0)
    have hbr : b < wr.heap.size := World.block_lt_of_cell? _ _ q0
    by_cases hlt : k < n
    · have hs := hide (QueueM.place_at (l := L) (k := k) (c := (s, m)) (by rw [unhide HL]; exact hlt) (unhide HN))
      have hn := hide (QueueM.no_step (l := L) (k := k) (c := (s, m)) (by rw [unhide HL]; exact hlt) (unhide HN))
      obtain ⟨rb, off, rfl, c1, c2⟩ := ((unhide HP).later (unhide HB)).2.2 k (by rw [unhide HL]; exact hlt)
      generalize L.getD k (0, 0) = p at c1 c2 hs hn
      obtain ⟨x, t⟩ := p
      dsimp only at c1 c2 hs hn
      obtain ⟨d1, d2⟩ := (unhide HC).c2.1
      have hk0 : (0 : Int) ≤ (k : Int) := by omega
      have hkc : (k : Int) < (n : Int) := by omega
      by_cases hx : x = s ∧ t = m
      · obtain ⟨rfl, rfl⟩ := hx
        have HE := hide (show E = (k : Int) by rw [← unhide HQ]; exact unhide hs rfl)
        clear hs hn
        have e1 : (x == x) = true := by simp
        have e2 : (t == t) = true := by simp
        go_wp2
        go_quiet (fail)
        go_wp2
        go_ret
        exact ⟨by rw [unhide HE]; rfl, below_drewN (unhide HB) _⟩
      · have hn' := hide (unhide hn (fun e => hx ⟨congrArg Prod.fst e, congrArg Prod.snd e⟩))
        clear hs hn
        by_cases hy : x = s
        · have hz : ¬ t = m := fun e => hx ⟨hy, e⟩
          subst hy
          have e1 : (x == x) = true := by simp
          have e2 : (t == m) = false := by simp [hz]
          go_wp2
          go_quiet (fail)
          go_wp2
          go_roundw
          case rel => exact ⟨k + 1, by omega, by go_num, hn', hide (unhide HC), hide (below_drewN (unhide HB) _)⟩
          case measure => simp [intOf]; omega
        · have e1 : (x == s) = false := by simp [hy]
          go_wp2
          go_quiet (fail)
          go_wp2
          go_roundw
          case rel => exact ⟨k + 1, by omega, by go_num, hn', hide (unhide HC), hide (below_drewN (unhide HB) _)⟩
          case measure => simp [intOf]; omega
    · have HE := hide (show E = -1 by rw [← unhide HQ]; exact QueueM.place_no (QueueM.no_all (by rw [unhide HL]; omega) (unhide HN)))
      go_wp2
      go_ret
      exact ⟨by rw [unhide HE]; rfl, unhide HB⟩

theorem rplace_any {B b : Nat} {o : Option Nat} {L : List (Int × Int)} (s m : Int) (w : World) (h : QAt 59 B w b o L) (hl : L.length ≤ 8) :
    Calls Tryz.prog 99 #[.pointer (some ⟨b, 0, none⟩), .agg #[.int .i64 s, .int .i64 m]] w fun e w' => e = .returned (.int .i64 (QueueM.place L (s, m))) ∧ Below w.heap.size w w' := by
  obtain ⟨_, v, _, h2, h3⟩ := h
  have c0 : w.cell? ⟨b, 0, none⟩ = some v := by rw [Go.Lib.cell_of_heap h2]; rfl
  obtain ⟨a, cap, rfl, hp⟩ := own_row h3
  exact rplace_at s m w c0 hp hl

theorem conn_ok {s m : Int} : (ConnM.bad s m == 0) = !decide (QueueM.bad (s, m)) := by
  rw [bad_iff]
  by_cases h : QueueM.bad (s, m)
  · rw [if_pos h, decide_eq_true h]; rfl
  · rw [if_neg h, decide_eq_false h]; rfl


theorem own_slice {w : World} {base n : Nat} {e : TypeId} {size : Nat} {v : Value} {xs : List Value} (h : w.ownsRow base e size v n xs) : ∃ a cap, v = .slice a n cap := by
  rcases h.2 with ⟨rfl, h0⟩ | ⟨g, cap, cur, rfl, _⟩
  · exact ⟨none, 0, by rw [h0]⟩
  · exact ⟨_, _, rfl⟩

end Go.Proofs.YthaicpepgianpakGreatDoor
