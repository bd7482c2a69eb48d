/-
  What the reference's Bit, Window, Came and Take come to, said of a window's two numbers.
-/
import Derived.Test.YtbacjhdghepckacDoorRefToken
import Derived.Test.YtbacjhdghepckacDoorHeld
import Derived.Test.YtbacjhdghepckacDoorWindowMath
namespace Go.Proofs.YtbacjhdghepckacDoor
open Go.RowKit
attribute [local go_sem ↓] Go.wp_at_zero Go.wp_at_succ

set_option maxHeartbeats 800000 in
theorem rbit_any {B : Int} (k : Nat) (w : World) (h0 : 0 ≤ B) (h1 : B ≤ 4294967295) (hk : k ≤ 64) :
    Calls Tryd.prog 32 #[.int .i64 B, .int .i64 k] w fun e w' => e = .returned (.bool (WinM.bit B k)) ∧ w' = w := by
  have HE := hide (WinM.bit_div h0 k)
  generalize WinM.bit B k = E at HE ⊢
  go_enter Tryd.func32, Tryd.ntmps32
  go_wp2
  go_loop [0, 5] (fun n i => ∃ j : Nat, j ≤ k ∧ i = .int .i64 j ∧ n = .int .i64 (B / 2 ^ j)) (fun _ i => k - (intOf i).toNat)
  case atStart => exact ⟨0, Nat.zero_le _, rfl, by simp⟩
  case round =>
    obtain ⟨j, hj, rfl, rfl⟩ := hrel
    obtain ⟨d0, d1⟩ := WinM.div_in h0 h1 j
    by_cases hlt : j < k
    · have HS := hide (WinM.div_step B j)
      clear HE
      generalize B / 2 ^ j = q at d0 d1 HS ⊢
      go_wp2
      go_round
      case rel => exact ⟨j + 1, by omega, by go_num, by rw [unhide HS]⟩
      case measure => simp [intOf]; omega
    · obtain rfl : j = k := by omega
      generalize B / 2 ^ j = q at d0 d1 HE ⊢
      go_wp2
      go_ret
      exact ⟨by rw [unhide HE]; simp; rfl, rfl⟩

theorem rcame_any {t B : Int} (m : Int) (w : World) (ht0 : -1 ≤ t) (ht1 : t ≤ 100000) (h0 : 0 ≤ B) (h1 : B ≤ 4294967295) :
    Calls Tryd.prog 34 #[.agg #[.int .i64 t, .int .i64 B], .int .i64 m] w fun e w' => e = .returned (.bool (WinM.came t B m)) ∧ Below w.heap.size w w' := by
  unfold WinM.came
  by_cases hlt : t < m
  · rw [show decide (t - 31 ≤ m ∧ m ≤ t) = false by simp; omega, Bool.false_and]
    go_enter Tryd.func34, Tryd.ntmps34
    go_wp2
    go_ret
    exact ⟨rfl, (by (repeat' (first | exact Below.refl _ _ | refine Below.alloc ?_ ?_ _ | refine Below.setCell ?_ ?_ _ | refine Below.drew ?_)); all_goals (first | exact Nat.le_refl _ | omega | (simp; done) | (simp; omega)))⟩
  · by_cases hlo : m < t - 31
    · rw [show decide (t - 31 ≤ m ∧ m ≤ t) = false by simp; omega, Bool.false_and]
      go_enter Tryd.func34, Tryd.ntmps34
      go_wp2
      go_ret
      exact ⟨rfl, (by (repeat' (first | exact Below.refl _ _ | refine Below.alloc ?_ ?_ _ | refine Below.setCell ?_ ?_ _ | refine Below.drew ?_)); all_goals (first | exact Nat.le_refl _ | omega | (simp; done) | (simp; omega)))⟩
    · rw [show decide (t - 31 ≤ m ∧ m ≤ t) = true by simp; omega, Bool.true_and]
      have C := hide (fun w => rbit_any (t - m).toNat w h0 h1 (by omega))
      generalize WinM.bit B (t - m).toNat = q at C ⊢
      rw [show (((t - m).toNat : Nat) : Int) = t - m by omega] at C
      go_enter Tryd.func34, Tryd.ntmps34
      go_wp2_with fail
      refine (unhide C _).mono ?_
      rintro e w' ⟨rfl, rfl⟩
      go_wp2
      go_ret
      exact ⟨rfl, (by (repeat' (first | exact Below.refl _ _ | refine Below.alloc ?_ ?_ _ | refine Below.setCell ?_ ?_ _ | refine Below.drew ?_)); all_goals (first | exact Nat.le_refl _ | omega | (simp; done) | (simp; omega)))⟩

set_option maxHeartbeats 1600000 in
theorem rwindow_any (t B : Int) (w : World) : Calls Tryd.prog 20 #[.agg #[.int .i64 t, .int .i64 B]] w fun e w' => e = .returned (.int .i64 (WinM.fault t B)) ∧ Below w.heap.size w w' := by
  by_cases ht : t < -1
  · rw [WinM.fault_low (by omega)]
    go_enter Tryd.func20, Tryd.ntmps20
    go_wp2
    go_ret
    exact ⟨rfl, (by (repeat' (first | exact Below.refl _ _ | refine Below.alloc ?_ ?_ _ | refine Below.setCell ?_ ?_ _ | refine Below.drew ?_)); all_goals (first | exact Nat.le_refl _ | omega | (simp; done) | (simp; omega)))⟩
  · by_cases ht1 : 100000 < t
    · rw [WinM.fault_low (by omega)]
      go_enter Tryd.func20, Tryd.ntmps20
      go_wp2
      go_ret
      exact ⟨rfl, (by (repeat' (first | exact Below.refl _ _ | refine Below.alloc ?_ ?_ _ | refine Below.setCell ?_ ?_ _ | refine Below.drew ?_)); all_goals (first | exact Nat.le_refl _ | omega | (simp; done) | (simp; omega)))⟩
    · by_cases hB : B < 0
      · rw [WinM.fault_low (by omega)]
        go_enter Tryd.func20, Tryd.ntmps20
        go_wp2
        go_ret
        exact ⟨rfl, (by (repeat' (first | exact Below.refl _ _ | refine Below.alloc ?_ ?_ _ | refine Below.setCell ?_ ?_ _ | refine Below.drew ?_)); all_goals (first | exact Nat.le_refl _ | omega | (simp; done) | (simp; omega)))⟩
      · by_cases hB1 : 4294967295 < B
        · rw [WinM.fault_low (by omega)]
          go_enter Tryd.func20, Tryd.ntmps20
          go_wp2
          go_ret
          exact ⟨rfl, (by (repeat' (first | exact Below.refl _ _ | refine Below.alloc ?_ ?_ _ | refine Below.setCell ?_ ?_ _ | refine Below.drew ?_)); all_goals (first | exact Nat.le_refl _ | omega | (simp; done) | (simp; omega)))⟩
        · by_cases hm : t = -1
          · subst hm
            rw [WinM.fault_new (by omega) (by omega)]
            by_cases hz : B = 0
            · subst hz
              rw [if_pos rfl]
              go_enter Tryd.func20, Tryd.ntmps20
              go_wp2
              go_ret
              exact ⟨rfl, (by (repeat' (first | exact Below.refl _ _ | refine Below.alloc ?_ ?_ _ | refine Below.setCell ?_ ?_ _ | refine Below.drew ?_)); all_goals (first | exact Nat.le_refl _ | omega | (simp; done) | (simp; omega)))⟩
            · have hz' : (B != 0) = true := by simp [hz]
              rw [if_neg hz]
              go_enter Tryd.func20, Tryd.ntmps20
              go_wp2
              go_ret
              exact ⟨rfl, (by (repeat' (first | exact Below.refl _ _ | refine Below.alloc ?_ ?_ _ | refine Below.setCell ?_ ?_ _ | refine Below.drew ?_)); all_goals (first | exact Nat.le_refl _ | omega | (simp; done) | (simp; omega)))⟩
          · have hm' : (t == -1) = false := by simp [hm]
            have h0 : 0 ≤ B := by omega
            have h1 : B ≤ 4294967295 := by omega
            have t0 : 0 ≤ t := by omega
            have t1 : t ≤ 100000 := by omega
            by_cases ho : B % 2 = 0
            · rw [WinM.fault_even t0 t1 h0 h1 ho]
              have ho' : (B % 2 == 0) = true := by simp [ho]
              go_enter Tryd.func20, Tryd.ntmps20
              go_wp2
              go_ret
              exact ⟨rfl, (by (repeat' (first | exact Below.refl _ _ | refine Below.alloc ?_ ?_ _ | refine Below.setCell ?_ ?_ _ | refine Below.drew ?_)); all_goals (first | exact Nat.le_refl _ | omega | (simp; done) | (simp; omega)))⟩
            · have ho' : (B % 2 == 0) = false := by simp [ho]
              have HF := hide (fun (k : Nat) (hk : t < k) (hb : WinM.bit B k = true) => WinM.fault_bit t0 t1 h0 h1 hk hb)
              have HN := hide (WinM.fault_none t0 t1 h0 h1 ho)
              have C := hide (fun (k : Nat) (hk : k ≤ 64) w => rbit_any k w h0 h1 hk)
              generalize WinM.fault t B = E at HF HN ⊢
              generalize WinM.bit B = bt at HF HN C
              clear ht ht1 hB hB1
              go_enter Tryd.func20, Tryd.ntmps20
              go_wp2
              go_loop [3] (fun i => ∃ j : Nat, t + 1 ≤ j ∧ j ≤ 100001 ∧ i = .int .i64 j ∧ Hid (∀ k : Nat, t < k → k < j → bt k = false)) (fun i => 32 - (intOf i).toNat)
              case atStart => exact ⟨(t + 1).toNat, by omega, by omega, by go_num, hide (fun k hk hk' => by omega)⟩
              case round =>
                obtain ⟨j, hj, hj1, rfl, HA⟩ := hrel
                by_cases hlt : (j : Int) < 32
                · have CJ := hide (unhide C j (by omega))
                  have HJ := hide (fun (h : bt j = true) => unhide HF j (by omega) h)
                  have HK := hide (fun (h : bt j = false) (k : Nat) (hk : t < k) (hk' : k < j + 1) => show bt k = false by
                    by_cases e : k = j
                    · subst e; exact h
                    · exact unhide HA k hk (by omega))
                  generalize bt j = q at CJ HJ HK
                  cases q with
                  | true =>
                    have HE := hide (unhide HJ rfl)
                    go_wp2_with fail
                    refine (unhide CJ _).mono ?_
                    rintro e w' ⟨rfl, rfl⟩
                    go_wp2
                    go_ret
                    exact ⟨by rw [unhide HE]; rfl, (by (repeat' (first | exact Below.refl _ _ | refine Below.alloc ?_ ?_ _ | refine Below.setCell ?_ ?_ _ | refine Below.drew ?_)); all_goals (first | exact Nat.le_refl _ | omega | (simp; done) | (simp; omega)))⟩
                  | false =>
                    have HK' := hide (unhide HK rfl)
                    clear HK HJ
                    go_wp2_with fail
                    refine (unhide CJ _).mono ?_
                    rintro e w' ⟨rfl, rfl⟩
                    go_wp2
                    go_round
                    case rel => exact ⟨j + 1, by omega, by omega, by go_num, HK'⟩
                    case measure => simp [intOf]; omega
                · have HE := hide (show E = 0 from unhide HN (fun k hk hk' => unhide HA k hk (by omega)))
                  go_wp2
                  go_ret
                  exact ⟨by rw [unhide HE]; rfl, (by (repeat' (first | exact Below.refl _ _ | refine Below.alloc ?_ ?_ _ | refine Below.setCell ?_ ?_ _ | refine Below.drew ?_)); all_goals (first | exact Nat.le_refl _ | omega | (simp; done) | (simp; omega)))⟩

set_option maxHeartbeats 12800000 in
theorem rtake_any {t B : Int} (n : Int) (w : World) (hr : WinM.Right t B) :
    Calls Tryd.prog 22 #[.agg #[.int .i64 t, .int .i64 B], .int .i64 n] w fun e w' => e = .returned (.tuple #[.agg #[.int .i64 (WinM.taken t B n).1, .int .i64 (WinM.taken t B n).2], .int .i64 (WinM.restErr t B n)]) ∧ Below w.heap.size w w' := by
  have hlo := hr.lo
  have hhi := hr.hi
  have h0 := hr.nn
  have h1 := hr.lt
  have HF := WinM.take_rest (t := t) (B := B) n (WinM.fault_zero.2 hr)
  have CT := hide (fun w => rtime_any n w)
  by_cases hn : n < 0 ∨ 100000 < n
  · have HE : WinM.restErr t B n = 1 := by unfold WinM.restErr; rw [if_pos hn]
    rw [WinM.taken_no (by omega), HE]
    rw [(TokenM.timeB_not n).2 hn] at CT
    clear HE HF hr hn
    go_enter Tryd.func22, Tryd.ntmps22
    go_wp2_with fail
    refine (unhide CT _).mono ?_
    rintro e w' ⟨rfl, rfl⟩
    go_wp2
    exact bodyPost_ret (v := .tuple #[.agg #[.int .i64 0, .int .i64 0], .int .i64 1]) (by simp [results, Tryd.results22, go_sem]) rfl ⟨rfl, (by (repeat' (first | exact Below.refl _ _ | refine Below.alloc ?_ ?_ _ | refine Below.setCell ?_ ?_ _ | refine Below.drew ?_)); all_goals (first | exact Nat.le_refl _ | omega | (simp; done) | (simp; omega)))⟩
  · rw [(TokenM.timeB_iff n).2 (by omega)] at CT
    have n0 : 0 ≤ n := by omega
    have n1 : n ≤ 100000 := by omega
    by_cases h32 : n ≤ t - 32
    · have HE : WinM.restErr t B n = 9 := by unfold WinM.restErr; rw [if_neg hn, if_neg (by omega), if_pos (by omega)]
      rw [WinM.taken_no (by omega), HE]
      clear HE HF hr hn
      go_enter Tryd.func22, Tryd.ntmps22
      go_wp2_with fail
      refine (unhide CT _).mono ?_
      rintro e w' ⟨rfl, rfl⟩
      go_wp2
      exact bodyPost_ret (v := .tuple #[.agg #[.int .i64 0, .int .i64 0], .int .i64 9]) (by simp [results, Tryd.results22, go_sem]) rfl ⟨rfl, (by (repeat' (first | exact Below.refl _ _ | refine Below.alloc ?_ ?_ _ | refine Below.setCell ?_ ?_ _ | refine Below.drew ?_)); all_goals (first | exact Nat.le_refl _ | omega | (simp; done) | (simp; omega)))⟩
    · have HC := WinM.rest_came (t := t) (B := B) n0 n1 (by omega)
      cases hcame : WinM.came t B n with
      | true =>
        have HE : WinM.restErr t B n = 7 := by rw [HC, hcame]; rfl
        rw [WinM.taken_no (by omega), HE]
        have C1 := hide (fun w => rcame_any n w hlo hhi h0 h1)
        rw [hcame] at C1
        clear HE HF HC hr hn hcame
        go_enter Tryd.func22, Tryd.ntmps22
        go_wp2_with fail
        refine (unhide CT _).mono ?_
        rintro e w' ⟨rfl, rfl⟩
        go_wp2_with fail
        refine (unhide C1 _).mono ?_
        rintro e w1 ⟨rfl, hb1⟩
        obtain ⟨hc1, hf1, hz1⟩ := lies hb1
        try simp at hz1
        have HB1 := hide hb1
        clear hb1
        have g1 : w.heap.size < w1.heap.size := by omega
        have g11 : w.heap.size + 1 < w1.heap.size := by omega
        go_wp2
        exact bodyPost_ret (v := .tuple #[.agg #[.int .i64 0, .int .i64 0], .int .i64 7]) (by simp [results, Tryd.results22, go_sem, hc1]) rfl ⟨rfl, (by (repeat' (first | exact Below.refl _ _ | refine Below.alloc ?_ ?_ _ | refine Below.setCell ?_ ?_ _ | refine Below.drew ?_ | refine Below.trans ?_ (Below.mono (unhide HB1) ?_))); all_goals (first | exact Nat.le_refl _ | omega | (simp; done) | (simp; omega)))⟩
      | false =>
        have HE : WinM.restErr t B n = 0 := by rw [HC, hcame]; rfl
        rw [WinM.taken_yes (by omega), HE]
        clear HC HF hn
        by_cases hlt : t < n
        · skip
          have HT := hide (show WinM.top t n = n by unfold WinM.top; rw [if_pos hlt])
          have HX := hide (fun (k : Nat) (hk : k < 32) => WinM.step_bit (t := t) (B := B) (n := n) HE hk)
          have HL := hide (WinM.bits_lt hr HE)
          generalize WinM.bitsOf t B n = x at HX HL ⊢
          generalize WinM.top t n = T at HX HT ⊢
          have hT0 : -1 ≤ T := by have := unhide HT; omega
          have hT1 : T ≤ 100000 := by have := unhide HT; omega
          have CC := hide (fun (m : Int) w => rcame_any (t := t) (B := B) m w hlo hhi h0 h1)
          have C1 := hide (unhide CC n)
          rw [hcame] at C1
          clear HE hr hcame
          generalize WinM.came t B = cm at CC HX
          go_enter Tryd.func22, Tryd.ntmps22
          go_wp2_with fail
          refine (unhide CT _).mono ?_
          rintro e w' ⟨rfl, rfl⟩
          go_wp2_with fail
          refine (unhide C1 _).mono ?_
          rintro e w1 ⟨rfl, hb1⟩
          obtain ⟨hc1, hf1, hz1⟩ := lies hb1
          try simp at hz1
          have HB1 := hide hb1
          clear hb1
          have g1 : w.heap.size < w1.heap.size := by omega
          have g11 : w.heap.size + 1 < w1.heap.size := by omega
          have HW1 := hide ((show Held _ w.heap.size [.int .i64 t, .int .i64 B] from (Held.fresh (w := w) [.int .i64 t, .int .i64 B] 46 rfl).later ((Below.refl _ _).alloc (by simp) _)).later (unhide HB1))
          have HR1 := hide ((show Held _ (w.heap.size + 1) [.int .i64 0, .int .i64 0] from Held.fresh [.int .i64 0, .int .i64 0] 46 (by simp)).later (unhide HB1))
          have HB := hide (show Below w.heap.size w w1 from (by (repeat' (first | exact Below.refl _ _ | refine Below.alloc ?_ ?_ _ | refine Below.setCell ?_ ?_ _ | refine Below.drew ?_ | refine Below.trans ?_ (Below.mono (unhide HB1) ?_))); all_goals (first | exact Nat.le_refl _ | omega | (simp; done) | (simp; omega))))
          go_wp2
          go_loopw [9, 10] (fun p k wr => ∃ j : Nat, j ≤ 32 ∧ k = .int .i64 j ∧ p = .int .i64 (2 ^ j) ∧ Hid (Held wr w1.heap.size [.int .i64 T, .int .i64 ((x % 2 ^ j : Nat) : Int)]) ∧ Hid (Held wr w.heap.size [.int .i64 t, .int .i64 B]) ∧ Hid (Held wr (w.heap.size + 1) [.int .i64 0, .int .i64 0]) ∧ Hid (Below w.heap.size w wr)) (fun _ k _ => 32 - (intOf k).toNat)
          case atStart => exact ⟨0, by omega, rfl, rfl, hide (by rw [unhide HT, Nat.pow_zero, Nat.mod_one]; exact Held.fresh _ _ rfl), hide ((unhide HW1).later ((Below.refl _ _).alloc (Nat.le_refl _) _)), hide ((unhide HR1).later ((Below.refl _ _).alloc (Nat.le_refl _) _)), hide ((unhide HB).alloc (unhide HB).size _)⟩
          case round =>
            obtain ⟨j, hj, rfl, rfl, HO, HW, HR, HB⟩ := hrel
            clear HW1 HR1 HB1 hc1 hf1
            obtain ⟨⟨o0, o1⟩, f0, f1⟩ := (unhide HO).c2
            obtain ⟨⟨a0, a1⟩, -⟩ := (unhide HW).c2
            have ol := (unhide HO).2
            have al := (unhide HW).2
            by_cases hj32 : (j : Int) < 32
            · have HS := hide (WinM.mod_step x j)
              have HP := hide (show (2 : Int) ^ (j + 1) = 2 * 2 ^ j by rw [Int.pow_succ, Int.mul_comm])
              have hp1 : (2 : Int) ^ j ≤ 2147483648 := WinM.pow31 (by omega)
              have hp0 : 0 ≤ (2 : Int) ^ j := Int.le_of_lt (Int.pow_pos (by decide))
              have hs1 : ((x % 2 ^ j : Nat) : Int) ≤ 4294967295 := by
                have h1 := Nat.mod_le x (2 ^ j)
                have h2 := unhide HL
                rw [show (2 : Nat) ^ 32 = 4294967296 from rfl] at h2
                omega
              have hs0 : 0 ≤ ((x % 2 ^ j : Nat) : Int) := by omega
              have HQ := hide (unhide HX j (by omega))
              have CJ := hide (unhide CC (T - j))
              have HI := hide (show ((x % 2 ^ (j + 1) : Nat) : Int) = ((x % 2 ^ j : Nat) : Int) + if x.testBit j = true then 2 ^ j else 0 by
                rw [unhide HS]
                split <;> simp)
              clear HS
              generalize ((x % 2 ^ j : Nat) : Int) = s at HO o1 hs0 hs1 HI
              generalize (2 : Int) ^ j = p at hp0 hp1 HI HP ⊢
              generalize cm (T - j) = q at CJ HQ
              cases q with
              | true =>
                have HI' := hide (show ((x % 2 ^ (j + 1) : Nat) : Int) = s + p by rw [unhide HI, if_pos (by rw [← unhide HQ]; rfl)])
                clear HI HQ
                go_wp2_with fail
                refine (unhide CJ _).mono ?_
                rintro e w2 ⟨rfl, hb2⟩
                have HO2 := hide ((unhide HO).later hb2)
                have HW2 := hide ((unhide HW).later hb2)
                have HR2 := hide ((unhide HR).later hb2)
                have HB2 := hide (bel3 (unhide HB) (Below.refl _ _) hb2)
                clear hb2 o0 o1 f0 f1 a0 a1 ol al HO HW HR HB
                obtain ⟨⟨o0, o1⟩, f0, f1⟩ := (unhide HO2).c2
                have ol := (unhide HO2).2
                go_wp2
                go_roundw
                case rel => exact ⟨j + 1, by omega, by go_num, by rw [unhide HP], hide (by rw [unhide HI']; exact (unhide HO2).put 1 _), hide ((unhide HW2).far (by omega) 1 _), hide ((unhide HR2).far (by omega) 1 _), hide ((unhide HB2).setCell (by show w.heap.size ≤ w1.heap.size; omega) _)⟩
                case measure => simp [intOf]; omega
              | false =>
                by_cases hE : T - (j : Int) = n
                · subst hE
                  have HI' := hide (show ((x % 2 ^ (j + 1) : Nat) : Int) = s + p by rw [unhide HI, if_pos (by rw [← unhide HQ]; simp)])
                  clear HI HQ
                  go_wp2_with fail
                  refine (unhide CJ _).mono ?_
                  rintro e w2 ⟨rfl, hb2⟩
                  have HO2 := hide ((unhide HO).later hb2)
                  have HW2 := hide ((unhide HW).later hb2)
                  have HR2 := hide ((unhide HR).later hb2)
                  have HB2 := hide (bel3 (unhide HB) (Below.refl _ _) hb2)
                  clear hb2 o0 o1 f0 f1 a0 a1 ol al HO HW HR HB
                  obtain ⟨⟨o0, o1⟩, f0, f1⟩ := (unhide HO2).c2
                  have ol := (unhide HO2).2
                  go_wp2
                  go_roundw
                  case rel => exact ⟨j + 1, by omega, by go_num, by rw [unhide HP], hide (by rw [unhide HI']; exact (unhide HO2).put 1 _), hide ((unhide HW2).far (by omega) 1 _), hide ((unhide HR2).far (by omega) 1 _), hide ((unhide HB2).setCell (by show w.heap.size ≤ w1.heap.size; omega) _)⟩
                  case measure => simp [intOf]; omega
                · have hE' : (T - (j : Int) == n) = false := by simp [hE]
                  have HI' := hide (show ((x % 2 ^ (j + 1) : Nat) : Int) = s by rw [unhide HI, if_neg (by rw [← unhide HQ]; simp [hE]), Int.add_zero])
                  clear HI HQ
                  go_wp2_with fail
                  refine (unhide CJ _).mono ?_
                  rintro e w2 ⟨rfl, hb2⟩
                  have HO2 := hide ((unhide HO).later hb2)
                  have HW2 := hide ((unhide HW).later hb2)
                  have HR2 := hide ((unhide HR).later hb2)
                  have HB2 := hide (bel3 (unhide HB) (Below.refl _ _) hb2)
                  clear hb2 o0 o1 f0 f1 a0 a1 ol al HO HW HR HB
                  obtain ⟨⟨o0, o1⟩, f0, f1⟩ := (unhide HO2).c2
                  have ol := (unhide HO2).2
                  go_wp2
                  go_roundw
                  case rel => exact ⟨j + 1, by omega, by go_num, by rw [unhide HP], hide (by rw [unhide HI']; exact unhide HO2), HW2, HR2, HB2⟩
                  case measure => simp [intOf]; omega
            · obtain rfl : j = 32 := by omega
              have HV := hide (show ((x % 2 ^ 32 : Nat) : Int) = (x : Int) by rw [Nat.mod_eq_of_lt (unhide HL)])
              rw [unhide HV] at o1
              obtain ⟨⟨r0, r1⟩, q0, q1⟩ := (unhide HR).c2
              have rl := (unhide HR).2
              skip
              go_wp2
              exact bodyPost_ret (v := .tuple #[.agg #[.int .i64 T, .int .i64 (x : Int)], .int .i64 0]) (by simp [results, Tryd.results22, go_sem, r0, r1]) rfl ⟨rfl, (by (repeat' (first | exact Below.refl _ _ | refine Below.alloc ?_ ?_ _ | refine Below.setCell ?_ ?_ _ | refine Below.drew ?_ | refine Below.trans ?_ (Below.mono (unhide HB) ?_))); all_goals (first | exact Nat.le_refl _ | omega | (simp; done) | (simp; omega)))⟩
        · skip
          have HT := hide (show WinM.top t n = t by unfold WinM.top; rw [if_neg hlt])
          have HX := hide (fun (k : Nat) (hk : k < 32) => WinM.step_bit (t := t) (B := B) (n := n) HE hk)
          have HL := hide (WinM.bits_lt hr HE)
          generalize WinM.bitsOf t B n = x at HX HL ⊢
          generalize WinM.top t n = T at HX HT ⊢
          have hT0 : -1 ≤ T := by have := unhide HT; omega
          have hT1 : T ≤ 100000 := by have := unhide HT; omega
          have CC := hide (fun (m : Int) w => rcame_any (t := t) (B := B) m w hlo hhi h0 h1)
          have C1 := hide (unhide CC n)
          rw [hcame] at C1
          clear HE hr hcame
          generalize WinM.came t B = cm at CC HX
          go_enter Tryd.func22, Tryd.ntmps22
          go_wp2_with fail
          refine (unhide CT _).mono ?_
          rintro e w' ⟨rfl, rfl⟩
          go_wp2_with fail
          refine (unhide C1 _).mono ?_
          rintro e w1 ⟨rfl, hb1⟩
          obtain ⟨hc1, hf1, hz1⟩ := lies hb1
          try simp at hz1
          have HB1 := hide hb1
          clear hb1
          have g1 : w.heap.size < w1.heap.size := by omega
          have g11 : w.heap.size + 1 < w1.heap.size := by omega
          have HW1 := hide ((show Held _ w.heap.size [.int .i64 t, .int .i64 B] from (Held.fresh (w := w) [.int .i64 t, .int .i64 B] 46 rfl).later ((Below.refl _ _).alloc (by simp) _)).later (unhide HB1))
          have HR1 := hide ((show Held _ (w.heap.size + 1) [.int .i64 0, .int .i64 0] from Held.fresh [.int .i64 0, .int .i64 0] 46 (by simp)).later (unhide HB1))
          have HB := hide (show Below w.heap.size w w1 from (by (repeat' (first | exact Below.refl _ _ | refine Below.alloc ?_ ?_ _ | refine Below.setCell ?_ ?_ _ | refine Below.drew ?_ | refine Below.trans ?_ (Below.mono (unhide HB1) ?_))); all_goals (first | exact Nat.le_refl _ | omega | (simp; done) | (simp; omega))))
          go_wp2
          go_loopw [9, 10] (fun p k wr => ∃ j : Nat, j ≤ 32 ∧ k = .int .i64 j ∧ p = .int .i64 (2 ^ j) ∧ Hid (Held wr w1.heap.size [.int .i64 T, .int .i64 ((x % 2 ^ j : Nat) : Int)]) ∧ Hid (Held wr w.heap.size [.int .i64 t, .int .i64 B]) ∧ Hid (Held wr (w.heap.size + 1) [.int .i64 0, .int .i64 0]) ∧ Hid (Below w.heap.size w wr)) (fun _ k _ => 32 - (intOf k).toNat)
          case atStart => exact ⟨0, by omega, rfl, rfl, hide (by rw [unhide HT, Nat.pow_zero, Nat.mod_one]; exact Held.fresh _ _ rfl), hide ((unhide HW1).later ((Below.refl _ _).alloc (Nat.le_refl _) _)), hide ((unhide HR1).later ((Below.refl _ _).alloc (Nat.le_refl _) _)), hide ((unhide HB).alloc (unhide HB).size _)⟩
          case round =>
            obtain ⟨j, hj, rfl, rfl, HO, HW, HR, HB⟩ := hrel
            clear HW1 HR1 HB1 hc1 hf1
            obtain ⟨⟨o0, o1⟩, f0, f1⟩ := (unhide HO).c2
            obtain ⟨⟨a0, a1⟩, -⟩ := (unhide HW).c2
            have ol := (unhide HO).2
            have al := (unhide HW).2
            by_cases hj32 : (j : Int) < 32
            · have HS := hide (WinM.mod_step x j)
              have HP := hide (show (2 : Int) ^ (j + 1) = 2 * 2 ^ j by rw [Int.pow_succ, Int.mul_comm])
              have hp1 : (2 : Int) ^ j ≤ 2147483648 := WinM.pow31 (by omega)
              have hp0 : 0 ≤ (2 : Int) ^ j := Int.le_of_lt (Int.pow_pos (by decide))
              have hs1 : ((x % 2 ^ j : Nat) : Int) ≤ 4294967295 := by
                have h1 := Nat.mod_le x (2 ^ j)
                have h2 := unhide HL
                rw [show (2 : Nat) ^ 32 = 4294967296 from rfl] at h2
                omega
              have hs0 : 0 ≤ ((x % 2 ^ j : Nat) : Int) := by omega
              have HQ := hide (unhide HX j (by omega))
              have CJ := hide (unhide CC (T - j))
              have HI := hide (show ((x % 2 ^ (j + 1) : Nat) : Int) = ((x % 2 ^ j : Nat) : Int) + if x.testBit j = true then 2 ^ j else 0 by
                rw [unhide HS]
                split <;> simp)
              clear HS
              generalize ((x % 2 ^ j : Nat) : Int) = s at HO o1 hs0 hs1 HI
              generalize (2 : Int) ^ j = p at hp0 hp1 HI HP ⊢
              generalize cm (T - j) = q at CJ HQ
              cases q with
              | true =>
                have HI' := hide (show ((x % 2 ^ (j + 1) : Nat) : Int) = s + p by rw [unhide HI, if_pos (by rw [← unhide HQ]; rfl)])
                clear HI HQ
                go_wp2_with fail
                refine (unhide CJ _).mono ?_
                rintro e w2 ⟨rfl, hb2⟩
                have HO2 := hide ((unhide HO).later hb2)
                have HW2 := hide ((unhide HW).later hb2)
                have HR2 := hide ((unhide HR).later hb2)
                have HB2 := hide (bel3 (unhide HB) (Below.refl _ _) hb2)
                clear hb2 o0 o1 f0 f1 a0 a1 ol al HO HW HR HB
                obtain ⟨⟨o0, o1⟩, f0, f1⟩ := (unhide HO2).c2
                have ol := (unhide HO2).2
                go_wp2
                go_roundw
                case rel => exact ⟨j + 1, by omega, by go_num, by rw [unhide HP], hide (by rw [unhide HI']; exact (unhide HO2).put 1 _), hide ((unhide HW2).far (by omega) 1 _), hide ((unhide HR2).far (by omega) 1 _), hide ((unhide HB2).setCell (by show w.heap.size ≤ w1.heap.size; omega) _)⟩
                case measure => simp [intOf]; omega
              | false =>
                by_cases hE : T - (j : Int) = n
                · subst hE
                  have HI' := hide (show ((x % 2 ^ (j + 1) : Nat) : Int) = s + p by rw [unhide HI, if_pos (by rw [← unhide HQ]; simp)])
                  clear HI HQ
                  go_wp2_with fail
                  refine (unhide CJ _).mono ?_
                  rintro e w2 ⟨rfl, hb2⟩
                  have HO2 := hide ((unhide HO).later hb2)
                  have HW2 := hide ((unhide HW).later hb2)
                  have HR2 := hide ((unhide HR).later hb2)
                  have HB2 := hide (bel3 (unhide HB) (Below.refl _ _) hb2)
                  clear hb2 o0 o1 f0 f1 a0 a1 ol al HO HW HR HB
                  obtain ⟨⟨o0, o1⟩, f0, f1⟩ := (unhide HO2).c2
                  have ol := (unhide HO2).2
                  go_wp2
                  go_roundw
                  case rel => exact ⟨j + 1, by omega, by go_num, by rw [unhide HP], hide (by rw [unhide HI']; exact (unhide HO2).put 1 _), hide ((unhide HW2).far (by omega) 1 _), hide ((unhide HR2).far (by omega) 1 _), hide ((unhide HB2).setCell (by show w.heap.size ≤ w1.heap.size; omega) _)⟩
                  case measure => simp [intOf]; omega
                · have hE' : (T - (j : Int) == n) = false := by simp [hE]
                  have HI' := hide (show ((x % 2 ^ (j + 1) : Nat) : Int) = s by rw [unhide HI, if_neg (by rw [← unhide HQ]; simp [hE]), Int.add_zero])
                  clear HI HQ
                  go_wp2_with fail
                  refine (unhide CJ _).mono ?_
                  rintro e w2 ⟨rfl, hb2⟩
                  have HO2 := hide ((unhide HO).later hb2)
                  have HW2 := hide ((unhide HW).later hb2)
                  have HR2 := hide ((unhide HR).later hb2)
                  have HB2 := hide (bel3 (unhide HB) (Below.refl _ _) hb2)
                  clear hb2 o0 o1 f0 f1 a0 a1 ol al HO HW HR HB
                  obtain ⟨⟨o0, o1⟩, f0, f1⟩ := (unhide HO2).c2
                  have ol := (unhide HO2).2
                  go_wp2
                  go_roundw
                  case rel => exact ⟨j + 1, by omega, by go_num, by rw [unhide HP], hide (by rw [unhide HI']; exact unhide HO2), HW2, HR2, HB2⟩
                  case measure => simp [intOf]; omega
            · obtain rfl : j = 32 := by omega
              have HV := hide (show ((x % 2 ^ 32 : Nat) : Int) = (x : Int) by rw [Nat.mod_eq_of_lt (unhide HL)])
              rw [unhide HV] at o1
              obtain ⟨⟨r0, r1⟩, q0, q1⟩ := (unhide HR).c2
              have rl := (unhide HR).2
              skip
              go_wp2
              exact bodyPost_ret (v := .tuple #[.agg #[.int .i64 T, .int .i64 (x : Int)], .int .i64 0]) (by simp [results, Tryd.results22, go_sem, r0, r1]) rfl ⟨rfl, (by (repeat' (first | exact Below.refl _ _ | refine Below.alloc ?_ ?_ _ | refine Below.setCell ?_ ?_ _ | refine Below.drew ?_ | refine Below.trans ?_ (Below.mono (unhide HB) ?_))); all_goals (first | exact Nat.le_refl _ | omega | (simp; done) | (simp; omega)))⟩
end Go.Proofs.YtbacjhdghepckacDoor
