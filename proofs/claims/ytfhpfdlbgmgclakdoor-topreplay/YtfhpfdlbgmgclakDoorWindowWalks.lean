/-
  What the calls of package window come to, said of a window's two numbers: New, below, Check, moved, marked, Take.
-/
import Derived.Test.YtfhpfdlbgmgclakDoorTokenWalks
import Derived.Test.YtfhpfdlbgmgclakDoorWindowMath
namespace Go.Proofs.YtfhpfdlbgmgclakDoor
open Go.RowKit

theorem w64 (n : Int) : wrap64 n = IntKind.i64.wrap n := by rw [IntKind.wrap_i64]; unfold wrap64; rfl

theorem wnew_any (w : World) : Calls Tryd.prog 21 #[] w fun e w' => e = .returned (.agg #[.int .i64 (-1), .int .i64 0]) ∧ Below w.heap.size w w' := by
  go_enter Tryd.func21, Tryd.ntmps21
  go_wp2
  exact bodyPost_ret (v := .agg #[.int .i64 (-1), .int .i64 0]) (by simp [results, Tryd.results21, go_sem]) rfl ⟨rfl, (by (repeat' (first | exact Below.refl _ _ | refine Below.alloc ?_ ?_ _ | refine Below.setCell ?_ ?_ _ | refine Below.drew ?_)); all_goals (first | exact Nat.le_refl _ | omega | (simp; done) | (simp; omega)))⟩

theorem below_any (t B : Int) (w : World) (h0 : -1 ≤ t) (h1 : t ≤ 100000) : Calls Tryd.prog 53 #[.agg #[.int .i64 t, .int .i64 B]] w fun e w' => e = .returned (.int .i64 (B / 2 ^ min (t + 1).toNat 64)) ∧ Below w.heap.size w w' := by
  have h2 : 0 ≤ t + 1 := by omega
  go_enter Tryd.func53, Tryd.ntmps53
  go_wp2
  go_ret
  exact ⟨rfl, (by (repeat' (first | exact Below.refl _ _ | refine Below.alloc ?_ ?_ _ | refine Below.setCell ?_ ?_ _ | refine Below.drew ?_)); all_goals (first | exact Nat.le_refl _ | omega | (simp; done) | (simp; omega)))⟩

set_option maxHeartbeats 1600000 in
theorem wcheck_any (t B : Int) (w : World) : Calls Tryd.prog 28 #[.agg #[.int .i64 t, .int .i64 B]] w fun e w' => e = .returned (errV (WinM.fault t B)) ∧ Below w.heap.size w w' := by
  by_cases h1 : t < -1 ∨ 100000 < t
  · rw [WinM.fault_low (by omega), errV_pos (by omega)]
    have C := hide (fun w => time_any t w)
    rw [(TokenM.timeB_not t).2 (by omega)] at C
    have hm : ¬ t = -1 := by omega
    have hm' : (t == -1) = false := by simp [hm]
    clear h1
    go_enter Tryd.func28, Tryd.ntmps28
    go_wp2_with fail
    refine (unhide C _).mono ?_
    rintro e w' ⟨rfl, rfl⟩
    go_wp2
    go_ret
    exact ⟨rfl, (by (repeat' (first | exact Below.refl _ _ | refine Below.alloc ?_ ?_ _ | refine Below.setCell ?_ ?_ _ | refine Below.drew ?_)); all_goals (first | exact Nat.le_refl _ | omega | (simp; done) | (simp; omega)))⟩
  · have C := hide (fun w => time_any t w)
    have hq := fun (h : ¬ (B < 0 ∨ 4294967295 < B)) => hide (WinM.fault_rest (t := t) (B := B) (by omega))
    have CB := hide (fun w => below_any t B w (by omega) (by omega))
    by_cases hm : t = -1
    · subst hm
      have HM := hide (show (-1 : Int) = -1 from rfl)
      by_cases h2 : B < 0
      · rw [WinM.fault_low (by omega), errV_pos (by omega)]
        clear h1 hq
        go_enter Tryd.func28, Tryd.ntmps28
        go_wp2
        go_ret
        exact ⟨rfl, (by (repeat' (first | exact Below.refl _ _ | refine Below.alloc ?_ ?_ _ | refine Below.setCell ?_ ?_ _ | refine Below.drew ?_)); all_goals (first | exact Nat.le_refl _ | omega | (simp; done) | (simp; omega)))⟩
      · by_cases h3 : 4294967295 < B
        · rw [WinM.fault_low (by omega), errV_pos (by omega)]
          clear h1 hq
          go_enter Tryd.func28, Tryd.ntmps28
          go_wp2
          go_ret
          exact ⟨rfl, (by (repeat' (first | exact Below.refl _ _ | refine Below.alloc ?_ ?_ _ | refine Below.setCell ?_ ?_ _ | refine Below.drew ?_)); all_goals (first | exact Nat.le_refl _ | omega | (simp; done) | (simp; omega)))⟩
        · have HQ := hq (by omega)
          generalize WinM.fault (-1) B = E at HQ ⊢
          generalize B / 2 ^ min ((-1 : Int) + 1).toNat 64 = q at CB HQ
          clear h1 hq
          by_cases hq : q = 0
          · have hq' : (q == 0) = true := by simp [hq]
            have HE := hide (show E = 0 by rw [unhide HQ, if_neg (by rintro (⟨h, _⟩ | h); exact h (unhide HM); exact h hq)])
            clear HQ
            go_enter Tryd.func28, Tryd.ntmps28
            go_wp2_with fail
            refine (unhide CB _).mono ?_
            rintro e w1 ⟨rfl, hb1⟩
            obtain ⟨hc1, hf1, hz1⟩ := lies hb1
            try simp at hz1
            have HB1 := hide hb1
            clear hb1
            go_wp2
            go_ret
            exact ⟨by rw [unhide HE, errV_zero rfl]; rfl, (by (repeat' (first | exact Below.refl _ _ | refine Below.alloc ?_ ?_ _ | refine Below.setCell ?_ ?_ _ | refine Below.drew ?_ | refine Below.trans ?_ (Below.mono (unhide HB1) ?_))); all_goals (first | exact Nat.le_refl _ | omega | (simp; done) | (simp; omega)))⟩
          · have hq' : (q == 0) = false := by simp [hq]
            have HE := hide (show E = 3 by rw [unhide HQ, if_pos (.inr hq)])
            clear HQ
            go_enter Tryd.func28, Tryd.ntmps28
            go_wp2_with fail
            refine (unhide CB _).mono ?_
            rintro e w1 ⟨rfl, hb1⟩
            obtain ⟨hc1, hf1, hz1⟩ := lies hb1
            try simp at hz1
            have HB1 := hide hb1
            clear hb1
            go_wp2
            go_ret
            exact ⟨by rw [unhide HE, errV_pos (by omega)]; rfl, (by (repeat' (first | exact Below.refl _ _ | refine Below.alloc ?_ ?_ _ | refine Below.setCell ?_ ?_ _ | refine Below.drew ?_ | refine Below.trans ?_ (Below.mono (unhide HB1) ?_))); all_goals (first | exact Nat.le_refl _ | omega | (simp; done) | (simp; omega)))⟩
    · have hm' : (t == -1) = false := by simp [hm]
      have HM := hide hm
      rw [(TokenM.timeB_iff t).2 (by omega)] at C
      by_cases h2 : B < 0
      · rw [WinM.fault_low (by omega), errV_pos (by omega)]
        clear h1 hq
        go_enter Tryd.func28, Tryd.ntmps28
        go_wp2_with fail
        refine (unhide C _).mono ?_
        rintro e w' ⟨rfl, rfl⟩
        go_wp2
        go_ret
        exact ⟨rfl, (by (repeat' (first | exact Below.refl _ _ | refine Below.alloc ?_ ?_ _ | refine Below.setCell ?_ ?_ _ | refine Below.drew ?_)); all_goals (first | exact Nat.le_refl _ | omega | (simp; done) | (simp; omega)))⟩
      · by_cases h3 : 4294967295 < B
        · rw [WinM.fault_low (by omega), errV_pos (by omega)]
          clear h1 hq
          go_enter Tryd.func28, Tryd.ntmps28
          go_wp2_with fail
          refine (unhide C _).mono ?_
          rintro e w' ⟨rfl, rfl⟩
          go_wp2
          go_ret
          exact ⟨rfl, (by (repeat' (first | exact Below.refl _ _ | refine Below.alloc ?_ ?_ _ | refine Below.setCell ?_ ?_ _ | refine Below.drew ?_)); all_goals (first | exact Nat.le_refl _ | omega | (simp; done) | (simp; omega)))⟩
        · have HQ := hq (by omega)
          have he := WinM.odd_eq (B := B) (by omega) (by omega)
          generalize WinM.fault t B = E at HQ ⊢
          generalize B / 2 ^ min (t + 1).toNat 64 = q at CB HQ
          clear h1 hq
          by_cases ho : B % 2 = 0
          · have HE := hide (show E = 3 by rw [unhide HQ, if_pos (.inl ⟨unhide HM, ho⟩)])
            rw [← he] at ho
            have ho' : (bits .and .i64 B 1 == 0) = true := by simp [ho]
            clear HQ he
            go_enter Tryd.func28, Tryd.ntmps28
            go_wp2_with fail
            refine (unhide C _).mono ?_
            rintro e w' ⟨rfl, rfl⟩
            go_wp2
            go_ret
            exact ⟨by rw [unhide HE, errV_pos (by omega)]; rfl, (by (repeat' (first | exact Below.refl _ _ | refine Below.alloc ?_ ?_ _ | refine Below.setCell ?_ ?_ _ | refine Below.drew ?_)); all_goals (first | exact Nat.le_refl _ | omega | (simp; done) | (simp; omega)))⟩
          · have HO := hide ho
            rw [← he] at ho
            have ho' : (bits .and .i64 B 1 == 0) = false := by simp [ho]
            clear he
            by_cases hq : q = 0
            · have hq' : (q == 0) = true := by simp [hq]
              have HE := hide (show E = 0 by rw [unhide HQ, if_neg (by rintro (⟨_, h⟩ | h); exact unhide HO h; exact h hq)])
              clear HQ
              go_enter Tryd.func28, Tryd.ntmps28
              go_wp2_with fail
              refine (unhide C _).mono ?_
              rintro e w' ⟨rfl, rfl⟩
              go_wp2_with fail
              refine (unhide CB _).mono ?_
              rintro e w1 ⟨rfl, hb1⟩
              obtain ⟨hc1, hf1, hz1⟩ := lies hb1
              try simp at hz1
              have HB1 := hide hb1
              clear hb1
              go_wp2
              go_ret
              exact ⟨by rw [unhide HE, errV_zero rfl]; rfl, (by (repeat' (first | exact Below.refl _ _ | refine Below.alloc ?_ ?_ _ | refine Below.setCell ?_ ?_ _ | refine Below.drew ?_ | refine Below.trans ?_ (Below.mono (unhide HB1) ?_))); all_goals (first | exact Nat.le_refl _ | omega | (simp; done) | (simp; omega)))⟩
            · have hq' : (q == 0) = false := by simp [hq]
              have HE := hide (show E = 3 by rw [unhide HQ, if_pos (.inr hq)])
              clear HQ
              go_enter Tryd.func28, Tryd.ntmps28
              go_wp2_with fail
              refine (unhide C _).mono ?_
              rintro e w' ⟨rfl, rfl⟩
              go_wp2_with fail
              refine (unhide CB _).mono ?_
              rintro e w1 ⟨rfl, hb1⟩
              obtain ⟨hc1, hf1, hz1⟩ := lies hb1
              try simp at hz1
              have HB1 := hide hb1
              clear hb1
              go_wp2
              go_ret
              exact ⟨by rw [unhide HE, errV_pos (by omega)]; rfl, (by (repeat' (first | exact Below.refl _ _ | refine Below.alloc ?_ ?_ _ | refine Below.setCell ?_ ?_ _ | refine Below.drew ?_ | refine Below.trans ?_ (Below.mono (unhide HB1) ?_))); all_goals (first | exact Nat.le_refl _ | omega | (simp; done) | (simp; omega)))⟩

theorem moved_any {t B n : Int} (w : World) (hr : WinM.Right t B) (hn : n ≤ 100000) (hlt : t < n) : Calls Tryd.prog 48 #[.agg #[.int .i64 t, .int .i64 B], .int .i64 n] w fun e w' => e = .returned (.agg #[.int .i64 n, .int .i64 (WinM.moved B (n - t).toNat : Nat)]) ∧ Below w.heap.size w w' := by
  have hlo := hr.lo
  have hE := hide (show bits .or .i64 (bits .and .i64 (wrap64 (B * 2 ^ min (n - t).toNat 64)) 4294967295) 1 = (WinM.moved B (n - t).toNat : Nat) by rw [w64]; exact WinM.moved_eq hr.nn (n - t).toNat)
  clear hr
  have h2 : t ≤ n := by omega
  have h3 : 0 ≤ n - t := by omega
  generalize ((WinM.moved B (n - t).toNat : Nat) : Int) = E at hE ⊢
  go_enter Tryd.func48, Tryd.ntmps48
  go_wp2
  exact bodyPost_ret (v := .agg #[.int .i64 n, .int .i64 E]) (by rw [← unhide hE]; simp [results, Tryd.results48, go_sem]) rfl ⟨rfl, (by (repeat' (first | exact Below.refl _ _ | refine Below.alloc ?_ ?_ _ | refine Below.setCell ?_ ?_ _ | refine Below.drew ?_)); all_goals (first | exact Nat.le_refl _ | omega | (simp; done) | (simp; omega)))⟩

theorem marked_any {t B n : Int} (w : World) (hr : WinM.Right t B) (hn : 0 ≤ n) (hlt : n ≤ t) : Calls Tryd.prog 49 #[.agg #[.int .i64 t, .int .i64 B], .int .i64 n] w fun e w' => e = .returned (.tuple #[.agg #[.int .i64 (if WinM.restErr t B n = 0 then t else 0), .int .i64 (if WinM.restErr t B n = 0 then (WinM.marked B (t - n).toNat : Nat) else 0)], errV (WinM.restErr t B n)]) ∧ Below w.heap.size w w' := by
  have hlo := hr.lo
  have hhi := hr.hi
  by_cases h32 : 32 ≤ t - n
  · have HE : WinM.restErr t B n = 9 := by unfold WinM.restErr; rw [if_neg (by omega), if_neg (by omega), if_pos h32]
    rw [HE, errV_pos (by omega), if_neg (by omega), if_neg (by omega)]
    clear HE hr
    go_enter Tryd.func49, Tryd.ntmps49
    go_wp2
    exact bodyPost_ret (v := .tuple #[.agg #[.int .i64 0, .int .i64 0], .iface 67 (.int .i64 9)]) (by simp [results, Tryd.results49, go_sem]) rfl ⟨rfl, (by (repeat' (first | exact Below.refl _ _ | refine Below.alloc ?_ ?_ _ | refine Below.setCell ?_ ?_ _ | refine Below.drew ?_)); all_goals (first | exact Nat.le_refl _ | omega | (simp; done) | (simp; omega)))⟩
  · have hd : (t - n).toNat < 32 := by omega
    have hone : wrap64 (2 ^ (t - n).toNat) = ((2 ^ (t - n).toNat : Nat) : Int) := by rw [w64]; exact WinM.one_bit hd
    have hc := WinM.came_eq hr.nn hr.lt hd
    have hk := WinM.marked_eq hr.nn hr.lt hd
    rw [← hone] at hc hk
    have h2 : 0 ≤ t - n := by omega
    by_cases hb : WinM.bit B (t - n).toNat = true
    · have HE : WinM.restErr t B n = 7 := by unfold WinM.restErr; rw [if_neg (by omega), if_neg (by omega), if_neg h32, if_pos hb]
      rw [HE, errV_pos (by omega), if_neg (by omega), if_neg (by omega)]
      have hx : ¬ bits .and .i64 B (wrap64 (2 ^ (t - n).toNat)) = 0 := fun e => by rw [hc.1 e] at hb; cases hb
      have hx' : (bits .and .i64 B (wrap64 (2 ^ (t - n).toNat)) != 0) = true := by simp [hx]
      clear HE hr hone hc hk hb
      go_enter Tryd.func49, Tryd.ntmps49
      go_wp2
      exact bodyPost_ret (v := .tuple #[.agg #[.int .i64 0, .int .i64 0], .iface 67 (.int .i64 7)]) (by simp [results, Tryd.results49, go_sem]) rfl ⟨rfl, (by (repeat' (first | exact Below.refl _ _ | refine Below.alloc ?_ ?_ _ | refine Below.setCell ?_ ?_ _ | refine Below.drew ?_)); all_goals (first | exact Nat.le_refl _ | omega | (simp; done) | (simp; omega)))⟩
    · have HE : WinM.restErr t B n = 0 := by unfold WinM.restErr; rw [if_neg (by omega), if_neg (by omega), if_neg h32, if_neg hb]
      rw [HE, errV_zero rfl, if_pos rfl, if_pos rfl]
      have hx : bits .and .i64 B (wrap64 (2 ^ (t - n).toNat)) = 0 := hc.2 (by simpa using hb)
      have hx' : (bits .and .i64 B (wrap64 (2 ^ (t - n).toNat)) != 0) = false := by simp [hx]
      have HK := hide hk
      generalize ((WinM.marked B (t - n).toNat : Nat) : Int) = E at HK ⊢
      clear HE hr hone hc hk hb
      go_enter Tryd.func49, Tryd.ntmps49
      go_wp2
      exact bodyPost_ret (v := .tuple #[.agg #[.int .i64 t, .int .i64 E], .nilIface]) (by rw [← unhide HK]; simp [results, Tryd.results49, go_sem]) rfl ⟨rfl, (by (repeat' (first | exact Below.refl _ _ | refine Below.alloc ?_ ?_ _ | refine Below.setCell ?_ ?_ _ | refine Below.drew ?_)); all_goals (first | exact Nat.le_refl _ | omega | (simp; done) | (simp; omega)))⟩

set_option maxHeartbeats 1600000 in
/-- Take, every way. -/
theorem wtake_any (t B n : Int) (w : World) : Calls Tryd.prog 24 #[.agg #[.int .i64 t, .int .i64 B], .int .i64 n] w fun e w' => e = .returned (.tuple #[.agg #[.int .i64 (WinM.taken t B n).1, .int .i64 (WinM.taken t B n).2], errV (WinM.takeErr t B n)]) ∧ Below w.heap.size w w' := by
  have C := hide (fun w => wcheck_any t B w)
  have CT := hide (fun w => time_any n w)
  by_cases hf : WinM.fault t B = 0
  · rw [errV_zero hf] at C
    have hr := WinM.fault_zero.1 hf
    have ht := hr.hi
    have hl := hr.lo
    by_cases hn : n < 0 ∨ 100000 < n
    · have HE : WinM.takeErr t B n = 1 := by rw [WinM.take_rest n hf]; unfold WinM.restErr; rw [if_pos hn]
      rw [WinM.taken_no (by omega), HE, errV_pos (by omega)]
      rw [(TokenM.timeB_not n).2 hn] at CT
      clear HE hr hf hn
      go_enter Tryd.func24, Tryd.ntmps24
      go_wp2_with fail
      refine (unhide C _).mono ?_
      rintro e w1 ⟨rfl, hb1⟩
      obtain ⟨hc1, hf1, hz1⟩ := lies hb1
      try simp at hz1
      have HB1 := hide hb1
      clear hb1
      go_wp2_with fail
      refine (unhide CT _).mono ?_
      rintro e w' ⟨rfl, rfl⟩
      go_wp2
      exact bodyPost_ret (v := .tuple #[.agg #[.int .i64 0, .int .i64 0], .iface 67 (.int .i64 1)]) (by simp [results, Tryd.results24, go_sem, hc1]) rfl ⟨rfl, (by (repeat' (first | exact Below.refl _ _ | refine Below.alloc ?_ ?_ _ | refine Below.setCell ?_ ?_ _ | refine Below.drew ?_ | refine Below.trans ?_ (Below.mono (unhide HB1) ?_))); all_goals (first | exact Nat.le_refl _ | omega | (simp; done) | (simp; omega)))⟩
    · rw [(TokenM.timeB_iff n).2 (by omega)] at CT
      by_cases hlt : t < n
      · have HE : WinM.takeErr t B n = 0 := by rw [WinM.take_rest n hf]; unfold WinM.restErr; rw [if_neg hn, if_pos hlt]
        rw [WinM.taken_yes HE, HE, errV_zero rfl]
        unfold WinM.top WinM.bitsOf
        rw [if_pos hlt, if_pos hlt]
        have CM := hide (fun w => moved_any w hr (n := n) (by omega) hlt)
        generalize ((WinM.moved B (n - t).toNat : Nat) : Int) = E at CM ⊢
        clear HE hr hf hn
        go_enter Tryd.func24, Tryd.ntmps24
        go_wp2_with fail
        refine (unhide C _).mono ?_
        rintro e w1 ⟨rfl, hb1⟩
        obtain ⟨hc1, hf1, hz1⟩ := lies hb1
        try simp at hz1
        have HB1 := hide hb1
        clear hb1
        have g1 : w.heap.size < w1.heap.size := by omega
        have g11 : w.heap.size + 1 < w1.heap.size := by omega
        go_wp2_with fail
        refine (unhide CT _).mono ?_
        rintro e w' ⟨rfl, rfl⟩
        go_wp2_with fail
        refine (unhide CM _).mono ?_
        rintro e w2 ⟨rfl, hb2⟩
        obtain ⟨hc2, hf2, hz2⟩ := lies hb2
        try simp at hz2
        have HB2 := hide hb2
        clear hb2
        have g2 : w.heap.size < w2.heap.size := by omega
        have g21 : w.heap.size + 1 < w2.heap.size := by omega
        go_wp2
        exact bodyPost_ret (v := .tuple #[.agg #[.int .i64 n, .int .i64 E], .nilIface]) (by simp [results, Tryd.results24, go_sem, hc1, hc2, g11]) rfl ⟨rfl, (by (repeat' (first | exact Below.refl _ _ | refine Below.alloc ?_ ?_ _ | refine Below.setCell ?_ ?_ _ | refine Below.drew ?_ | refine Below.trans ?_ (Below.mono (unhide HB2) ?_) | refine Below.trans ?_ (Below.mono (unhide HB1) ?_))); all_goals (first | exact Nat.le_refl _ | omega | (simp; done) | (simp; omega)))⟩
      · have HE := WinM.take_rest (t := t) (B := B) n hf
        have CM := hide (fun w => marked_any w hr (n := n) (by omega) (by omega))
        have HT : WinM.taken t B n = (if WinM.restErr t B n = 0 then t else 0, if WinM.restErr t B n = 0 then ((WinM.marked B (t - n).toNat : Nat) : Int) else 0) := by
          unfold WinM.taken WinM.top WinM.bitsOf
          rw [HE, if_neg hlt, if_neg hlt]
          split <;> rfl
        rw [HT, HE]
        dsimp only
        generalize (if WinM.restErr t B n = 0 then t else 0) = E1 at CM ⊢
        generalize (if WinM.restErr t B n = 0 then ((WinM.marked B (t - n).toNat : Nat) : Int) else 0) = E2 at CM ⊢
        generalize WinM.restErr t B n = E3 at CM ⊢
        clear HE HT hr hf hn
        generalize errV E3 = v3 at CM ⊢
        go_enter Tryd.func24, Tryd.ntmps24
        go_wp2_with fail
        refine (unhide C _).mono ?_
        rintro e w1 ⟨rfl, hb1⟩
        obtain ⟨hc1, hf1, hz1⟩ := lies hb1
        try simp at hz1
        have HB1 := hide hb1
        clear hb1
        have g1 : w.heap.size < w1.heap.size := by omega
        have g11 : w.heap.size + 1 < w1.heap.size := by omega
        go_wp2_with fail
        refine (unhide CT _).mono ?_
        rintro e w' ⟨rfl, rfl⟩
        go_wp2_with fail
        refine (unhide CM _).mono ?_
        rintro e w2 ⟨rfl, hb2⟩
        obtain ⟨hc2, hf2, hz2⟩ := lies hb2
        try simp at hz2
        have HB2 := hide hb2
        clear hb2
        have g2 : w.heap.size < w2.heap.size := by omega
        have g21 : w.heap.size + 1 < w2.heap.size := by omega
        go_wp2
        exact bodyPost_ret (v := .tuple #[.agg #[.int .i64 E1, .int .i64 E2], v3]) (by simp [results, Tryd.results24, go_sem, hc1, hc2, g11]) rfl ⟨rfl, (by (repeat' (first | exact Below.refl _ _ | refine Below.alloc ?_ ?_ _ | refine Below.setCell ?_ ?_ _ | refine Below.drew ?_ | refine Below.trans ?_ (Below.mono (unhide HB2) ?_) | refine Below.trans ?_ (Below.mono (unhide HB1) ?_))); all_goals (first | exact Nat.le_refl _ | omega | (simp; done) | (simp; omega)))⟩
  · have HE := WinM.take_bad n hf
    rw [WinM.taken_no (by rw [HE]; exact hf), HE]
    rw [errV_pos hf] at C ⊢
    generalize WinM.fault t B = E at C ⊢
    clear hf HE
    go_enter Tryd.func24, Tryd.ntmps24
    go_wp2_with fail
    refine (unhide C _).mono ?_
    rintro e w1 ⟨rfl, hb1⟩
    obtain ⟨hc1, hf1, hz1⟩ := lies hb1
    try simp at hz1
    have HB1 := hide hb1
    clear hb1
    go_wp2
    exact bodyPost_ret (v := .tuple #[.agg #[.int .i64 0, .int .i64 0], .iface 67 (.int .i64 E)]) (by simp [results, Tryd.results24, go_sem, hc1]) rfl ⟨rfl, (by (repeat' (first | exact Below.refl _ _ | refine Below.alloc ?_ ?_ _ | refine Below.setCell ?_ ?_ _ | refine Below.drew ?_ | refine Below.trans ?_ (Below.mono (unhide HB1) ?_))); all_goals (first | exact Nat.le_refl _ | omega | (simp; done) | (simp; omega)))⟩
end Go.Proofs.YtfhpfdlbgmgclakDoor
