/-
  What the calls of package ticket come to, said of a ring's and a ticket's numbers: fits, Make, Check.
-/
import Derived.Test.YthaicpepgianpakGreatDoorTokenWalks
import Derived.Test.YthaicpepgianpakGreatDoorJoinedTokenMath
namespace Go.Proofs.YthaicpepgianpakGreatDoor
open Go.RowKit

theorem kfits_any (te ta tt tg : Int) (w : World) :
    Calls Tryz.prog 153 #[.agg #[.int .i64 te, .int .i64 ta, .int .i64 tt, .int .i64 tg]] w fun e w' => e = .returned (.bool (TagM.inB ta && TokenM.timeB tt && TagM.inB tg)) ∧ Below w.heap.size w w' := by
  have C1 := hide (fits_any ta)
  have C2 := hide (time_any tt)
  have C3 := hide (fits_any tg)
  generalize TagM.inB ta = a at C1 ⊢
  generalize TokenM.timeB tt = b at C2 ⊢
  generalize TagM.inB tg = c at C3 ⊢
  cases a
  · go_enter Tryz.func153, Tryz.ntmps153
    go_wp2_with fail
    refine (unhide C1 _).mono ?_
    rintro e w' ⟨rfl, rfl⟩
    go_wp2
    go_ret
    exact ⟨rfl, (by (repeat' (first | exact Below.refl _ _ | refine Below.alloc ?_ ?_ _ | refine Below.setCell ?_ ?_ _ | refine Below.drew ?_)); all_goals (first | exact Nat.le_refl _ | omega | (simp; done) | (simp; omega)))⟩
  · cases b
    · go_enter Tryz.func153, Tryz.ntmps153
      go_wp2_with fail
      refine (unhide C1 _).mono ?_
      rintro e w' ⟨rfl, rfl⟩
      go_wp2_with fail
      refine (unhide C2 _).mono ?_
      rintro e w' ⟨rfl, rfl⟩
      go_wp2
      go_ret
      exact ⟨rfl, (by (repeat' (first | exact Below.refl _ _ | refine Below.alloc ?_ ?_ _ | refine Below.setCell ?_ ?_ _ | refine Below.drew ?_)); all_goals (first | exact Nat.le_refl _ | omega | (simp; done) | (simp; omega)))⟩
    · go_enter Tryz.func153, Tryz.ntmps153
      go_wp2_with fail
      refine (unhide C1 _).mono ?_
      rintro e w' ⟨rfl, rfl⟩
      go_wp2_with fail
      refine (unhide C2 _).mono ?_
      rintro e w' ⟨rfl, rfl⟩
      go_wp2_with fail
      refine (unhide C3 _).mono ?_
      rintro e w' ⟨rfl, rfl⟩
      go_wp2
      go_ret
      exact ⟨by simp, (by (repeat' (first | exact Below.refl _ _ | refine Below.alloc ?_ ?_ _ | refine Below.setCell ?_ ?_ _ | refine Below.drew ?_)); all_goals (first | exact Nat.le_refl _ | omega | (simp; done) | (simp; omega)))⟩

set_option maxHeartbeats 800000 in
theorem kmake_yes {ep key old a t : Int} (w : World) (h : TokenM.makeErr ep key old a t = 0) :
    Calls Tryz.prog 122 #[.agg #[.int .i64 ep, .int .i64 key, .int .i64 old], .int .i64 a, .int .i64 t] w fun e w' => e = .returned (.tuple #[.agg #[.int .i64 ep, .int .i64 a, .int .i64 t, .int .i64 (TagM.tag key [2, a, t])], .nilIface]) ∧ Below w.heap.size w w' := by
  obtain ⟨he, ha, ht⟩ := TokenM.make_zero.1 h
  have C := hide (fun w => rcheck_yes w he)
  have C1 := hide (fits_any a)
  have C2 := hide (time_any t)
  rw [ha] at C1
  rw [ht] at C2
  obtain ⟨_, hk, _⟩ := RingM.err_zero.1 he
  have HA := hide ha
  have HT := hide (TokenM.timeB_in ht)
  have HK := hide hk
  clear h he ha ht hk
  go_enter Tryz.func122, Tryz.ntmps122
  go_wp2_with fail
  refine (unhide C _).mono ?_
  rintro e w1 ⟨rfl, hb1⟩
  obtain ⟨hc1, hf1, hz1⟩ := lies hb1
  try simp at hz1
  have HB1 := hide hb1
  clear hb1
  have g1 : w.heap.size < w1.heap.size := by omega
  have g11 : w.heap.size + 1 < w1.heap.size := by omega
  go_wp2_with fail
  refine (unhide C1 _).mono ?_
  rintro e w' ⟨rfl, rfl⟩
  go_wp2_with fail
  refine (unhide C2 _).mono ?_
  rintro e w' ⟨rfl, rfl⟩
  go_wp2_with fail
  refine (of3_yes key 2 a t _ _ (by simp) (by simp) (by simp) (unhide HK) rfl (unhide HA) (unhide HT)).mono ?_
  rintro e w' ⟨rfl, rfl⟩
  go_wp2
  exact bodyPost_ret (v := .tuple #[.agg #[.int .i64 ep, .int .i64 a, .int .i64 t, .int .i64 (TagM.tag key [2, a, t])], .nilIface]) (by simp [results, Tryz.results122, go_sem, hc1, g11]) rfl ⟨rfl, (by (repeat' (first | exact Below.refl _ _ | refine Below.alloc ?_ ?_ _ | refine Below.setCell ?_ ?_ _ | refine Below.drew ?_ | refine Below.trans ?_ (Below.mono (unhide HB1) ?_))); all_goals (first | exact Nat.le_refl _ | omega | (simp; done) | (simp; omega)))⟩

set_option maxHeartbeats 800000 in
theorem kmake_no {ep key old a t : Int} (w : World) (h : ¬ TokenM.makeErr ep key old a t = 0) :
    Calls Tryz.prog 122 #[.agg #[.int .i64 ep, .int .i64 key, .int .i64 old], .int .i64 a, .int .i64 t] w fun e w' => e = .returned (.tuple #[.agg #[.int .i64 0, .int .i64 0, .int .i64 0, .int .i64 0], .iface 85 (.int .i64 (TokenM.makeErr ep key old a t))]) ∧ Below w.heap.size w w' := by
  unfold TokenM.makeErr at h ⊢
  by_cases he : RingM.err ep key old = 0
  · rw [if_pos he] at h ⊢
    have C := hide (fun w => rcheck_yes w he)
    have C1 := hide (fits_any a)
    have C2 := hide (time_any t)
    generalize TagM.inB a = p at C1 h ⊢
    generalize TokenM.timeB t = q at C2 h ⊢
    clear he
    cases p
    · clear h
      go_enter Tryz.func122, Tryz.ntmps122
      go_wp2_with fail
      refine (unhide C _).mono ?_
      rintro e w1 ⟨rfl, hb1⟩
      obtain ⟨hc1, hf1, hz1⟩ := lies hb1
      try simp at hz1
      have HB1 := hide hb1
      clear hb1
      go_wp2_with fail
      refine (unhide C1 _).mono ?_
      rintro e w' ⟨rfl, rfl⟩
      go_wp2
      exact bodyPost_ret (v := .tuple #[.agg #[.int .i64 0, .int .i64 0, .int .i64 0, .int .i64 0], .iface 85 (.int .i64 1)]) (by simp [results, Tryz.results122, go_sem, hc1]) rfl ⟨rfl, (by (repeat' (first | exact Below.refl _ _ | refine Below.alloc ?_ ?_ _ | refine Below.setCell ?_ ?_ _ | refine Below.drew ?_ | refine Below.trans ?_ (Below.mono (unhide HB1) ?_))); all_goals (first | exact Nat.le_refl _ | omega | (simp; done) | (simp; omega)))⟩
    · cases q
      · clear h
        go_enter Tryz.func122, Tryz.ntmps122
        go_wp2_with fail
        refine (unhide C _).mono ?_
        rintro e w1 ⟨rfl, hb1⟩
        obtain ⟨hc1, hf1, hz1⟩ := lies hb1
        try simp at hz1
        have HB1 := hide hb1
        clear hb1
        go_wp2_with fail
        refine (unhide C1 _).mono ?_
        rintro e w' ⟨rfl, rfl⟩
        go_wp2_with fail
        refine (unhide C2 _).mono ?_
        rintro e w' ⟨rfl, rfl⟩
        go_wp2
        exact bodyPost_ret (v := .tuple #[.agg #[.int .i64 0, .int .i64 0, .int .i64 0, .int .i64 0], .iface 85 (.int .i64 1)]) (by simp [results, Tryz.results122, go_sem, hc1]) rfl ⟨rfl, (by (repeat' (first | exact Below.refl _ _ | refine Below.alloc ?_ ?_ _ | refine Below.setCell ?_ ?_ _ | refine Below.drew ?_ | refine Below.trans ?_ (Below.mono (unhide HB1) ?_))); all_goals (first | exact Nat.le_refl _ | omega | (simp; done) | (simp; omega)))⟩
      · exact absurd rfl h
  · rw [if_neg he]
    have C := hide (fun w => rcheck_no w he)
    clear h he
    generalize RingM.err ep key old = n at C ⊢
    go_enter Tryz.func122, Tryz.ntmps122
    go_wp2_with fail
    refine (unhide C _).mono ?_
    rintro e w1 ⟨rfl, hb1⟩
    obtain ⟨hc1, hf1, hz1⟩ := lies hb1
    try simp at hz1
    have HB1 := hide hb1
    clear hb1
    go_wp2
    exact bodyPost_ret (v := .tuple #[.agg #[.int .i64 0, .int .i64 0, .int .i64 0, .int .i64 0], .iface 85 (.int .i64 n)]) (by simp [results, Tryz.results122, go_sem, hc1]) rfl ⟨rfl, (by (repeat' (first | exact Below.refl _ _ | refine Below.alloc ?_ ?_ _ | refine Below.setCell ?_ ?_ _ | refine Below.drew ?_ | refine Below.trans ?_ (Below.mono (unhide HB1) ?_))); all_goals (first | exact Nat.le_refl _ | omega | (simp; done) | (simp; omega)))⟩

theorem kmake_any (ep key old a t : Int) : ∃ x0 x1 x2 x3 : Int, (∀ w, Calls Tryz.prog 122 #[.agg #[.int .i64 ep, .int .i64 key, .int .i64 old], .int .i64 a, .int .i64 t] w fun e w' => e = .returned (.tuple #[.agg #[.int .i64 x0, .int .i64 x1, .int .i64 x2, .int .i64 x3], errV (TokenM.makeErr ep key old a t)]) ∧ Below w.heap.size w w')
    ∧ (TokenM.makeErr ep key old a t = 0 → x0 = ep ∧ x1 = a ∧ x2 = t ∧ x3 = TagM.tag key [2, a, t]) ∧ (¬ TokenM.makeErr ep key old a t = 0 → x0 = 0 ∧ x1 = 0 ∧ x2 = 0 ∧ x3 = 0) := by
  by_cases h : TokenM.makeErr ep key old a t = 0
  · exact ⟨_, _, _, _, fun w => by rw [errV_zero h]; exact kmake_yes w h, fun _ => ⟨rfl, rfl, rfl, rfl⟩, fun h' => absurd h h'⟩
  · exact ⟨_, _, _, _, fun w => by rw [errV_pos h]; exact kmake_no w h, fun h' => absurd h' h, fun _ => ⟨rfl, rfl, rfl, rfl⟩⟩


set_option maxHeartbeats 800000 in
theorem kcheck_ring {ep key old : Int} (te tn tu tg now : Int) (w : World) (he : ¬ RingM.err ep key old = 0) :
    Calls Tryz.prog 139 #[.agg #[.int .i64 ep, .int .i64 key, .int .i64 old], .agg #[.int .i64 te, .int .i64 tn, .int .i64 tu, .int .i64 tg], .int .i64 now] w fun e w' => e = .returned (errV (RingM.err ep key old)) ∧ Below w.heap.size w w' := by
  rw [errV_pos he]
  have C := hide (fun w => rcheck_no w he)
  clear he
  generalize RingM.err ep key old = n at C ⊢
  go_enter Tryz.func139, Tryz.ntmps139
  go_wp2_with fail
  refine (unhide C _).mono ?_
  rintro e w1 ⟨rfl, hb1⟩
  obtain ⟨hc1, hf1, hz1⟩ := lies hb1
  try simp at hz1
  have HB1 := hide hb1
  clear hb1
  go_wp2
  go_ret
  exact ⟨rfl, (by (repeat' (first | exact Below.refl _ _ | refine Below.alloc ?_ ?_ _ | refine Below.setCell ?_ ?_ _ | refine Below.drew ?_ | refine Below.trans ?_ (Below.mono (unhide HB1) ?_))); all_goals (first | exact Nat.le_refl _ | omega | (simp; done) | (simp; omega)))⟩

set_option maxHeartbeats 1600000 in
theorem kcheck_range {ep key old tn tu tg now : Int} (te : Int) (w : World) (he : RingM.err ep key old = 0) (h : TicketM.okB tn tu tg now = false) :
    Calls Tryz.prog 139 #[.agg #[.int .i64 ep, .int .i64 key, .int .i64 old], .agg #[.int .i64 te, .int .i64 tn, .int .i64 tu, .int .i64 tg], .int .i64 now] w fun e w' => e = .returned (errV (1)) ∧ Below w.heap.size w w' := by
  rw [errV_pos (by omega)]
  have C := hide (fun w => rcheck_yes w he)
  have C1 := hide (time_any now)
  have C2 := hide (kfits_any te tn tu tg)
  unfold TicketM.okB at h
  generalize TokenM.timeB now = p at C1 h
  generalize (TagM.inB tn && TokenM.timeB tu && TagM.inB tg) = q at C2 h
  clear he
  cases p
  · clear h
    go_enter Tryz.func139, Tryz.ntmps139
    go_wp2_with fail
    refine (unhide C _).mono ?_
    rintro e w1 ⟨rfl, hb1⟩
    obtain ⟨hc1, hf1, hz1⟩ := lies hb1
    try simp at hz1
    have HB1 := hide hb1
    clear hb1
    have g10 : w.heap.size < w1.heap.size := by omega
    have g11 : w.heap.size + 1 < w1.heap.size := by omega
    go_wp2_with fail
    refine (unhide C1 _).mono ?_
    rintro e w' ⟨rfl, rfl⟩
    go_wp2
    go_ret
    exact ⟨rfl, (by (repeat' (first | exact Below.refl _ _ | refine Below.alloc ?_ ?_ _ | refine Below.setCell ?_ ?_ _ | refine Below.drew ?_ | refine Below.trans ?_ (Below.mono (unhide HB1) ?_))); all_goals (first | exact Nat.le_refl _ | omega | (simp; done) | (simp; omega)))⟩
  · cases q
    · clear h
      go_enter Tryz.func139, Tryz.ntmps139
      go_wp2_with fail
      refine (unhide C _).mono ?_
      rintro e w1 ⟨rfl, hb1⟩
      obtain ⟨hc1, hf1, hz1⟩ := lies hb1
      try simp at hz1
      have HB1 := hide hb1
      clear hb1
      have g10 : w.heap.size < w1.heap.size := by omega
      have g11 : w.heap.size + 1 < w1.heap.size := by omega
      go_wp2_with fail
      refine (unhide C1 _).mono ?_
      rintro e w' ⟨rfl, rfl⟩
      go_wp2_with fail
      refine (unhide C2 _).mono ?_
      rintro e w2 ⟨rfl, hb2⟩
      obtain ⟨hc2, hf2, hz2⟩ := lies hb2
      try simp at hz2
      have HB2 := hide hb2
      clear hb2
      have g20 : w.heap.size < w2.heap.size := by omega
      have g21 : w.heap.size + 1 < w2.heap.size := by omega
      go_wp2
      go_ret
      exact ⟨rfl, (by (repeat' (first | exact Below.refl _ _ | refine Below.alloc ?_ ?_ _ | refine Below.setCell ?_ ?_ _ | refine Below.drew ?_ | refine Below.trans ?_ (Below.mono (unhide HB2) ?_) | refine Below.trans ?_ (Below.mono (unhide HB1) ?_))); all_goals (first | exact Nat.le_refl _ | omega | (simp; done) | (simp; omega)))⟩
    · exact absurd h (by simp)

set_option maxHeartbeats 1600000 in
theorem kcheck_key {ep key old te tn tu tg now : Int} (w : World) (he : RingM.err ep key old = 0) (h : TicketM.okB tn tu tg now = true) (hk : ¬ RingM.keyErr ep key old te = 0) :
    Calls Tryz.prog 139 #[.agg #[.int .i64 ep, .int .i64 key, .int .i64 old], .agg #[.int .i64 te, .int .i64 tn, .int .i64 tu, .int .i64 tg], .int .i64 now] w fun e w' => e = .returned (errV (RingM.keyErr ep key old te)) ∧ Below w.heap.size w w' := by
  rw [errV_pos hk]
  have C := hide (fun w => rcheck_yes w he)
  obtain ⟨k1, k2, k3, k4⟩ := TicketM.okB_iff.1 h
  have C1 := hide (time_any now)
  have C2 := hide (kfits_any te tn tu tg)
  rw [k1] at C1
  rw [k2, k3, k4] at C2
  simp only [Bool.and_self] at C2
  have C3 := hide (fun w => rkey_no te w hk)
  clear he h hk k1 k2 k3 k4
  generalize RingM.keyErr ep key old te = n at C3 ⊢
  go_enter Tryz.func139, Tryz.ntmps139
  go_wp2_with fail
  refine (unhide C _).mono ?_
  rintro e w1 ⟨rfl, hb1⟩
  obtain ⟨hc1, hf1, hz1⟩ := lies hb1
  try simp at hz1
  have HB1 := hide hb1
  clear hb1
  have g10 : w.heap.size < w1.heap.size := by omega
  have g11 : w.heap.size + 1 < w1.heap.size := by omega
  go_wp2_with fail
  refine (unhide C1 _).mono ?_
  rintro e w' ⟨rfl, rfl⟩
  go_wp2_with fail
  refine (unhide C2 _).mono ?_
  rintro e w2 ⟨rfl, hb2⟩
  obtain ⟨hc2, hf2, hz2⟩ := lies hb2
  try simp at hz2
  have HB2 := hide hb2
  clear hb2
  have g20 : w.heap.size < w2.heap.size := by omega
  have g21 : w.heap.size + 1 < w2.heap.size := by omega
  go_wp2_with fail
  refine (unhide C3 _).mono ?_
  rintro e w3 ⟨rfl, hb3⟩
  obtain ⟨hc3, hf3, hz3⟩ := lies hb3
  try simp at hz3
  have HB3 := hide hb3
  clear hb3
  have g30 : w.heap.size < w3.heap.size := by omega
  have g31 : w.heap.size + 1 < w3.heap.size := by omega
  go_wp2
  go_ret
  exact ⟨rfl, (by (repeat' (first | exact Below.refl _ _ | refine Below.alloc ?_ ?_ _ | refine Below.setCell ?_ ?_ _ | refine Below.drew ?_ | refine Below.trans ?_ (Below.mono (unhide HB3) ?_) | refine Below.trans ?_ (Below.mono (unhide HB2) ?_) | refine Below.trans ?_ (Below.mono (unhide HB1) ?_))); all_goals (first | exact Nat.le_refl _ | omega | (simp; done) | (simp; omega)))⟩

set_option maxHeartbeats 3200000 in
set_option maxRecDepth 4000 in
theorem kcheck_last {ep key old te tn tu tg now : Int} (w : World) (he : RingM.err ep key old = 0) (h : TicketM.okB tn tu tg now = true) (hk : RingM.keyErr ep key old te = 0) :
    Calls Tryz.prog 139 #[.agg #[.int .i64 ep, .int .i64 key, .int .i64 old], .agg #[.int .i64 te, .int .i64 tn, .int .i64 tu, .int .i64 tg], .int .i64 now] w fun e w' => e = .returned (errV (TicketM.lastErr (TagM.tag (TokenM.keyOf ep key old te) [2, tn, tu]) tu tg now)) ∧ Below w.heap.size w w' := by
  have C := hide (fun w => rcheck_yes w he)
  obtain ⟨k1, k2, k3, k4⟩ := TicketM.okB_iff.1 h
  have C1 := hide (time_any now)
  have C2 := hide (kfits_any te tn tu tg)
  rw [k1] at C1
  rw [k2, k3, k4] at C2
  simp only [Bool.and_self] at C2
  have C3 := hide (fun w => rkey_yes te w hk)
  have HK := hide (TokenM.keyOf_bd (te := te) he)
  change Hid (∀ w : World, Calls _ _ _ _ fun e w' => e = .returned (.tuple #[.int .i64 (TokenM.keyOf ep key old te), .nilIface]) ∧ _) at C3
  have HA := hide k2
  have HT := hide (TokenM.timeB_in k3)
  generalize TokenM.keyOf ep key old te = kk at C3 HK ⊢
  have C4 := hide (fun b w c0 c1 c2 => of3_yes kk 2 tn tu b w c0 c1 c2 (unhide HK) rfl (unhide HA) (unhide HT))
  generalize TagM.tag kk [2, tn, tu] = right at C4 ⊢
  clear he h hk k1 k2 k3 k4 HK HA HT
  unfold TicketM.lastErr
  by_cases h1 : tg = right
  · subst h1
    rw [if_pos rfl]
    by_cases h2 : tu < now
    · rw [if_pos h2, errV_pos (by omega)]
      go_enter Tryz.func139, Tryz.ntmps139
      go_wp2_with fail
      refine (unhide C _).mono ?_
      rintro e w1 ⟨rfl, hb1⟩
      obtain ⟨hc1, hf1, hz1⟩ := lies hb1
      try simp at hz1
      have HB1 := hide hb1
      clear hb1
      have g10 : w.heap.size < w1.heap.size := by omega
      have g11 : w.heap.size + 1 < w1.heap.size := by omega
      go_wp2_with fail
      refine (unhide C1 _).mono ?_
      rintro e w' ⟨rfl, rfl⟩
      go_wp2_with fail
      refine (unhide C2 _).mono ?_
      rintro e w2 ⟨rfl, hb2⟩
      obtain ⟨hc2, hf2, hz2⟩ := lies hb2
      try simp at hz2
      have HB2 := hide hb2
      clear hb2
      have g20 : w.heap.size < w2.heap.size := by omega
      have g21 : w.heap.size + 1 < w2.heap.size := by omega
      go_wp2_with fail
      refine (unhide C3 _).mono ?_
      rintro e w3 ⟨rfl, hb3⟩
      obtain ⟨hc3, hf3, hz3⟩ := lies hb3
      try simp at hz3
      have HB3 := hide hb3
      clear hb3
      have g30 : w.heap.size < w3.heap.size := by omega
      have g31 : w.heap.size + 1 < w3.heap.size := by omega
      go_wp2_with fail
      refine (unhide C4 _ _ (by simp) (by simp) (by simp)).mono ?_
      rintro e w' ⟨rfl, rfl⟩
      go_wp2
      go_ret
      exact ⟨rfl, (by (repeat' (first | exact Below.refl _ _ | refine Below.alloc ?_ ?_ _ | refine Below.setCell ?_ ?_ _ | refine Below.drew ?_ | refine Below.trans ?_ (Below.mono (unhide HB3) ?_) | refine Below.trans ?_ (Below.mono (unhide HB2) ?_) | refine Below.trans ?_ (Below.mono (unhide HB1) ?_))); all_goals (first | exact Nat.le_refl _ | omega | (simp; done) | (simp; omega)))⟩
    · rw [if_neg h2, errV_zero rfl]
      go_enter Tryz.func139, Tryz.ntmps139
      go_wp2_with fail
      refine (unhide C _).mono ?_
      rintro e w1 ⟨rfl, hb1⟩
      obtain ⟨hc1, hf1, hz1⟩ := lies hb1
      try simp at hz1
      have HB1 := hide hb1
      clear hb1
      have g10 : w.heap.size < w1.heap.size := by omega
      have g11 : w.heap.size + 1 < w1.heap.size := by omega
      go_wp2_with fail
      refine (unhide C1 _).mono ?_
      rintro e w' ⟨rfl, rfl⟩
      go_wp2_with fail
      refine (unhide C2 _).mono ?_
      rintro e w2 ⟨rfl, hb2⟩
      obtain ⟨hc2, hf2, hz2⟩ := lies hb2
      try simp at hz2
      have HB2 := hide hb2
      clear hb2
      have g20 : w.heap.size < w2.heap.size := by omega
      have g21 : w.heap.size + 1 < w2.heap.size := by omega
      go_wp2_with fail
      refine (unhide C3 _).mono ?_
      rintro e w3 ⟨rfl, hb3⟩
      obtain ⟨hc3, hf3, hz3⟩ := lies hb3
      try simp at hz3
      have HB3 := hide hb3
      clear hb3
      have g30 : w.heap.size < w3.heap.size := by omega
      have g31 : w.heap.size + 1 < w3.heap.size := by omega
      go_wp2_with fail
      refine (unhide C4 _ _ (by simp) (by simp) (by simp)).mono ?_
      rintro e w' ⟨rfl, rfl⟩
      go_wp2
      go_ret
      exact ⟨rfl, (by (repeat' (first | exact Below.refl _ _ | refine Below.alloc ?_ ?_ _ | refine Below.setCell ?_ ?_ _ | refine Below.drew ?_ | refine Below.trans ?_ (Below.mono (unhide HB3) ?_) | refine Below.trans ?_ (Below.mono (unhide HB2) ?_) | refine Below.trans ?_ (Below.mono (unhide HB1) ?_))); all_goals (first | exact Nat.le_refl _ | omega | (simp; done) | (simp; omega)))⟩
  · rw [if_neg h1, errV_pos (by omega)]
    have g1 : (tg == right) = false := by simp [h1]
    go_enter Tryz.func139, Tryz.ntmps139
    go_wp2_with fail
    refine (unhide C _).mono ?_
    rintro e w1 ⟨rfl, hb1⟩
    obtain ⟨hc1, hf1, hz1⟩ := lies hb1
    try simp at hz1
    have HB1 := hide hb1
    clear hb1
    have g10 : w.heap.size < w1.heap.size := by omega
    have g11 : w.heap.size + 1 < w1.heap.size := by omega
    go_wp2_with fail
    refine (unhide C1 _).mono ?_
    rintro e w' ⟨rfl, rfl⟩
    go_wp2_with fail
    refine (unhide C2 _).mono ?_
    rintro e w2 ⟨rfl, hb2⟩
    obtain ⟨hc2, hf2, hz2⟩ := lies hb2
    try simp at hz2
    have HB2 := hide hb2
    clear hb2
    have g20 : w.heap.size < w2.heap.size := by omega
    have g21 : w.heap.size + 1 < w2.heap.size := by omega
    go_wp2_with fail
    refine (unhide C3 _).mono ?_
    rintro e w3 ⟨rfl, hb3⟩
    obtain ⟨hc3, hf3, hz3⟩ := lies hb3
    try simp at hz3
    have HB3 := hide hb3
    clear hb3
    have g30 : w.heap.size < w3.heap.size := by omega
    have g31 : w.heap.size + 1 < w3.heap.size := by omega
    go_wp2_with fail
    refine (unhide C4 _ _ (by simp) (by simp) (by simp)).mono ?_
    rintro e w' ⟨rfl, rfl⟩
    go_wp2
    go_ret
    exact ⟨rfl, (by (repeat' (first | exact Below.refl _ _ | refine Below.alloc ?_ ?_ _ | refine Below.setCell ?_ ?_ _ | refine Below.drew ?_ | refine Below.trans ?_ (Below.mono (unhide HB3) ?_) | refine Below.trans ?_ (Below.mono (unhide HB2) ?_) | refine Below.trans ?_ (Below.mono (unhide HB1) ?_))); all_goals (first | exact Nat.le_refl _ | omega | (simp; done) | (simp; omega)))⟩

theorem kcheck_any (ep key old te tn tu tg now : Int) (w : World) :
    Calls Tryz.prog 139 #[.agg #[.int .i64 ep, .int .i64 key, .int .i64 old], .agg #[.int .i64 te, .int .i64 tn, .int .i64 tu, .int .i64 tg], .int .i64 now] w fun e w' => e = .returned (errV (TicketM.checkErr ep key old te tn tu tg now)) ∧ Below w.heap.size w w' := by
  by_cases he : RingM.err ep key old = 0
  · by_cases h : TicketM.okB tn tu tg now = true
    · by_cases hk : RingM.keyErr ep key old te = 0
      · rw [TicketM.check_last he h hk]; exact kcheck_last w he h hk
      · rw [TicketM.check_key he h hk]; exact kcheck_key w he h hk
    · have h' : TicketM.okB tn tu tg now = false := by simpa using h
      rw [TicketM.check_range he h']; exact kcheck_range te w he h'
  · rw [TicketM.check_ring he]; exact kcheck_ring te tn tu tg now w he
end Go.Proofs.YthaicpepgianpakGreatDoor
