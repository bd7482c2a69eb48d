/-
  What the calls of package token come to, said of a ring's and a token's numbers: IsTime, fits, Make, Check.
-/
import Derived.Test.YthaicpepgianpakGreatDoorRingWalks
import Derived.Test.YthaicpepgianpakGreatDoorJoinedTokenMath
namespace Go.Proofs.YthaicpepgianpakGreatDoor
open Go.RowKit

theorem fits_any (n : Int) (w : World) : Calls Tryz.prog 102 #[.int .i64 n] w fun e w' => e = .returned (.bool (TagM.inB n)) ∧ w' = w := by
  by_cases h : TagM.inB n = true
  · rw [h]; exact fits_yes n w ((TagM.inB_iff n).1 h).1 ((TagM.inB_iff n).1 h).2
  · have h' : TagM.inB n = false := by simpa using h
    rw [h']; exact fits_no n w ((TagM.inB_not n).1 h')

theorem time_any (n : Int) (w : World) : Calls Tryz.prog 48 #[.int .i64 n] w fun e w' => e = .returned (.bool (TokenM.timeB n)) ∧ w' = w := by
  by_cases h0 : 0 ≤ n
  · by_cases h1 : n ≤ 100000
    · rw [(TokenM.timeB_iff n).2 ⟨h0, h1⟩]
      go_enter Tryz.func48, Tryz.ntmps48
      go_wp2
      go_ret
      exact ⟨rfl, rfl⟩
    · rw [(TokenM.timeB_not n).2 (by omega)]
      go_enter Tryz.func48, Tryz.ntmps48
      go_wp2
      go_ret
      exact ⟨rfl, rfl⟩
  · rw [(TokenM.timeB_not n).2 (by omega)]
    go_enter Tryz.func48, Tryz.ntmps48
    go_wp2
    go_ret
    exact ⟨rfl, rfl⟩

/-- Of three numbers that lie in a block. -/
theorem of3_yes (key x y z : Int) (b : Nat) (w : World) (c0 : w.cell? ⟨b, 0, none⟩ = some (.int .i64 x)) (c1 : w.cell? ⟨b, 1, none⟩ = some (.int .i64 y)) (c2 : w.cell? ⟨b, 2, none⟩ = some (.int .i64 z))
    (hk : 0 ≤ key ∧ key < 999983) (hx : TagM.inB x = true) (hy : TagM.inB y = true) (hz : TagM.inB z = true) :
    Calls Tryz.prog 74 #[.int .i64 key, .slice (some ⟨b, 0, none⟩) 3 3] w fun e w' => e = .returned (.tuple #[.int .i64 (TagM.tag key [x, y, z]), .nilIface]) ∧ w' = w :=
  of_ok key b 0 3 [x, y, z] w hk.1 hk.2 (by simp) (by simp [hx, hy, hz]) (fun k hk => by
    match k, hk with
    | 0, _ => exact c0
    | 1, _ => exact c1
    | 2, _ => exact c2
    | k + 3, hk => simp at hk; omega)

theorem tfits_any (te ta tt tg : Int) (w : World) :
    Calls Tryz.prog 155 #[.agg #[.int .i64 te, .int .i64 ta, .int .i64 tt, .int .i64 tg]] w fun e w' => e = .returned (.bool (TagM.inB ta && TokenM.timeB tt && TagM.inB tg)) ∧ Below w.heap.size w w' := by
  have C1 := hide (fits_any ta)
  have C2 := hide (time_any tt)
  have C3 := hide (fits_any tg)
  generalize TagM.inB ta = a at C1 ⊢
  generalize TokenM.timeB tt = b at C2 ⊢
  generalize TagM.inB tg = c at C3 ⊢
  cases a
  · go_enter Tryz.func155, Tryz.ntmps155
    go_wp2_with fail
    refine (unhide C1 _).mono ?_
    rintro e w' ⟨rfl, rfl⟩
    go_wp2
    go_ret
    exact ⟨rfl, (by (repeat' (first | exact Below.refl _ _ | refine Below.alloc ?_ ?_ _ | refine Below.setCell ?_ ?_ _ | refine Below.drew ?_)); all_goals (first | exact Nat.le_refl _ | omega | (simp; done) | (simp; omega)))⟩
  · cases b
    · go_enter Tryz.func155, Tryz.ntmps155
      go_wp2_with fail
      refine (unhide C1 _).mono ?_
      rintro e w' ⟨rfl, rfl⟩
      go_wp2_with fail
      refine (unhide C2 _).mono ?_
      rintro e w' ⟨rfl, rfl⟩
      go_wp2
      go_ret
      exact ⟨rfl, (by (repeat' (first | exact Below.refl _ _ | refine Below.alloc ?_ ?_ _ | refine Below.setCell ?_ ?_ _ | refine Below.drew ?_)); all_goals (first | exact Nat.le_refl _ | omega | (simp; done) | (simp; omega)))⟩
    · go_enter Tryz.func155, Tryz.ntmps155
      go_wp2_with fail
      refine (unhide C1 _).mono ?_
      rintro e w' ⟨rfl, rfl⟩
      go_wp2_with fail
      refine (unhide C2 _).mono ?_
      rintro e w' ⟨rfl, rfl⟩
      go_wp2_with fail
      refine (unhide C3 _).mono ?_
      rintro e w' ⟨rfl, rfl⟩
      go_wp2
      go_ret
      exact ⟨by simp, (by (repeat' (first | exact Below.refl _ _ | refine Below.alloc ?_ ?_ _ | refine Below.setCell ?_ ?_ _ | refine Below.drew ?_)); all_goals (first | exact Nat.le_refl _ | omega | (simp; done) | (simp; omega)))⟩

set_option maxHeartbeats 800000 in
theorem tmake_yes {ep key old a t : Int} (w : World) (h : TokenM.makeErr ep key old a t = 0) :
    Calls Tryz.prog 117 #[.agg #[.int .i64 ep, .int .i64 key, .int .i64 old], .int .i64 a, .int .i64 t] w fun e w' => e = .returned (.tuple #[.agg #[.int .i64 ep, .int .i64 a, .int .i64 t, .int .i64 (TagM.tag key [1, a, t])], .nilIface]) ∧ Below w.heap.size w w' := by
  obtain ⟨he, ha, ht⟩ := TokenM.make_zero.1 h
  have C := hide (fun w => rcheck_yes w he)
  have C1 := hide (fits_any a)
  have C2 := hide (time_any t)
  rw [ha] at C1
  rw [ht] at C2
  obtain ⟨_, hk, _⟩ := RingM.err_zero.1 he
  have HA := hide ha
  have HT := hide (TokenM.timeB_in ht)
  have HK := hide hk
  clear h he ha ht hk
  go_enter Tryz.func117, Tryz.ntmps117
  go_wp2_with fail
  refine (unhide C _).mono ?_
  rintro e w1 ⟨rfl, hb1⟩
  obtain ⟨hc1, hf1, hz1⟩ := lies hb1
  try simp at hz1
  have HB1 := hide hb1
  clear hb1
  have g1 : w.heap.size < w1.heap.size := by omega
  have g11 : w.heap.size + 1 < w1.heap.size := by omega
  go_wp2_with fail
  refine (unhide C1 _).mono ?_
  rintro e w' ⟨rfl, rfl⟩
  go_wp2_with fail
  refine (unhide C2 _).mono ?_
  rintro e w' ⟨rfl, rfl⟩
  go_wp2_with fail
  refine (of3_yes key 1 a t _ _ (by simp) (by simp) (by simp) (unhide HK) rfl (unhide HA) (unhide HT)).mono ?_
  rintro e w' ⟨rfl, rfl⟩
  go_wp2
  exact bodyPost_ret (v := .tuple #[.agg #[.int .i64 ep, .int .i64 a, .int .i64 t, .int .i64 (TagM.tag key [1, a, t])], .nilIface]) (by simp [results, Tryz.results117, go_sem, hc1, g11]) rfl ⟨rfl, (by (repeat' (first | exact Below.refl _ _ | refine Below.alloc ?_ ?_ _ | refine Below.setCell ?_ ?_ _ | refine Below.drew ?_ | refine Below.trans ?_ (Below.mono (unhide HB1) ?_))); all_goals (first | exact Nat.le_refl _ | omega | (simp; done) | (simp; omega)))⟩

set_option maxHeartbeats 800000 in
theorem tmake_no {ep key old a t : Int} (w : World) (h : ¬ TokenM.makeErr ep key old a t = 0) :
    Calls Tryz.prog 117 #[.agg #[.int .i64 ep, .int .i64 key, .int .i64 old], .int .i64 a, .int .i64 t] w fun e w' => e = .returned (.tuple #[.agg #[.int .i64 0, .int .i64 0, .int .i64 0, .int .i64 0], .iface 85 (.int .i64 (TokenM.makeErr ep key old a t))]) ∧ Below w.heap.size w w' := by
  unfold TokenM.makeErr at h ⊢
  by_cases he : RingM.err ep key old = 0
  · rw [if_pos he] at h ⊢
    have C := hide (fun w => rcheck_yes w he)
    have C1 := hide (fits_any a)
    have C2 := hide (time_any t)
    generalize TagM.inB a = p at C1 h ⊢
    generalize TokenM.timeB t = q at C2 h ⊢
    clear he
    cases p
    · clear h
      go_enter Tryz.func117, Tryz.ntmps117
      go_wp2_with fail
      refine (unhide C _).mono ?_
      rintro e w1 ⟨rfl, hb1⟩
      obtain ⟨hc1, hf1, hz1⟩ := lies hb1
      try simp at hz1
      have HB1 := hide hb1
      clear hb1
      go_wp2_with fail
      refine (unhide C1 _).mono ?_
      rintro e w' ⟨rfl, rfl⟩
      go_wp2
      exact bodyPost_ret (v := .tuple #[.agg #[.int .i64 0, .int .i64 0, .int .i64 0, .int .i64 0], .iface 85 (.int .i64 1)]) (by simp [results, Tryz.results117, go_sem, hc1]) rfl ⟨rfl, (by (repeat' (first | exact Below.refl _ _ | refine Below.alloc ?_ ?_ _ | refine Below.setCell ?_ ?_ _ | refine Below.drew ?_ | refine Below.trans ?_ (Below.mono (unhide HB1) ?_))); all_goals (first | exact Nat.le_refl _ | omega | (simp; done) | (simp; omega)))⟩
    · cases q
      · clear h
        go_enter Tryz.func117, Tryz.ntmps117
        go_wp2_with fail
        refine (unhide C _).mono ?_
        rintro e w1 ⟨rfl, hb1⟩
        obtain ⟨hc1, hf1, hz1⟩ := lies hb1
        try simp at hz1
        have HB1 := hide hb1
        clear hb1
        go_wp2_with fail
        refine (unhide C1 _).mono ?_
        rintro e w' ⟨rfl, rfl⟩
        go_wp2_with fail
        refine (unhide C2 _).mono ?_
        rintro e w' ⟨rfl, rfl⟩
        go_wp2
        exact bodyPost_ret (v := .tuple #[.agg #[.int .i64 0, .int .i64 0, .int .i64 0, .int .i64 0], .iface 85 (.int .i64 1)]) (by simp [results, Tryz.results117, go_sem, hc1]) rfl ⟨rfl, (by (repeat' (first | exact Below.refl _ _ | refine Below.alloc ?_ ?_ _ | refine Below.setCell ?_ ?_ _ | refine Below.drew ?_ | refine Below.trans ?_ (Below.mono (unhide HB1) ?_))); all_goals (first | exact Nat.le_refl _ | omega | (simp; done) | (simp; omega)))⟩
      · exact absurd rfl h
  · rw [if_neg he]
    have C := hide (fun w => rcheck_no w he)
    clear h he
    generalize RingM.err ep key old = n at C ⊢
    go_enter Tryz.func117, Tryz.ntmps117
    go_wp2_with fail
    refine (unhide C _).mono ?_
    rintro e w1 ⟨rfl, hb1⟩
    obtain ⟨hc1, hf1, hz1⟩ := lies hb1
    try simp at hz1
    have HB1 := hide hb1
    clear hb1
    go_wp2
    exact bodyPost_ret (v := .tuple #[.agg #[.int .i64 0, .int .i64 0, .int .i64 0, .int .i64 0], .iface 85 (.int .i64 n)]) (by simp [results, Tryz.results117, go_sem, hc1]) rfl ⟨rfl, (by (repeat' (first | exact Below.refl _ _ | refine Below.alloc ?_ ?_ _ | refine Below.setCell ?_ ?_ _ | refine Below.drew ?_ | refine Below.trans ?_ (Below.mono (unhide HB1) ?_))); all_goals (first | exact Nat.le_refl _ | omega | (simp; done) | (simp; omega)))⟩

theorem tmake_any (ep key old a t : Int) : ∃ x0 x1 x2 x3 : Int, (∀ w, Calls Tryz.prog 117 #[.agg #[.int .i64 ep, .int .i64 key, .int .i64 old], .int .i64 a, .int .i64 t] w fun e w' => e = .returned (.tuple #[.agg #[.int .i64 x0, .int .i64 x1, .int .i64 x2, .int .i64 x3], errV (TokenM.makeErr ep key old a t)]) ∧ Below w.heap.size w w')
    ∧ (TokenM.makeErr ep key old a t = 0 → x0 = ep ∧ x1 = a ∧ x2 = t ∧ x3 = TagM.tag key [1, a, t]) ∧ (¬ TokenM.makeErr ep key old a t = 0 → x0 = 0 ∧ x1 = 0 ∧ x2 = 0 ∧ x3 = 0) := by
  by_cases h : TokenM.makeErr ep key old a t = 0
  · exact ⟨_, _, _, _, fun w => by rw [errV_zero h]; exact tmake_yes w h, fun _ => ⟨rfl, rfl, rfl, rfl⟩, fun h' => absurd h h'⟩
  · exact ⟨_, _, _, _, fun w => by rw [errV_pos h]; exact tmake_no w h, fun h' => absurd h' h, fun _ => ⟨rfl, rfl, rfl, rfl⟩⟩


set_option maxHeartbeats 800000 in
theorem tcheck_ring {ep key old : Int} (te ta tt tg a now life : Int) (w : World) (he : ¬ RingM.err ep key old = 0) :
    Calls Tryz.prog 141 #[.agg #[.int .i64 ep, .int .i64 key, .int .i64 old], .agg #[.int .i64 te, .int .i64 ta, .int .i64 tt, .int .i64 tg], .int .i64 a, .int .i64 now, .int .i64 life] w fun e w' => e = .returned (errV (RingM.err ep key old)) ∧ Below w.heap.size w w' := by
  rw [errV_pos he]
  have C := hide (fun w => rcheck_no w he)
  clear he
  generalize RingM.err ep key old = n at C ⊢
  go_enter Tryz.func141, Tryz.ntmps141
  go_wp2_with fail
  refine (unhide C _).mono ?_
  rintro e w1 ⟨rfl, hb1⟩
  obtain ⟨hc1, hf1, hz1⟩ := lies hb1
  try simp at hz1
  have HB1 := hide hb1
  clear hb1
  go_wp2
  go_ret
  exact ⟨rfl, (by (repeat' (first | exact Below.refl _ _ | refine Below.alloc ?_ ?_ _ | refine Below.setCell ?_ ?_ _ | refine Below.drew ?_ | refine Below.trans ?_ (Below.mono (unhide HB1) ?_))); all_goals (first | exact Nat.le_refl _ | omega | (simp; done) | (simp; omega)))⟩

set_option maxHeartbeats 1600000 in
theorem tcheck_range {ep key old ta tt tg a now life : Int} (te : Int) (w : World) (he : RingM.err ep key old = 0) (h : TokenM.okB ta tt tg a now life = false) :
    Calls Tryz.prog 141 #[.agg #[.int .i64 ep, .int .i64 key, .int .i64 old], .agg #[.int .i64 te, .int .i64 ta, .int .i64 tt, .int .i64 tg], .int .i64 a, .int .i64 now, .int .i64 life] w fun e w' => e = .returned (errV 1) ∧ Below w.heap.size w w' := by
  rw [errV_pos (by omega)]
  have C := hide (fun w => rcheck_yes w he)
  have C1 := hide (fits_any a)
  have C2 := hide (time_any now)
  have C3 := hide (time_any life)
  have C4 := hide (tfits_any te ta tt tg)
  unfold TokenM.okB at h
  generalize TagM.inB a = p at C1 h
  generalize TokenM.timeB now = q at C2 h
  generalize TokenM.timeB life = r at C3 h
  generalize (TagM.inB ta && TokenM.timeB tt && TagM.inB tg) = s at C4 h
  clear he
  cases p
  · clear h
    go_enter Tryz.func141, Tryz.ntmps141
    go_wp2_with fail
    refine (unhide C _).mono ?_
    rintro e w1 ⟨rfl, hb1⟩
    obtain ⟨hc1, hf1, hz1⟩ := lies hb1
    try simp at hz1
    have HB1 := hide hb1
    clear hb1
    go_wp2_with fail
    refine (unhide C1 _).mono ?_
    rintro e w' ⟨rfl, rfl⟩
    go_wp2
    go_ret
    exact ⟨rfl, (by (repeat' (first | exact Below.refl _ _ | refine Below.alloc ?_ ?_ _ | refine Below.setCell ?_ ?_ _ | refine Below.drew ?_ | refine Below.trans ?_ (Below.mono (unhide HB1) ?_))); all_goals (first | exact Nat.le_refl _ | omega | (simp; done) | (simp; omega)))⟩
  · cases q
    · clear h
      go_enter Tryz.func141, Tryz.ntmps141
      go_wp2_with fail
      refine (unhide C _).mono ?_
      rintro e w1 ⟨rfl, hb1⟩
      obtain ⟨hc1, hf1, hz1⟩ := lies hb1
      try simp at hz1
      have HB1 := hide hb1
      clear hb1
      go_wp2_with fail
      refine (unhide C1 _).mono ?_
      rintro e w' ⟨rfl, rfl⟩
      go_wp2_with fail
      refine (unhide C2 _).mono ?_
      rintro e w' ⟨rfl, rfl⟩
      go_wp2
      go_ret
      exact ⟨rfl, (by (repeat' (first | exact Below.refl _ _ | refine Below.alloc ?_ ?_ _ | refine Below.setCell ?_ ?_ _ | refine Below.drew ?_ | refine Below.trans ?_ (Below.mono (unhide HB1) ?_))); all_goals (first | exact Nat.le_refl _ | omega | (simp; done) | (simp; omega)))⟩
    · cases r
      · clear h
        go_enter Tryz.func141, Tryz.ntmps141
        go_wp2_with fail
        refine (unhide C _).mono ?_
        rintro e w1 ⟨rfl, hb1⟩
        obtain ⟨hc1, hf1, hz1⟩ := lies hb1
        try simp at hz1
        have HB1 := hide hb1
        clear hb1
        go_wp2_with fail
        refine (unhide C1 _).mono ?_
        rintro e w' ⟨rfl, rfl⟩
        go_wp2_with fail
        refine (unhide C2 _).mono ?_
        rintro e w' ⟨rfl, rfl⟩
        go_wp2_with fail
        refine (unhide C3 _).mono ?_
        rintro e w' ⟨rfl, rfl⟩
        go_wp2
        go_ret
        exact ⟨rfl, (by (repeat' (first | exact Below.refl _ _ | refine Below.alloc ?_ ?_ _ | refine Below.setCell ?_ ?_ _ | refine Below.drew ?_ | refine Below.trans ?_ (Below.mono (unhide HB1) ?_))); all_goals (first | exact Nat.le_refl _ | omega | (simp; done) | (simp; omega)))⟩
      · cases s
        · clear h
          go_enter Tryz.func141, Tryz.ntmps141
          go_wp2_with fail
          refine (unhide C _).mono ?_
          rintro e w1 ⟨rfl, hb1⟩
          obtain ⟨hc1, hf1, hz1⟩ := lies hb1
          try simp at hz1
          have HB1 := hide hb1
          clear hb1
          go_wp2_with fail
          refine (unhide C1 _).mono ?_
          rintro e w' ⟨rfl, rfl⟩
          go_wp2_with fail
          refine (unhide C2 _).mono ?_
          rintro e w' ⟨rfl, rfl⟩
          go_wp2_with fail
          refine (unhide C3 _).mono ?_
          rintro e w' ⟨rfl, rfl⟩
          go_wp2_with fail
          refine (unhide C4 _).mono ?_
          rintro e w2 ⟨rfl, hb2⟩
          obtain ⟨hc2, hf2, hz2⟩ := lies hb2
          try simp at hz2
          have HB2 := hide hb2
          clear hb2
          go_wp2
          go_ret
          exact ⟨rfl, (by (repeat' (first | exact Below.refl _ _ | refine Below.alloc ?_ ?_ _ | refine Below.setCell ?_ ?_ _ | refine Below.drew ?_ | refine Below.trans ?_ (Below.mono (unhide HB2) ?_) | refine Below.trans ?_ (Below.mono (unhide HB1) ?_))); all_goals (first | exact Nat.le_refl _ | omega | (simp; done) | (simp; omega)))⟩
        · exact absurd h (by simp)


set_option maxHeartbeats 1600000 in
theorem tcheck_key {ep key old te ta tt tg a now life : Int} (w : World) (he : RingM.err ep key old = 0) (h : TokenM.okB ta tt tg a now life = true) (hk : ¬ RingM.keyErr ep key old te = 0) :
    Calls Tryz.prog 141 #[.agg #[.int .i64 ep, .int .i64 key, .int .i64 old], .agg #[.int .i64 te, .int .i64 ta, .int .i64 tt, .int .i64 tg], .int .i64 a, .int .i64 now, .int .i64 life] w fun e w' => e = .returned (errV (RingM.keyErr ep key old te)) ∧ Below w.heap.size w w' := by
  rw [errV_pos hk]
  have C := hide (fun w => rcheck_yes w he)
  obtain ⟨k1, k2, k3, k4, k5, k6⟩ := TokenM.okB_iff.1 h
  have C1 := hide (fits_any a)
  have C2 := hide (time_any now)
  have C3 := hide (time_any life)
  have C4 := hide (tfits_any te ta tt tg)
  rw [k1] at C1
  rw [k2] at C2
  rw [k3] at C3
  rw [k4, k5, k6] at C4
  simp only [Bool.and_self] at C4
  have C5 := hide (fun w => rkey_no te w hk)
  clear he h hk k1 k2 k3 k4 k5 k6
  generalize RingM.keyErr ep key old te = n at C5 ⊢
  go_enter Tryz.func141, Tryz.ntmps141
  go_wp2_with fail
  refine (unhide C _).mono ?_
  rintro e w1 ⟨rfl, hb1⟩
  obtain ⟨hc1, hf1, hz1⟩ := lies hb1
  try simp at hz1
  have HB1 := hide hb1
  clear hb1
  have g10 : w.heap.size < w1.heap.size := by omega
  have g11 : w.heap.size + 1 < w1.heap.size := by omega
  go_wp2_with fail
  refine (unhide C1 _).mono ?_
  rintro e w' ⟨rfl, rfl⟩
  go_wp2_with fail
  refine (unhide C2 _).mono ?_
  rintro e w' ⟨rfl, rfl⟩
  go_wp2_with fail
  refine (unhide C3 _).mono ?_
  rintro e w' ⟨rfl, rfl⟩
  go_wp2_with fail
  refine (unhide C4 _).mono ?_
  rintro e w2 ⟨rfl, hb2⟩
  obtain ⟨hc2, hf2, hz2⟩ := lies hb2
  try simp at hz2
  have HB2 := hide hb2
  clear hb2
  have g20 : w.heap.size < w2.heap.size := by omega
  have g21 : w.heap.size + 1 < w2.heap.size := by omega
  go_wp2_with fail
  refine (unhide C5 _).mono ?_
  rintro e w3 ⟨rfl, hb3⟩
  obtain ⟨hc3, hf3, hz3⟩ := lies hb3
  try simp at hz3
  have HB3 := hide hb3
  clear hb3
  have g30 : w.heap.size < w3.heap.size := by omega
  have g31 : w.heap.size + 1 < w3.heap.size := by omega
  go_wp2
  go_ret
  exact ⟨rfl, (by (repeat' (first | exact Below.refl _ _ | refine Below.alloc ?_ ?_ _ | refine Below.setCell ?_ ?_ _ | refine Below.drew ?_ | refine Below.trans ?_ (Below.mono (unhide HB3) ?_) | refine Below.trans ?_ (Below.mono (unhide HB2) ?_) | refine Below.trans ?_ (Below.mono (unhide HB1) ?_))); all_goals (first | exact Nat.le_refl _ | omega | (simp; done) | (simp; omega)))⟩

set_option maxHeartbeats 3200000 in
set_option maxRecDepth 4000 in
theorem tcheck_last {ep key old te ta tt tg a now life : Int} (w : World) (he : RingM.err ep key old = 0) (h : TokenM.okB ta tt tg a now life = true) (hk : RingM.keyErr ep key old te = 0) :
    Calls Tryz.prog 141 #[.agg #[.int .i64 ep, .int .i64 key, .int .i64 old], .agg #[.int .i64 te, .int .i64 ta, .int .i64 tt, .int .i64 tg], .int .i64 a, .int .i64 now, .int .i64 life] w fun e w' => e = .returned (errV (TokenM.lastErr (TagM.tag (TokenM.keyOf ep key old te) [1, ta, tt]) ta tt tg a now life)) ∧ Below w.heap.size w w' := by
  have C := hide (fun w => rcheck_yes w he)
  obtain ⟨k1, k2, k3, k4, k5, k6⟩ := TokenM.okB_iff.1 h
  have C1 := hide (fits_any a)
  have C2 := hide (time_any now)
  have C3 := hide (time_any life)
  have C4 := hide (tfits_any te ta tt tg)
  rw [k1] at C1
  rw [k2] at C2
  rw [k3] at C3
  rw [k4, k5, k6] at C4
  simp only [Bool.and_self] at C4
  have C5 := hide (fun w => rkey_yes te w hk)
  have HK := hide (TokenM.keyOf_bd (te := te) he)
  change Hid (∀ w : World, Calls _ _ _ _ fun e w' => e = .returned (.tuple #[.int .i64 (TokenM.keyOf ep key old te), .nilIface]) ∧ _) at C5
  obtain ⟨t0, t1⟩ := (TokenM.timeB_iff tt).1 k5
  obtain ⟨n0, n1⟩ := (TokenM.timeB_iff now).1 k2
  have HA := hide k4
  have HT := hide (TokenM.timeB_in k5)
  generalize TokenM.keyOf ep key old te = kk at C5 HK ⊢
  have C6 := hide (fun b w c0 c1 c2 => of3_yes kk 1 ta tt b w c0 c1 c2 (unhide HK) rfl (unhide HA) (unhide HT))
  generalize TagM.tag kk [1, ta, tt] = right at C6 ⊢
  clear he h hk k1 k2 k3 k4 k5 k6 HK HA HT
  unfold TokenM.lastErr
  by_cases h1 : tg = right
  · subst h1
    rw [if_pos rfl]
    by_cases h2 : ta = a
    · subst h2
      rw [if_pos rfl]
      by_cases h3 : now < tt
      · rw [if_pos h3, errV_pos (by omega)]
        go_enter Tryz.func141, Tryz.ntmps141
        go_wp2_with fail
        refine (unhide C _).mono ?_
        rintro e w1 ⟨rfl, hb1⟩
        obtain ⟨hc1, hf1, hz1⟩ := lies hb1
        try simp at hz1
        have HB1 := hide hb1
        clear hb1
        have g10 : w.heap.size < w1.heap.size := by omega
        have g11 : w.heap.size + 1 < w1.heap.size := by omega
        go_wp2_with fail
        refine (unhide C1 _).mono ?_
        rintro e w' ⟨rfl, rfl⟩
        go_wp2_with fail
        refine (unhide C2 _).mono ?_
        rintro e w' ⟨rfl, rfl⟩
        go_wp2_with fail
        refine (unhide C3 _).mono ?_
        rintro e w' ⟨rfl, rfl⟩
        go_wp2_with fail
        refine (unhide C4 _).mono ?_
        rintro e w2 ⟨rfl, hb2⟩
        obtain ⟨hc2, hf2, hz2⟩ := lies hb2
        try simp at hz2
        have HB2 := hide hb2
        clear hb2
        have g20 : w.heap.size < w2.heap.size := by omega
        have g21 : w.heap.size + 1 < w2.heap.size := by omega
        go_wp2_with fail
        refine (unhide C5 _).mono ?_
        rintro e w3 ⟨rfl, hb3⟩
        obtain ⟨hc3, hf3, hz3⟩ := lies hb3
        try simp at hz3
        have HB3 := hide hb3
        clear hb3
        have g30 : w.heap.size < w3.heap.size := by omega
        have g31 : w.heap.size + 1 < w3.heap.size := by omega
        go_wp2_with fail
        refine (unhide C6 _ _ (by simp) (by simp) (by simp)).mono ?_
        rintro e w' ⟨rfl, rfl⟩
        go_wp2
        go_ret
        exact ⟨rfl, (by (repeat' (first | exact Below.refl _ _ | refine Below.alloc ?_ ?_ _ | refine Below.setCell ?_ ?_ _ | refine Below.drew ?_ | refine Below.trans ?_ (Below.mono (unhide HB3) ?_) | refine Below.trans ?_ (Below.mono (unhide HB2) ?_) | refine Below.trans ?_ (Below.mono (unhide HB1) ?_))); all_goals (first | exact Nat.le_refl _ | omega | (simp; done) | (simp; omega)))⟩
      · rw [if_neg h3]
        by_cases h4 : life < now - tt
        · rw [if_pos h4, errV_pos (by omega)]
          go_enter Tryz.func141, Tryz.ntmps141
          go_wp2_with fail
          refine (unhide C _).mono ?_
          rintro e w1 ⟨rfl, hb1⟩
          obtain ⟨hc1, hf1, hz1⟩ := lies hb1
          try simp at hz1
          have HB1 := hide hb1
          clear hb1
          have g10 : w.heap.size < w1.heap.size := by omega
          have g11 : w.heap.size + 1 < w1.heap.size := by omega
          go_wp2_with fail
          refine (unhide C1 _).mono ?_
          rintro e w' ⟨rfl, rfl⟩
          go_wp2_with fail
          refine (unhide C2 _).mono ?_
          rintro e w' ⟨rfl, rfl⟩
          go_wp2_with fail
          refine (unhide C3 _).mono ?_
          rintro e w' ⟨rfl, rfl⟩
          go_wp2_with fail
          refine (unhide C4 _).mono ?_
          rintro e w2 ⟨rfl, hb2⟩
          obtain ⟨hc2, hf2, hz2⟩ := lies hb2
          try simp at hz2
          have HB2 := hide hb2
          clear hb2
          have g20 : w.heap.size < w2.heap.size := by omega
          have g21 : w.heap.size + 1 < w2.heap.size := by omega
          go_wp2_with fail
          refine (unhide C5 _).mono ?_
          rintro e w3 ⟨rfl, hb3⟩
          obtain ⟨hc3, hf3, hz3⟩ := lies hb3
          try simp at hz3
          have HB3 := hide hb3
          clear hb3
          have g30 : w.heap.size < w3.heap.size := by omega
          have g31 : w.heap.size + 1 < w3.heap.size := by omega
          go_wp2_with fail
          refine (unhide C6 _ _ (by simp) (by simp) (by simp)).mono ?_
          rintro e w' ⟨rfl, rfl⟩
          go_wp2
          go_ret
          exact ⟨rfl, (by (repeat' (first | exact Below.refl _ _ | refine Below.alloc ?_ ?_ _ | refine Below.setCell ?_ ?_ _ | refine Below.drew ?_ | refine Below.trans ?_ (Below.mono (unhide HB3) ?_) | refine Below.trans ?_ (Below.mono (unhide HB2) ?_) | refine Below.trans ?_ (Below.mono (unhide HB1) ?_))); all_goals (first | exact Nat.le_refl _ | omega | (simp; done) | (simp; omega)))⟩
        · rw [if_neg h4, errV_zero rfl]
          go_enter Tryz.func141, Tryz.ntmps141
          go_wp2_with fail
          refine (unhide C _).mono ?_
          rintro e w1 ⟨rfl, hb1⟩
          obtain ⟨hc1, hf1, hz1⟩ := lies hb1
          try simp at hz1
          have HB1 := hide hb1
          clear hb1
          have g10 : w.heap.size < w1.heap.size := by omega
          have g11 : w.heap.size + 1 < w1.heap.size := by omega
          go_wp2_with fail
          refine (unhide C1 _).mono ?_
          rintro e w' ⟨rfl, rfl⟩
          go_wp2_with fail
          refine (unhide C2 _).mono ?_
          rintro e w' ⟨rfl, rfl⟩
          go_wp2_with fail
          refine (unhide C3 _).mono ?_
          rintro e w' ⟨rfl, rfl⟩
          go_wp2_with fail
          refine (unhide C4 _).mono ?_
          rintro e w2 ⟨rfl, hb2⟩
          obtain ⟨hc2, hf2, hz2⟩ := lies hb2
          try simp at hz2
          have HB2 := hide hb2
          clear hb2
          have g20 : w.heap.size < w2.heap.size := by omega
          have g21 : w.heap.size + 1 < w2.heap.size := by omega
          go_wp2_with fail
          refine (unhide C5 _).mono ?_
          rintro e w3 ⟨rfl, hb3⟩
          obtain ⟨hc3, hf3, hz3⟩ := lies hb3
          try simp at hz3
          have HB3 := hide hb3
          clear hb3
          have g30 : w.heap.size < w3.heap.size := by omega
          have g31 : w.heap.size + 1 < w3.heap.size := by omega
          go_wp2_with fail
          refine (unhide C6 _ _ (by simp) (by simp) (by simp)).mono ?_
          rintro e w' ⟨rfl, rfl⟩
          go_wp2
          go_ret
          exact ⟨rfl, (by (repeat' (first | exact Below.refl _ _ | refine Below.alloc ?_ ?_ _ | refine Below.setCell ?_ ?_ _ | refine Below.drew ?_ | refine Below.trans ?_ (Below.mono (unhide HB3) ?_) | refine Below.trans ?_ (Below.mono (unhide HB2) ?_) | refine Below.trans ?_ (Below.mono (unhide HB1) ?_))); all_goals (first | exact Nat.le_refl _ | omega | (simp; done) | (simp; omega)))⟩
    · rw [if_neg h2, errV_pos (by omega)]
      have g2 : (ta == a) = false := by simp [h2]
      go_enter Tryz.func141, Tryz.ntmps141
      go_wp2_with fail
      refine (unhide C _).mono ?_
      rintro e w1 ⟨rfl, hb1⟩
      obtain ⟨hc1, hf1, hz1⟩ := lies hb1
      try simp at hz1
      have HB1 := hide hb1
      clear hb1
      have g10 : w.heap.size < w1.heap.size := by omega
      have g11 : w.heap.size + 1 < w1.heap.size := by omega
      go_wp2_with fail
      refine (unhide C1 _).mono ?_
      rintro e w' ⟨rfl, rfl⟩
      go_wp2_with fail
      refine (unhide C2 _).mono ?_
      rintro e w' ⟨rfl, rfl⟩
      go_wp2_with fail
      refine (unhide C3 _).mono ?_
      rintro e w' ⟨rfl, rfl⟩
      go_wp2_with fail
      refine (unhide C4 _).mono ?_
      rintro e w2 ⟨rfl, hb2⟩
      obtain ⟨hc2, hf2, hz2⟩ := lies hb2
      try simp at hz2
      have HB2 := hide hb2
      clear hb2
      have g20 : w.heap.size < w2.heap.size := by omega
      have g21 : w.heap.size + 1 < w2.heap.size := by omega
      go_wp2_with fail
      refine (unhide C5 _).mono ?_
      rintro e w3 ⟨rfl, hb3⟩
      obtain ⟨hc3, hf3, hz3⟩ := lies hb3
      try simp at hz3
      have HB3 := hide hb3
      clear hb3
      have g30 : w.heap.size < w3.heap.size := by omega
      have g31 : w.heap.size + 1 < w3.heap.size := by omega
      go_wp2_with fail
      refine (unhide C6 _ _ (by simp) (by simp) (by simp)).mono ?_
      rintro e w' ⟨rfl, rfl⟩
      go_wp2
      go_ret
      exact ⟨rfl, (by (repeat' (first | exact Below.refl _ _ | refine Below.alloc ?_ ?_ _ | refine Below.setCell ?_ ?_ _ | refine Below.drew ?_ | refine Below.trans ?_ (Below.mono (unhide HB3) ?_) | refine Below.trans ?_ (Below.mono (unhide HB2) ?_) | refine Below.trans ?_ (Below.mono (unhide HB1) ?_))); all_goals (first | exact Nat.le_refl _ | omega | (simp; done) | (simp; omega)))⟩
  · rw [if_neg h1, errV_pos (by omega)]
    have g1 : (tg == right) = false := by simp [h1]
    go_enter Tryz.func141, Tryz.ntmps141
    go_wp2_with fail
    refine (unhide C _).mono ?_
    rintro e w1 ⟨rfl, hb1⟩
    obtain ⟨hc1, hf1, hz1⟩ := lies hb1
    try simp at hz1
    have HB1 := hide hb1
    clear hb1
    have g10 : w.heap.size < w1.heap.size := by omega
    have g11 : w.heap.size + 1 < w1.heap.size := by omega
    go_wp2_with fail
    refine (unhide C1 _).mono ?_
    rintro e w' ⟨rfl, rfl⟩
    go_wp2_with fail
    refine (unhide C2 _).mono ?_
    rintro e w' ⟨rfl, rfl⟩
    go_wp2_with fail
    refine (unhide C3 _).mono ?_
    rintro e w' ⟨rfl, rfl⟩
    go_wp2_with fail
    refine (unhide C4 _).mono ?_
    rintro e w2 ⟨rfl, hb2⟩
    obtain ⟨hc2, hf2, hz2⟩ := lies hb2
    try simp at hz2
    have HB2 := hide hb2
    clear hb2
    have g20 : w.heap.size < w2.heap.size := by omega
    have g21 : w.heap.size + 1 < w2.heap.size := by omega
    go_wp2_with fail
    refine (unhide C5 _).mono ?_
    rintro e w3 ⟨rfl, hb3⟩
    obtain ⟨hc3, hf3, hz3⟩ := lies hb3
    try simp at hz3
    have HB3 := hide hb3
    clear hb3
    have g30 : w.heap.size < w3.heap.size := by omega
    have g31 : w.heap.size + 1 < w3.heap.size := by omega
    go_wp2_with fail
    refine (unhide C6 _ _ (by simp) (by simp) (by simp)).mono ?_
    rintro e w' ⟨rfl, rfl⟩
    go_wp2
    go_ret
    exact ⟨rfl, (by (repeat' (first | exact Below.refl _ _ | refine Below.alloc ?_ ?_ _ | refine Below.setCell ?_ ?_ _ | refine Below.drew ?_ | refine Below.trans ?_ (Below.mono (unhide HB3) ?_) | refine Below.trans ?_ (Below.mono (unhide HB2) ?_) | refine Below.trans ?_ (Below.mono (unhide HB1) ?_))); all_goals (first | exact Nat.le_refl _ | omega | (simp; done) | (simp; omega)))⟩

theorem tcheck_any (ep key old te ta tt tg a now life : Int) (w : World) :
    Calls Tryz.prog 141 #[.agg #[.int .i64 ep, .int .i64 key, .int .i64 old], .agg #[.int .i64 te, .int .i64 ta, .int .i64 tt, .int .i64 tg], .int .i64 a, .int .i64 now, .int .i64 life] w fun e w' => e = .returned (errV (TokenM.checkErr ep key old te ta tt tg a now life)) ∧ Below w.heap.size w w' := by
  by_cases he : RingM.err ep key old = 0
  · by_cases h : TokenM.okB ta tt tg a now life = true
    · by_cases hk : RingM.keyErr ep key old te = 0
      · rw [TokenM.check_last he h hk]; exact tcheck_last w he h hk
      · rw [TokenM.check_key he h hk]; exact tcheck_key w he h hk
    · have h' : TokenM.okB ta tt tg a now life = false := by simpa using h
      rw [TokenM.check_range he h']; exact tcheck_range te w he h'
  · rw [TokenM.check_ring he]; exact tcheck_ring te ta tt tg a now life w he
end Go.Proofs.YthaicpepgianpakGreatDoor
