/-
  What the reference's Time and Token come to.
-/
import Derived.Test.YthaicpepgianpakGreatDoorRefRing
import Derived.Test.YthaicpepgianpakGreatDoorJoinedTokenMath
namespace Go.Proofs.YthaicpepgianpakGreatDoor
open Go.RowKit
attribute [local go_sem ↓] Go.wp_at_zero Go.wp_at_succ

theorem rtime_any (n : Int) (w : World) : Calls Tryz.prog 44 #[.int .i64 n] w fun e w' => e = .returned (.bool (TokenM.timeB n)) ∧ w' = w := by
  by_cases h0 : 0 ≤ n
  · by_cases h1 : n ≤ 100000
    · rw [(TokenM.timeB_iff n).2 ⟨h0, h1⟩]
      go_enter Tryz.func44, Tryz.ntmps44
      go_wp2
      go_ret
      exact ⟨rfl, rfl⟩
    · rw [(TokenM.timeB_not n).2 (by omega)]
      go_enter Tryz.func44, Tryz.ntmps44
      go_wp2
      go_ret
      exact ⟨rfl, rfl⟩
  · rw [(TokenM.timeB_not n).2 (by omega)]
    go_enter Tryz.func44, Tryz.ntmps44
    go_wp2
    go_ret
    exact ⟨rfl, rfl⟩

theorem tag3 (key x y z : Int) (b : Nat) (w : World) (c0 : w.cell? ⟨b, 0, none⟩ = some (.int .i64 x)) (c1 : w.cell? ⟨b, 1, none⟩ = some (.int .i64 y)) (c2 : w.cell? ⟨b, 2, none⟩ = some (.int .i64 z))
    (hk : 0 ≤ key ∧ key < 999983) (hx : TagM.inB x = true) (hy : TagM.inB y = true) (hz : TagM.inB z = true) :
    Calls Tryz.prog 18 #[.int .i64 key, .slice (some ⟨b, 0, none⟩) 3 3] w fun e w' => e = .returned (.int .i64 (TagM.tag key [x, y, z])) ∧ w' = w :=
  ref_tag key (some ⟨b, 0, none⟩) 3 [x, y, z] w ⟨by simp, fun k hk => ⟨b, 0, rfl, by
    match k, hk with
    | 0, _ => exact c0
    | 1, _ => exact c1
    | 2, _ => exact c2
    | k + 3, hk => simp at hk; omega⟩⟩ (TagM.err_zero.2 ⟨(TagM.inB_iff key).2 hk, by simp, by simp [hx, hy, hz]⟩)


set_option maxHeartbeats 800000 in
theorem ref_token_ring {ep key old : Int} (te ta tt tg a now life : Int) (w : World) (he : ¬ RingM.err ep key old = 0) :
    Calls Tryz.prog 95 #[.agg #[.int .i64 ep, .int .i64 key, .int .i64 old], .agg #[.int .i64 te, .int .i64 ta, .int .i64 tt, .int .i64 tg], .int .i64 a, .int .i64 now, .int .i64 life] w fun e w' => e = .returned (.int .i64 (RingM.err ep key old)) ∧ Below w.heap.size w w' := by
  have C := hide (fun w => ref_ring ep key old w)
  have hn : (RingM.err ep key old == 0) = false := by simp [he]
  clear he
  generalize RingM.err ep key old = n at C hn ⊢
  go_enter Tryz.func95, Tryz.ntmps95
  go_wp2_with fail
  refine (unhide C _).mono ?_
  rintro e w1 ⟨rfl, hb1⟩
  obtain ⟨hc1, hf1, hz1⟩ := lies hb1
  try simp at hz1
  have HB1 := hide hb1
  clear hb1
  go_wp2
  go_ret
  exact ⟨rfl, (by (repeat' (first | exact Below.refl _ _ | refine Below.alloc ?_ ?_ _ | refine Below.setCell ?_ ?_ _ | refine Below.drew ?_ | refine Below.trans ?_ (Below.mono (unhide HB1) ?_))); all_goals (first | exact Nat.le_refl _ | omega | (simp; done) | (simp; omega)))⟩

set_option maxHeartbeats 3200000 in
theorem ref_token_range {ep key old te ta tt tg a now life : Int} (w : World) (he : RingM.err ep key old = 0) (h : TokenM.okB ta tt tg a now life = false) :
    Calls Tryz.prog 95 #[.agg #[.int .i64 ep, .int .i64 key, .int .i64 old], .agg #[.int .i64 te, .int .i64 ta, .int .i64 tt, .int .i64 tg], .int .i64 a, .int .i64 now, .int .i64 life] w fun e w' => e = .returned (.int .i64 (1)) ∧ Below w.heap.size w w' := by
  have C := hide (fun w => ref_ring ep key old w)
  rw [he] at C
  have C1 := hide (in_any a)
  have C2 := hide (rtime_any now)
  have C3 := hide (rtime_any life)
  have C4 := hide (in_any ta)
  have C5 := hide (rtime_any tt)
  have C6 := hide (in_any tg)
  unfold TokenM.okB at h
  generalize TagM.inB a = p1 at C1 h
  generalize TokenM.timeB now = p2 at C2 h
  generalize TokenM.timeB life = p3 at C3 h
  generalize TagM.inB ta = p4 at C4 h
  generalize TokenM.timeB tt = p5 at C5 h
  generalize TagM.inB tg = p6 at C6 h
  clear he
  cases p1
  · clear h
    go_enter Tryz.func95, Tryz.ntmps95
    go_wp2_with fail
    refine (unhide C _).mono ?_
    rintro e w1 ⟨rfl, hb1⟩
    obtain ⟨hc1, hf1, hz1⟩ := lies hb1
    try simp at hz1
    have HB1 := hide hb1
    clear hb1
    have g10 : w.heap.size < w1.heap.size := by omega
    have g11 : w.heap.size + 1 < w1.heap.size := by omega
    go_wp2_with fail
    refine (unhide C1 _).mono ?_
    rintro e w' ⟨rfl, rfl⟩
    go_wp2_with fail
    refine (unhide C2 _).mono ?_
    rintro e w' ⟨rfl, rfl⟩
    go_wp2_with fail
    refine (unhide C3 _).mono ?_
    rintro e w' ⟨rfl, rfl⟩
    go_wp2_with fail
    refine (unhide C4 _).mono ?_
    rintro e w' ⟨rfl, rfl⟩
    go_wp2_with fail
    refine (unhide C5 _).mono ?_
    rintro e w' ⟨rfl, rfl⟩
    go_wp2_with fail
    refine (unhide C6 _).mono ?_
    rintro e w' ⟨rfl, rfl⟩
    go_wp2
    go_ret
    exact ⟨rfl, (by (repeat' (first | exact Below.refl _ _ | refine Below.alloc ?_ ?_ _ | refine Below.setCell ?_ ?_ _ | refine Below.drew ?_ | refine Below.trans ?_ (Below.mono (unhide HB1) ?_))); all_goals (first | exact Nat.le_refl _ | omega | (simp; done) | (simp; omega)))⟩
  · skip
    cases p2
    · clear h
      go_enter Tryz.func95, Tryz.ntmps95
      go_wp2_with fail
      refine (unhide C _).mono ?_
      rintro e w1 ⟨rfl, hb1⟩
      obtain ⟨hc1, hf1, hz1⟩ := lies hb1
      try simp at hz1
      have HB1 := hide hb1
      clear hb1
      have g10 : w.heap.size < w1.heap.size := by omega
      have g11 : w.heap.size + 1 < w1.heap.size := by omega
      go_wp2_with fail
      refine (unhide C1 _).mono ?_
      rintro e w' ⟨rfl, rfl⟩
      go_wp2_with fail
      refine (unhide C2 _).mono ?_
      rintro e w' ⟨rfl, rfl⟩
      go_wp2_with fail
      refine (unhide C3 _).mono ?_
      rintro e w' ⟨rfl, rfl⟩
      go_wp2_with fail
      refine (unhide C4 _).mono ?_
      rintro e w' ⟨rfl, rfl⟩
      go_wp2_with fail
      refine (unhide C5 _).mono ?_
      rintro e w' ⟨rfl, rfl⟩
      go_wp2_with fail
      refine (unhide C6 _).mono ?_
      rintro e w' ⟨rfl, rfl⟩
      go_wp2
      go_ret
      exact ⟨rfl, (by (repeat' (first | exact Below.refl _ _ | refine Below.alloc ?_ ?_ _ | refine Below.setCell ?_ ?_ _ | refine Below.drew ?_ | refine Below.trans ?_ (Below.mono (unhide HB1) ?_))); all_goals (first | exact Nat.le_refl _ | omega | (simp; done) | (simp; omega)))⟩
    · skip
      cases p3
      · clear h
        go_enter Tryz.func95, Tryz.ntmps95
        go_wp2_with fail
        refine (unhide C _).mono ?_
        rintro e w1 ⟨rfl, hb1⟩
        obtain ⟨hc1, hf1, hz1⟩ := lies hb1
        try simp at hz1
        have HB1 := hide hb1
        clear hb1
        have g10 : w.heap.size < w1.heap.size := by omega
        have g11 : w.heap.size + 1 < w1.heap.size := by omega
        go_wp2_with fail
        refine (unhide C1 _).mono ?_
        rintro e w' ⟨rfl, rfl⟩
        go_wp2_with fail
        refine (unhide C2 _).mono ?_
        rintro e w' ⟨rfl, rfl⟩
        go_wp2_with fail
        refine (unhide C3 _).mono ?_
        rintro e w' ⟨rfl, rfl⟩
        go_wp2_with fail
        refine (unhide C4 _).mono ?_
        rintro e w' ⟨rfl, rfl⟩
        go_wp2_with fail
        refine (unhide C5 _).mono ?_
        rintro e w' ⟨rfl, rfl⟩
        go_wp2_with fail
        refine (unhide C6 _).mono ?_
        rintro e w' ⟨rfl, rfl⟩
        go_wp2
        go_ret
        exact ⟨rfl, (by (repeat' (first | exact Below.refl _ _ | refine Below.alloc ?_ ?_ _ | refine Below.setCell ?_ ?_ _ | refine Below.drew ?_ | refine Below.trans ?_ (Below.mono (unhide HB1) ?_))); all_goals (first | exact Nat.le_refl _ | omega | (simp; done) | (simp; omega)))⟩
      · skip
        cases p4
        · clear h
          go_enter Tryz.func95, Tryz.ntmps95
          go_wp2_with fail
          refine (unhide C _).mono ?_
          rintro e w1 ⟨rfl, hb1⟩
          obtain ⟨hc1, hf1, hz1⟩ := lies hb1
          try simp at hz1
          have HB1 := hide hb1
          clear hb1
          have g10 : w.heap.size < w1.heap.size := by omega
          have g11 : w.heap.size + 1 < w1.heap.size := by omega
          go_wp2_with fail
          refine (unhide C1 _).mono ?_
          rintro e w' ⟨rfl, rfl⟩
          go_wp2_with fail
          refine (unhide C2 _).mono ?_
          rintro e w' ⟨rfl, rfl⟩
          go_wp2_with fail
          refine (unhide C3 _).mono ?_
          rintro e w' ⟨rfl, rfl⟩
          go_wp2_with fail
          refine (unhide C4 _).mono ?_
          rintro e w' ⟨rfl, rfl⟩
          go_wp2_with fail
          refine (unhide C5 _).mono ?_
          rintro e w' ⟨rfl, rfl⟩
          go_wp2_with fail
          refine (unhide C6 _).mono ?_
          rintro e w' ⟨rfl, rfl⟩
          go_wp2
          go_ret
          exact ⟨rfl, (by (repeat' (first | exact Below.refl _ _ | refine Below.alloc ?_ ?_ _ | refine Below.setCell ?_ ?_ _ | refine Below.drew ?_ | refine Below.trans ?_ (Below.mono (unhide HB1) ?_))); all_goals (first | exact Nat.le_refl _ | omega | (simp; done) | (simp; omega)))⟩
        · skip
          cases p5
          · clear h
            go_enter Tryz.func95, Tryz.ntmps95
            go_wp2_with fail
            refine (unhide C _).mono ?_
            rintro e w1 ⟨rfl, hb1⟩
            obtain ⟨hc1, hf1, hz1⟩ := lies hb1
            try simp at hz1
            have HB1 := hide hb1
            clear hb1
            have g10 : w.heap.size < w1.heap.size := by omega
            have g11 : w.heap.size + 1 < w1.heap.size := by omega
            go_wp2_with fail
            refine (unhide C1 _).mono ?_
            rintro e w' ⟨rfl, rfl⟩
            go_wp2_with fail
            refine (unhide C2 _).mono ?_
            rintro e w' ⟨rfl, rfl⟩
            go_wp2_with fail
            refine (unhide C3 _).mono ?_
            rintro e w' ⟨rfl, rfl⟩
            go_wp2_with fail
            refine (unhide C4 _).mono ?_
            rintro e w' ⟨rfl, rfl⟩
            go_wp2_with fail
            refine (unhide C5 _).mono ?_
            rintro e w' ⟨rfl, rfl⟩
            go_wp2_with fail
            refine (unhide C6 _).mono ?_
            rintro e w' ⟨rfl, rfl⟩
            go_wp2
            go_ret
            exact ⟨rfl, (by (repeat' (first | exact Below.refl _ _ | refine Below.alloc ?_ ?_ _ | refine Below.setCell ?_ ?_ _ | refine Below.drew ?_ | refine Below.trans ?_ (Below.mono (unhide HB1) ?_))); all_goals (first | exact Nat.le_refl _ | omega | (simp; done) | (simp; omega)))⟩
          · skip
            cases p6
            · clear h
              go_enter Tryz.func95, Tryz.ntmps95
              go_wp2_with fail
              refine (unhide C _).mono ?_
              rintro e w1 ⟨rfl, hb1⟩
              obtain ⟨hc1, hf1, hz1⟩ := lies hb1
              try simp at hz1
              have HB1 := hide hb1
              clear hb1
              have g10 : w.heap.size < w1.heap.size := by omega
              have g11 : w.heap.size + 1 < w1.heap.size := by omega
              go_wp2_with fail
              refine (unhide C1 _).mono ?_
              rintro e w' ⟨rfl, rfl⟩
              go_wp2_with fail
              refine (unhide C2 _).mono ?_
              rintro e w' ⟨rfl, rfl⟩
              go_wp2_with fail
              refine (unhide C3 _).mono ?_
              rintro e w' ⟨rfl, rfl⟩
              go_wp2_with fail
              refine (unhide C4 _).mono ?_
              rintro e w' ⟨rfl, rfl⟩
              go_wp2_with fail
              refine (unhide C5 _).mono ?_
              rintro e w' ⟨rfl, rfl⟩
              go_wp2_with fail
              refine (unhide C6 _).mono ?_
              rintro e w' ⟨rfl, rfl⟩
              go_wp2
              go_ret
              exact ⟨rfl, (by (repeat' (first | exact Below.refl _ _ | refine Below.alloc ?_ ?_ _ | refine Below.setCell ?_ ?_ _ | refine Below.drew ?_ | refine Below.trans ?_ (Below.mono (unhide HB1) ?_))); all_goals (first | exact Nat.le_refl _ | omega | (simp; done) | (simp; omega)))⟩
            · exact absurd h (by simp)

set_option maxHeartbeats 1600000 in
theorem ref_token_epoch {ep key old te ta tt tg a now life : Int} (w : World) (he : RingM.err ep key old = 0) (h : TokenM.okB ta tt tg a now life = true) (ht : te < 0 ∨ 100 < te) :
    Calls Tryz.prog 95 #[.agg #[.int .i64 ep, .int .i64 key, .int .i64 old], .agg #[.int .i64 te, .int .i64 ta, .int .i64 tt, .int .i64 tg], .int .i64 a, .int .i64 now, .int .i64 life] w fun e w' => e = .returned (.int .i64 (1)) ∧ Below w.heap.size w w' := by
  have C := hide (fun w => ref_ring ep key old w)
  rw [he] at C
  have C1 := hide (in_any a)
  have C2 := hide (rtime_any now)
  have C3 := hide (rtime_any life)
  have C4 := hide (in_any ta)
  have C5 := hide (rtime_any tt)
  have C6 := hide (in_any tg)
  obtain ⟨k1, k2, k3, k4, k5, k6⟩ := TokenM.okB_iff.1 h
  rw [k1] at C1
  rw [k2] at C2
  rw [k3] at C3
  rw [k4] at C4
  rw [k5] at C5
  rw [k6] at C6
  clear he h k1 k2 k3 k4 k5 k6
  by_cases h0 : te < 0
  · clear ht
    go_enter Tryz.func95, Tryz.ntmps95
    go_wp2_with fail
    refine (unhide C _).mono ?_
    rintro e w1 ⟨rfl, hb1⟩
    obtain ⟨hc1, hf1, hz1⟩ := lies hb1
    try simp at hz1
    have HB1 := hide hb1
    clear hb1
    have g10 : w.heap.size < w1.heap.size := by omega
    have g11 : w.heap.size + 1 < w1.heap.size := by omega
    go_wp2_with fail
    refine (unhide C1 _).mono ?_
    rintro e w' ⟨rfl, rfl⟩
    go_wp2_with fail
    refine (unhide C2 _).mono ?_
    rintro e w' ⟨rfl, rfl⟩
    go_wp2_with fail
    refine (unhide C3 _).mono ?_
    rintro e w' ⟨rfl, rfl⟩
    go_wp2_with fail
    refine (unhide C4 _).mono ?_
    rintro e w' ⟨rfl, rfl⟩
    go_wp2_with fail
    refine (unhide C5 _).mono ?_
    rintro e w' ⟨rfl, rfl⟩
    go_wp2_with fail
    refine (unhide C6 _).mono ?_
    rintro e w' ⟨rfl, rfl⟩
    go_wp2
    go_ret
    exact ⟨rfl, (by (repeat' (first | exact Below.refl _ _ | refine Below.alloc ?_ ?_ _ | refine Below.setCell ?_ ?_ _ | refine Below.drew ?_ | refine Below.trans ?_ (Below.mono (unhide HB1) ?_))); all_goals (first | exact Nat.le_refl _ | omega | (simp; done) | (simp; omega)))⟩
  · have h1 : 100 < te := by omega
    clear ht
    go_enter Tryz.func95, Tryz.ntmps95
    go_wp2_with fail
    refine (unhide C _).mono ?_
    rintro e w1 ⟨rfl, hb1⟩
    obtain ⟨hc1, hf1, hz1⟩ := lies hb1
    try simp at hz1
    have HB1 := hide hb1
    clear hb1
    have g10 : w.heap.size < w1.heap.size := by omega
    have g11 : w.heap.size + 1 < w1.heap.size := by omega
    go_wp2_with fail
    refine (unhide C1 _).mono ?_
    rintro e w' ⟨rfl, rfl⟩
    go_wp2_with fail
    refine (unhide C2 _).mono ?_
    rintro e w' ⟨rfl, rfl⟩
    go_wp2_with fail
    refine (unhide C3 _).mono ?_
    rintro e w' ⟨rfl, rfl⟩
    go_wp2_with fail
    refine (unhide C4 _).mono ?_
    rintro e w' ⟨rfl, rfl⟩
    go_wp2_with fail
    refine (unhide C5 _).mono ?_
    rintro e w' ⟨rfl, rfl⟩
    go_wp2_with fail
    refine (unhide C6 _).mono ?_
    rintro e w' ⟨rfl, rfl⟩
    go_wp2
    go_ret
    exact ⟨rfl, (by (repeat' (first | exact Below.refl _ _ | refine Below.alloc ?_ ?_ _ | refine Below.setCell ?_ ?_ _ | refine Below.drew ?_ | refine Below.trans ?_ (Below.mono (unhide HB1) ?_))); all_goals (first | exact Nat.le_refl _ | omega | (simp; done) | (simp; omega)))⟩

set_option maxHeartbeats 1600000 in
theorem ref_token_key {ep key old te ta tt tg a now life : Int} (w : World) (he : RingM.err ep key old = 0) (h : TokenM.okB ta tt tg a now life = true) (t0 : 0 ≤ te) (t1 : te ≤ 100) (hk : ¬ RingM.keyErr ep key old te = 0) :
    Calls Tryz.prog 95 #[.agg #[.int .i64 ep, .int .i64 key, .int .i64 old], .agg #[.int .i64 te, .int .i64 ta, .int .i64 tt, .int .i64 tg], .int .i64 a, .int .i64 now, .int .i64 life] w fun e w' => e = .returned (.int .i64 (RingM.keyErr ep key old te)) ∧ Below w.heap.size w w' := by
  have C := hide (fun w => ref_ring ep key old w)
  rw [he] at C
  have C1 := hide (in_any a)
  have C2 := hide (rtime_any now)
  have C3 := hide (rtime_any life)
  have C4 := hide (in_any ta)
  have C5 := hide (rtime_any tt)
  have C6 := hide (in_any tg)
  obtain ⟨k1, k2, k3, k4, k5, k6⟩ := TokenM.okB_iff.1 h
  rw [k1] at C1
  rw [k2] at C2
  rw [k3] at C3
  rw [k4] at C4
  rw [k5] at C5
  rw [k6] at C6
  have C7 := hide (fun w => ref_key w he t0 t1)
  rw [if_neg hk] at C7
  have hn : (RingM.keyErr ep key old te == 0) = false := by simp [hk]
  clear he h k1 k2 k3 k4 k5 k6 hk
  generalize RingM.keyErr ep key old te = n at C7 hn ⊢
  have u0 : ¬ te < 0 := by omega
  have u1 : ¬ 100 < te := by omega
  go_enter Tryz.func95, Tryz.ntmps95
  go_wp2_with fail
  refine (unhide C _).mono ?_
  rintro e w1 ⟨rfl, hb1⟩
  obtain ⟨hc1, hf1, hz1⟩ := lies hb1
  try simp at hz1
  have HB1 := hide hb1
  clear hb1
  have g10 : w.heap.size < w1.heap.size := by omega
  have g11 : w.heap.size + 1 < w1.heap.size := by omega
  go_wp2_with fail
  refine (unhide C1 _).mono ?_
  rintro e w' ⟨rfl, rfl⟩
  go_wp2_with fail
  refine (unhide C2 _).mono ?_
  rintro e w' ⟨rfl, rfl⟩
  go_wp2_with fail
  refine (unhide C3 _).mono ?_
  rintro e w' ⟨rfl, rfl⟩
  go_wp2_with fail
  refine (unhide C4 _).mono ?_
  rintro e w' ⟨rfl, rfl⟩
  go_wp2_with fail
  refine (unhide C5 _).mono ?_
  rintro e w' ⟨rfl, rfl⟩
  go_wp2_with fail
  refine (unhide C6 _).mono ?_
  rintro e w' ⟨rfl, rfl⟩
  go_wp2_with fail
  refine (unhide C7 _).mono ?_
  rintro e w2 ⟨rfl, hb2⟩
  obtain ⟨hc2, hf2, hz2⟩ := lies hb2
  try simp at hz2
  have HB2 := hide hb2
  clear hb2
  go_wp2
  go_ret
  exact ⟨rfl, (by (repeat' (first | exact Below.refl _ _ | refine Below.alloc ?_ ?_ _ | refine Below.setCell ?_ ?_ _ | refine Below.drew ?_ | refine Below.trans ?_ (Below.mono (unhide HB2) ?_) | refine Below.trans ?_ (Below.mono (unhide HB1) ?_))); all_goals (first | exact Nat.le_refl _ | omega | (simp; done) | (simp; omega)))⟩


set_option maxHeartbeats 6400000 in
set_option maxRecDepth 4000 in
theorem ref_token_last {ep key old te ta tt tg a now life : Int} (w : World) (he : RingM.err ep key old = 0) (h : TokenM.okB ta tt tg a now life = true) (hk : RingM.keyErr ep key old te = 0) :
    Calls Tryz.prog 95 #[.agg #[.int .i64 ep, .int .i64 key, .int .i64 old], .agg #[.int .i64 te, .int .i64 ta, .int .i64 tt, .int .i64 tg], .int .i64 a, .int .i64 now, .int .i64 life] w fun e w' => e = .returned (.int .i64 (TokenM.lastErr (TagM.tag (TokenM.keyOf ep key old te) [1, ta, tt]) ta tt tg a now life)) ∧ Below w.heap.size w w' := by
  obtain ⟨_, ⟨t0, t1⟩, _⟩ := RingM.key_zero.1 hk
  have C := hide (fun w => ref_ring ep key old w)
  rw [he] at C
  have C1 := hide (in_any a)
  have C2 := hide (rtime_any now)
  have C3 := hide (rtime_any life)
  have C4 := hide (in_any ta)
  have C5 := hide (rtime_any tt)
  have C6 := hide (in_any tg)
  obtain ⟨k1, k2, k3, k4, k5, k6⟩ := TokenM.okB_iff.1 h
  rw [k1] at C1
  rw [k2] at C2
  rw [k3] at C3
  rw [k4] at C4
  rw [k5] at C5
  rw [k6] at C6
  have C7 := hide (fun w => ref_key w he t0 t1)
  rw [if_pos hk, hk] at C7
  change Hid (∀ w : World, Calls _ _ _ _ fun e w' => e = .returned (.tuple #[.int .i64 (TokenM.keyOf ep key old te), .int .i64 0]) ∧ _) at C7
  have HK := hide (TokenM.keyOf_bd (te := te) he)
  obtain ⟨x0, x1⟩ := (TokenM.timeB_iff tt).1 k5
  obtain ⟨n0, n1⟩ := (TokenM.timeB_iff now).1 k2
  obtain ⟨l0, l1⟩ := (TokenM.timeB_iff life).1 k3
  have HA := hide k4
  have HT := hide (TokenM.timeB_in k5)
  generalize TokenM.keyOf ep key old te = kk at C7 HK ⊢
  have C8 := hide (fun b w c0 c1 c2 => tag3 kk 1 ta tt b w c0 c1 c2 (unhide HK) rfl (unhide HA) (unhide HT))
  generalize TagM.tag kk [1, ta, tt] = right at C8 ⊢
  clear he h hk k1 k2 k3 k4 k5 k6 HK HA HT
  have u0 : ¬ te < 0 := by omega
  have u1 : ¬ 100 < te := by omega
  unfold TokenM.lastErr
  by_cases h1 : tg = right
  · subst h1
    rw [if_pos rfl]
    by_cases h2 : ta = a
    · subst h2
      rw [if_pos rfl]
      by_cases h3 : now < tt
      · rw [if_pos h3]
        go_enter Tryz.func95, Tryz.ntmps95
        go_wp2_with fail
        refine (unhide C _).mono ?_
        rintro e w1 ⟨rfl, hb1⟩
        obtain ⟨hc1, hf1, hz1⟩ := lies hb1
        try simp at hz1
        have HB1 := hide hb1
        clear hb1
        have g10 : w.heap.size < w1.heap.size := by omega
        have g11 : w.heap.size + 1 < w1.heap.size := by omega
        go_wp2_with fail
        refine (unhide C1 _).mono ?_
        rintro e w' ⟨rfl, rfl⟩
        go_wp2_with fail
        refine (unhide C2 _).mono ?_
        rintro e w' ⟨rfl, rfl⟩
        go_wp2_with fail
        refine (unhide C3 _).mono ?_
        rintro e w' ⟨rfl, rfl⟩
        go_wp2_with fail
        refine (unhide C4 _).mono ?_
        rintro e w' ⟨rfl, rfl⟩
        go_wp2_with fail
        refine (unhide C5 _).mono ?_
        rintro e w' ⟨rfl, rfl⟩
        go_wp2_with fail
        refine (unhide C6 _).mono ?_
        rintro e w' ⟨rfl, rfl⟩
        go_wp2_with fail
        refine (unhide C7 _).mono ?_
        rintro e w2 ⟨rfl, hb2⟩
        obtain ⟨hc2, hf2, hz2⟩ := lies hb2
        try simp at hz2
        have HB2 := hide hb2
        clear hb2
        have g20 : w.heap.size < w2.heap.size := by omega
        have g21 : w.heap.size + 1 < w2.heap.size := by omega
        go_wp2
        go_region_held3 (fun w' => w'.cell? ⟨w.heap.size + 1, 1, none⟩ = some (.int .i64 ta) ∧ w'.cell? ⟨w.heap.size + 1, 2, none⟩ = some (.int .i64 tt) ∧ w'.cell? ⟨w.heap.size + 1, 3, none⟩ = some (.int .i64 tg)) (go_keep)
          (first | (go_at_call 18; refine (unhide C8 _ _ (by first | (rw [World.cell?_alloc_at _ _ _ _ (by simp)]; rfl) | (rw [World.cell?_drew, World.cell?_alloc_at _ _ _ _ (by simp)]; rfl)) (by first | (rw [World.cell?_alloc_at _ _ _ _ (by simp)]; rfl) | (rw [World.cell?_drew, World.cell?_alloc_at _ _ _ _ (by simp)]; rfl)) (by first | (rw [World.cell?_alloc_at _ _ _ _ (by simp)]; rfl) | (rw [World.cell?_drew, World.cell?_alloc_at _ _ _ _ (by simp)]; rfl))).mono ?_; rintro e w' ⟨rfl, rfl⟩))
        go_wp2
        go_ret
        exact ⟨rfl, (by (repeat' (first | exact Below.refl _ _ | refine Below.alloc ?_ ?_ _ | refine Below.setCell ?_ ?_ _ | refine Below.drew ?_ | refine Below.trans ?_ (Below.mono (unhide HB2) ?_) | refine Below.trans ?_ (Below.mono (unhide HB1) ?_))); all_goals (first | exact Nat.le_refl _ | omega | (simp; done) | (simp; omega)))⟩
      · rw [if_neg h3]
        by_cases h4 : life < now - tt
        · rw [if_pos h4]
          have h5 : tt + life < now := by omega
          go_enter Tryz.func95, Tryz.ntmps95
          go_wp2_with fail
          refine (unhide C _).mono ?_
          rintro e w1 ⟨rfl, hb1⟩
          obtain ⟨hc1, hf1, hz1⟩ := lies hb1
          try simp at hz1
          have HB1 := hide hb1
          clear hb1
          have g10 : w.heap.size < w1.heap.size := by omega
          have g11 : w.heap.size + 1 < w1.heap.size := by omega
          go_wp2_with fail
          refine (unhide C1 _).mono ?_
          rintro e w' ⟨rfl, rfl⟩
          go_wp2_with fail
          refine (unhide C2 _).mono ?_
          rintro e w' ⟨rfl, rfl⟩
          go_wp2_with fail
          refine (unhide C3 _).mono ?_
          rintro e w' ⟨rfl, rfl⟩
          go_wp2_with fail
          refine (unhide C4 _).mono ?_
          rintro e w' ⟨rfl, rfl⟩
          go_wp2_with fail
          refine (unhide C5 _).mono ?_
          rintro e w' ⟨rfl, rfl⟩
          go_wp2_with fail
          refine (unhide C6 _).mono ?_
          rintro e w' ⟨rfl, rfl⟩
          go_wp2_with fail
          refine (unhide C7 _).mono ?_
          rintro e w2 ⟨rfl, hb2⟩
          obtain ⟨hc2, hf2, hz2⟩ := lies hb2
          try simp at hz2
          have HB2 := hide hb2
          clear hb2
          have g20 : w.heap.size < w2.heap.size := by omega
          have g21 : w.heap.size + 1 < w2.heap.size := by omega
          go_wp2
          go_region_held3 (fun w' => w'.cell? ⟨w.heap.size + 1, 1, none⟩ = some (.int .i64 ta) ∧ w'.cell? ⟨w.heap.size + 1, 2, none⟩ = some (.int .i64 tt) ∧ w'.cell? ⟨w.heap.size + 1, 3, none⟩ = some (.int .i64 tg)) (go_keep)
            (first | (go_at_call 18; refine (unhide C8 _ _ (by first | (rw [World.cell?_alloc_at _ _ _ _ (by simp)]; rfl) | (rw [World.cell?_drew, World.cell?_alloc_at _ _ _ _ (by simp)]; rfl)) (by first | (rw [World.cell?_alloc_at _ _ _ _ (by simp)]; rfl) | (rw [World.cell?_drew, World.cell?_alloc_at _ _ _ _ (by simp)]; rfl)) (by first | (rw [World.cell?_alloc_at _ _ _ _ (by simp)]; rfl) | (rw [World.cell?_drew, World.cell?_alloc_at _ _ _ _ (by simp)]; rfl))).mono ?_; rintro e w' ⟨rfl, rfl⟩))
          go_wp2
          go_ret
          exact ⟨rfl, (by (repeat' (first | exact Below.refl _ _ | refine Below.alloc ?_ ?_ _ | refine Below.setCell ?_ ?_ _ | refine Below.drew ?_ | refine Below.trans ?_ (Below.mono (unhide HB2) ?_) | refine Below.trans ?_ (Below.mono (unhide HB1) ?_))); all_goals (first | exact Nat.le_refl _ | omega | (simp; done) | (simp; omega)))⟩
        · rw [if_neg h4]
          have h5 : ¬ tt + life < now := by omega
          go_enter Tryz.func95, Tryz.ntmps95
          go_wp2_with fail
          refine (unhide C _).mono ?_
          rintro e w1 ⟨rfl, hb1⟩
          obtain ⟨hc1, hf1, hz1⟩ := lies hb1
          try simp at hz1
          have HB1 := hide hb1
          clear hb1
          have g10 : w.heap.size < w1.heap.size := by omega
          have g11 : w.heap.size + 1 < w1.heap.size := by omega
          go_wp2_with fail
          refine (unhide C1 _).mono ?_
          rintro e w' ⟨rfl, rfl⟩
          go_wp2_with fail
          refine (unhide C2 _).mono ?_
          rintro e w' ⟨rfl, rfl⟩
          go_wp2_with fail
          refine (unhide C3 _).mono ?_
          rintro e w' ⟨rfl, rfl⟩
          go_wp2_with fail
          refine (unhide C4 _).mono ?_
          rintro e w' ⟨rfl, rfl⟩
          go_wp2_with fail
          refine (unhide C5 _).mono ?_
          rintro e w' ⟨rfl, rfl⟩
          go_wp2_with fail
          refine (unhide C6 _).mono ?_
          rintro e w' ⟨rfl, rfl⟩
          go_wp2_with fail
          refine (unhide C7 _).mono ?_
          rintro e w2 ⟨rfl, hb2⟩
          obtain ⟨hc2, hf2, hz2⟩ := lies hb2
          try simp at hz2
          have HB2 := hide hb2
          clear hb2
          have g20 : w.heap.size < w2.heap.size := by omega
          have g21 : w.heap.size + 1 < w2.heap.size := by omega
          go_wp2
          go_region_held3 (fun w' => w'.cell? ⟨w.heap.size + 1, 1, none⟩ = some (.int .i64 ta) ∧ w'.cell? ⟨w.heap.size + 1, 2, none⟩ = some (.int .i64 tt) ∧ w'.cell? ⟨w.heap.size + 1, 3, none⟩ = some (.int .i64 tg)) (go_keep)
            (first | (go_at_call 18; refine (unhide C8 _ _ (by first | (rw [World.cell?_alloc_at _ _ _ _ (by simp)]; rfl) | (rw [World.cell?_drew, World.cell?_alloc_at _ _ _ _ (by simp)]; rfl)) (by first | (rw [World.cell?_alloc_at _ _ _ _ (by simp)]; rfl) | (rw [World.cell?_drew, World.cell?_alloc_at _ _ _ _ (by simp)]; rfl)) (by first | (rw [World.cell?_alloc_at _ _ _ _ (by simp)]; rfl) | (rw [World.cell?_drew, World.cell?_alloc_at _ _ _ _ (by simp)]; rfl))).mono ?_; rintro e w' ⟨rfl, rfl⟩))
          go_wp2
          go_ret
          exact ⟨rfl, (by (repeat' (first | exact Below.refl _ _ | refine Below.alloc ?_ ?_ _ | refine Below.setCell ?_ ?_ _ | refine Below.drew ?_ | refine Below.trans ?_ (Below.mono (unhide HB2) ?_) | refine Below.trans ?_ (Below.mono (unhide HB1) ?_))); all_goals (first | exact Nat.le_refl _ | omega | (simp; done) | (simp; omega)))⟩
    · rw [if_neg h2]
      have g2 : (ta == a) = false := by simp [h2]
      go_enter Tryz.func95, Tryz.ntmps95
      go_wp2_with fail
      refine (unhide C _).mono ?_
      rintro e w1 ⟨rfl, hb1⟩
      obtain ⟨hc1, hf1, hz1⟩ := lies hb1
      try simp at hz1
      have HB1 := hide hb1
      clear hb1
      have g10 : w.heap.size < w1.heap.size := by omega
      have g11 : w.heap.size + 1 < w1.heap.size := by omega
      go_wp2_with fail
      refine (unhide C1 _).mono ?_
      rintro e w' ⟨rfl, rfl⟩
      go_wp2_with fail
      refine (unhide C2 _).mono ?_
      rintro e w' ⟨rfl, rfl⟩
      go_wp2_with fail
      refine (unhide C3 _).mono ?_
      rintro e w' ⟨rfl, rfl⟩
      go_wp2_with fail
      refine (unhide C4 _).mono ?_
      rintro e w' ⟨rfl, rfl⟩
      go_wp2_with fail
      refine (unhide C5 _).mono ?_
      rintro e w' ⟨rfl, rfl⟩
      go_wp2_with fail
      refine (unhide C6 _).mono ?_
      rintro e w' ⟨rfl, rfl⟩
      go_wp2_with fail
      refine (unhide C7 _).mono ?_
      rintro e w2 ⟨rfl, hb2⟩
      obtain ⟨hc2, hf2, hz2⟩ := lies hb2
      try simp at hz2
      have HB2 := hide hb2
      clear hb2
      have g20 : w.heap.size < w2.heap.size := by omega
      have g21 : w.heap.size + 1 < w2.heap.size := by omega
      go_wp2
      go_region_held3 (fun w' => w'.cell? ⟨w.heap.size + 1, 1, none⟩ = some (.int .i64 ta) ∧ w'.cell? ⟨w.heap.size + 1, 2, none⟩ = some (.int .i64 tt) ∧ w'.cell? ⟨w.heap.size + 1, 3, none⟩ = some (.int .i64 tg)) (go_keep)
        (first | (go_at_call 18; refine (unhide C8 _ _ (by first | (rw [World.cell?_alloc_at _ _ _ _ (by simp)]; rfl) | (rw [World.cell?_drew, World.cell?_alloc_at _ _ _ _ (by simp)]; rfl)) (by first | (rw [World.cell?_alloc_at _ _ _ _ (by simp)]; rfl) | (rw [World.cell?_drew, World.cell?_alloc_at _ _ _ _ (by simp)]; rfl)) (by first | (rw [World.cell?_alloc_at _ _ _ _ (by simp)]; rfl) | (rw [World.cell?_drew, World.cell?_alloc_at _ _ _ _ (by simp)]; rfl))).mono ?_; rintro e w' ⟨rfl, rfl⟩))
      go_wp2
      go_ret
      exact ⟨rfl, (by (repeat' (first | exact Below.refl _ _ | refine Below.alloc ?_ ?_ _ | refine Below.setCell ?_ ?_ _ | refine Below.drew ?_ | refine Below.trans ?_ (Below.mono (unhide HB2) ?_) | refine Below.trans ?_ (Below.mono (unhide HB1) ?_))); all_goals (first | exact Nat.le_refl _ | omega | (simp; done) | (simp; omega)))⟩
  · rw [if_neg h1]
    have g1 : (right == tg) = false := by simp; exact fun e => h1 e.symm
    go_enter Tryz.func95, Tryz.ntmps95
    go_wp2_with fail
    refine (unhide C _).mono ?_
    rintro e w1 ⟨rfl, hb1⟩
    obtain ⟨hc1, hf1, hz1⟩ := lies hb1
    try simp at hz1
    have HB1 := hide hb1
    clear hb1
    have g10 : w.heap.size < w1.heap.size := by omega
    have g11 : w.heap.size + 1 < w1.heap.size := by omega
    go_wp2_with fail
    refine (unhide C1 _).mono ?_
    rintro e w' ⟨rfl, rfl⟩
    go_wp2_with fail
    refine (unhide C2 _).mono ?_
    rintro e w' ⟨rfl, rfl⟩
    go_wp2_with fail
    refine (unhide C3 _).mono ?_
    rintro e w' ⟨rfl, rfl⟩
    go_wp2_with fail
    refine (unhide C4 _).mono ?_
    rintro e w' ⟨rfl, rfl⟩
    go_wp2_with fail
    refine (unhide C5 _).mono ?_
    rintro e w' ⟨rfl, rfl⟩
    go_wp2_with fail
    refine (unhide C6 _).mono ?_
    rintro e w' ⟨rfl, rfl⟩
    go_wp2_with fail
    refine (unhide C7 _).mono ?_
    rintro e w2 ⟨rfl, hb2⟩
    obtain ⟨hc2, hf2, hz2⟩ := lies hb2
    try simp at hz2
    have HB2 := hide hb2
    clear hb2
    have g20 : w.heap.size < w2.heap.size := by omega
    have g21 : w.heap.size + 1 < w2.heap.size := by omega
    go_wp2
    go_region_held3 (fun w' => w'.cell? ⟨w.heap.size + 1, 1, none⟩ = some (.int .i64 ta) ∧ w'.cell? ⟨w.heap.size + 1, 2, none⟩ = some (.int .i64 tt) ∧ w'.cell? ⟨w.heap.size + 1, 3, none⟩ = some (.int .i64 tg)) (go_keep)
      (first | (go_at_call 18; refine (unhide C8 _ _ (by first | (rw [World.cell?_alloc_at _ _ _ _ (by simp)]; rfl) | (rw [World.cell?_drew, World.cell?_alloc_at _ _ _ _ (by simp)]; rfl)) (by first | (rw [World.cell?_alloc_at _ _ _ _ (by simp)]; rfl) | (rw [World.cell?_drew, World.cell?_alloc_at _ _ _ _ (by simp)]; rfl)) (by first | (rw [World.cell?_alloc_at _ _ _ _ (by simp)]; rfl) | (rw [World.cell?_drew, World.cell?_alloc_at _ _ _ _ (by simp)]; rfl))).mono ?_; rintro e w' ⟨rfl, rfl⟩))
    go_wp2
    go_ret
    exact ⟨rfl, (by (repeat' (first | exact Below.refl _ _ | refine Below.alloc ?_ ?_ _ | refine Below.setCell ?_ ?_ _ | refine Below.drew ?_ | refine Below.trans ?_ (Below.mono (unhide HB2) ?_) | refine Below.trans ?_ (Below.mono (unhide HB1) ?_))); all_goals (first | exact Nat.le_refl _ | omega | (simp; done) | (simp; omega)))⟩

theorem ref_token_any (ep key old te ta tt tg a now life : Int) (w : World) :
    Calls Tryz.prog 95 #[.agg #[.int .i64 ep, .int .i64 key, .int .i64 old], .agg #[.int .i64 te, .int .i64 ta, .int .i64 tt, .int .i64 tg], .int .i64 a, .int .i64 now, .int .i64 life] w fun e w' => e = .returned (.int .i64 (TokenM.checkErr ep key old te ta tt tg a now life)) ∧ Below w.heap.size w w' := by
  by_cases he : RingM.err ep key old = 0
  · by_cases h : TokenM.okB ta tt tg a now life = true
    · by_cases hk : RingM.keyErr ep key old te = 0
      · rw [TokenM.check_last he h hk]; exact ref_token_last w he h hk
      · rw [TokenM.check_key he h hk]
        by_cases ht : te < 0 ∨ 100 < te
        · have : RingM.keyErr ep key old te = 1 := by unfold RingM.keyErr; rw [if_pos he, if_pos ht]
          rw [this]
          exact ref_token_epoch w he h ht
        · exact ref_token_key w he h (by omega) (by omega) hk
    · have h' : TokenM.okB ta tt tg a now life = false := by simpa using h
      rw [TokenM.check_range he h']; exact ref_token_range w he h'
  · rw [TokenM.check_ring he]; exact ref_token_ring te ta tt tg a now life w he
end Go.Proofs.YthaicpepgianpakGreatDoor
