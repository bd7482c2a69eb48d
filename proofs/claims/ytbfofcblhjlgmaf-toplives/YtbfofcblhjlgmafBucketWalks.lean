/-
  What the calls of package bucket come to, said of a bucket's four numbers: isCount, Check, At, Take.
-/
import Derived.Test.YtbfofcblhjlgmafTokenWalks
import Derived.Test.YtbfofcblhjlgmafBucketMath
import Derived.Test.YtbfofcblhjlgmafHeld
import Derived.Deep.Cut
namespace Go.Proofs.Ytbfofcblhjlgmaf
open Go.RowKit

theorem count_any (n : Int) (w : World) : Calls Try.prog 14 #[.int .i64 n] w fun e w' => e = .returned (.bool (BucketM.countB n)) ∧ w' = w := by
  by_cases h0 : 0 ≤ n
  · by_cases h1 : n ≤ 100
    · rw [(BucketM.countB_iff n).2 ⟨h0, h1⟩]
      go_enter Try.func14, Try.ntmps14
      go_wp2
      go_ret
      exact ⟨rfl, rfl⟩
    · rw [(BucketM.countB_not n).2 (by omega)]
      go_enter Try.func14, Try.ntmps14
      go_wp2
      go_ret
      exact ⟨rfl, rfl⟩
  · rw [(BucketM.countB_not n).2 (by omega)]
    go_enter Try.func14, Try.ntmps14
    go_wp2
    go_ret
    exact ⟨rfl, rfl⟩

set_option maxHeartbeats 1600000 in
set_option maxRecDepth 8000 in
theorem bcheck_any (s r h t : Int) (w : World) : Calls Try.prog 10 #[.agg #[.int .i64 s, .int .i64 r, .int .i64 h, .int .i64 t]] w fun e w' => e = .returned (errV (BucketM.fault s r h t)) ∧ Below w.heap.size w w' := by
  have C1 := hide (fun w => count_any s w)
  have C2 := hide (fun w => count_any r w)
  have C3 := hide (fun w => time_any t w)
  by_cases h1 : s = 0
  · rw [BucketM.fault_bad (by omega), errV_pos (by omega)]
    subst h1
    go_enter Try.func10, Try.ntmps10
    go_wp2
    go_ret
    exact ⟨rfl, (by (repeat' (first | exact Below.refl _ _ | refine Below.alloc ?_ ?_ _ | refine Below.setCell ?_ ?_ _ | refine Below.drew ?_)); all_goals (first | exact Nat.le_refl _ | omega | (simp; done) | (simp; omega)))⟩
  · have h1' : (s == 0) = false := by simp [h1]
    by_cases h2 : s < 0 ∨ 100 < s
    · rw [BucketM.fault_bad (by omega), errV_pos (by omega)]
      rw [(BucketM.countB_not s).2 h2] at C1
      clear h2
      go_enter Try.func10, Try.ntmps10
      go_wp2_with fail
      refine (unhide C1 _).mono ?_
      rintro e w' ⟨rfl, rfl⟩
      go_wp2
      go_ret
      exact ⟨rfl, (by (repeat' (first | exact Below.refl _ _ | refine Below.alloc ?_ ?_ _ | refine Below.setCell ?_ ?_ _ | refine Below.drew ?_)); all_goals (first | exact Nat.le_refl _ | omega | (simp; done) | (simp; omega)))⟩
    · rw [(BucketM.countB_iff s).2 (by omega)] at C1
      by_cases h3 : r < 0 ∨ 100 < r
      · rw [BucketM.fault_bad (by omega), errV_pos (by omega)]
        rw [(BucketM.countB_not r).2 h3] at C2
        clear h2 h3
        go_enter Try.func10, Try.ntmps10
        go_wp2_with fail
        refine (unhide C1 _).mono ?_
        rintro e w' ⟨rfl, rfl⟩
        go_wp2_with fail
        refine (unhide C2 _).mono ?_
        rintro e w' ⟨rfl, rfl⟩
        go_wp2
        go_ret
        exact ⟨rfl, (by (repeat' (first | exact Below.refl _ _ | refine Below.alloc ?_ ?_ _ | refine Below.setCell ?_ ?_ _ | refine Below.drew ?_)); all_goals (first | exact Nat.le_refl _ | omega | (simp; done) | (simp; omega)))⟩
      · rw [(BucketM.countB_iff r).2 (by omega)] at C2
        by_cases h4 : h < 0
        · rw [BucketM.fault_bad (by omega), errV_pos (by omega)]
          clear h2 h3
          go_enter Try.func10, Try.ntmps10
          go_wp2_with fail
          refine (unhide C1 _).mono ?_
          rintro e w' ⟨rfl, rfl⟩
          go_wp2_with fail
          refine (unhide C2 _).mono ?_
          rintro e w' ⟨rfl, rfl⟩
          go_wp2
          go_ret
          exact ⟨rfl, (by (repeat' (first | exact Below.refl _ _ | refine Below.alloc ?_ ?_ _ | refine Below.setCell ?_ ?_ _ | refine Below.drew ?_)); all_goals (first | exact Nat.le_refl _ | omega | (simp; done) | (simp; omega)))⟩
        · skip
          by_cases h5 : s < h
          · rw [BucketM.fault_bad (by omega), errV_pos (by omega)]
            clear h2 h3
            go_enter Try.func10, Try.ntmps10
            go_wp2_with fail
            refine (unhide C1 _).mono ?_
            rintro e w' ⟨rfl, rfl⟩
            go_wp2_with fail
            refine (unhide C2 _).mono ?_
            rintro e w' ⟨rfl, rfl⟩
            go_wp2
            go_ret
            exact ⟨rfl, (by (repeat' (first | exact Below.refl _ _ | refine Below.alloc ?_ ?_ _ | refine Below.setCell ?_ ?_ _ | refine Below.drew ?_)); all_goals (first | exact Nat.le_refl _ | omega | (simp; done) | (simp; omega)))⟩
          · skip
            by_cases h6 : t < 0 ∨ 100000 < t
            · rw [BucketM.fault_bad (by omega), errV_pos (by omega)]
              rw [(TokenM.timeB_not t).2 h6] at C3
              clear h2 h3 h6
              go_enter Try.func10, Try.ntmps10
              go_wp2_with fail
              refine (unhide C1 _).mono ?_
              rintro e w' ⟨rfl, rfl⟩
              go_wp2_with fail
              refine (unhide C2 _).mono ?_
              rintro e w' ⟨rfl, rfl⟩
              go_wp2_with fail
              refine (unhide C3 _).mono ?_
              rintro e w' ⟨rfl, rfl⟩
              go_wp2
              go_ret
              exact ⟨rfl, (by (repeat' (first | exact Below.refl _ _ | refine Below.alloc ?_ ?_ _ | refine Below.setCell ?_ ?_ _ | refine Below.drew ?_)); all_goals (first | exact Nat.le_refl _ | omega | (simp; done) | (simp; omega)))⟩
            · rw [(TokenM.timeB_iff t).2 (by omega)] at C3
              rw [BucketM.fault_zero.2 ⟨by omega, by omega, by omega, by omega, by omega, by omega, by omega, by omega⟩, errV_zero rfl]
              clear h2 h3 h6
              go_enter Try.func10, Try.ntmps10
              go_wp2_with fail
              refine (unhide C1 _).mono ?_
              rintro e w' ⟨rfl, rfl⟩
              go_wp2_with fail
              refine (unhide C2 _).mono ?_
              rintro e w' ⟨rfl, rfl⟩
              go_wp2_with fail
              refine (unhide C3 _).mono ?_
              rintro e w' ⟨rfl, rfl⟩
              go_wp2
              go_ret
              exact ⟨rfl, (by (repeat' (first | exact Below.refl _ _ | refine Below.alloc ?_ ?_ _ | refine Below.setCell ?_ ?_ _ | refine Below.drew ?_)); all_goals (first | exact Nat.le_refl _ | omega | (simp; done) | (simp; omega)))⟩

set_option maxHeartbeats 3200000 in
set_option maxRecDepth 8000 in
/-- At, every way. -/
theorem bat_any (s r h t x : Int) (w : World) : Calls Try.prog 13 #[.agg #[.int .i64 s, .int .i64 r, .int .i64 h, .int .i64 t], .int .i64 x] w fun e w' => e = .returned (.tuple #[.agg #[.int .i64 (BucketM.told (BucketM.atErr s r h t x) (s)), .int .i64 (BucketM.told (BucketM.atErr s r h t x) (r)), .int .i64 (BucketM.told (BucketM.atErr s r h t x) (BucketM.has s r h t x)), .int .i64 (BucketM.told (BucketM.atErr s r h t x) (x))], errV (BucketM.atErr s r h t x)]) ∧ Below w.heap.size w w' := by
  have C := hide (fun w => bcheck_any s r h t w)
  have CT := hide (fun w => time_any x w)
  by_cases hf : BucketM.fault s r h t = 0
  · rw [errV_zero hf] at C
    have q := BucketM.fault_zero.1 hf
    have ht0 := q.t0
    have ht1 := q.t1
    by_cases hx : x < 0 ∨ 100000 < x
    · rw [BucketM.at_range hf hx, BucketM.told_pos (by omega), BucketM.told_pos (by omega), BucketM.told_pos (by omega), BucketM.told_pos (by omega), errV_pos (by omega)]
      rw [(TokenM.timeB_not x).2 hx] at CT
      clear hf q hx
      go_enter Try.func13, Try.ntmps13
      go_wp2_with fail
      refine (unhide C _).mono ?_
      rintro e w1 ⟨rfl, hb1⟩
      obtain ⟨hc1, hf1, hz1⟩ := lies hb1
      try simp at hz1
      have HB1 := hide hb1
      clear hb1
      go_wp2_with fail
      refine (unhide CT _).mono ?_
      rintro e w' ⟨rfl, rfl⟩
      go_wp2
      exact bodyPost_ret (v := .tuple #[.agg #[.int .i64 0, .int .i64 0, .int .i64 0, .int .i64 0], .iface 43 (.int .i64 1)]) (by simp [results, Try.results13, go_sem, hc1]) rfl ⟨rfl, (by (repeat' (first | exact Below.refl _ _ | refine Below.alloc ?_ ?_ _ | refine Below.setCell ?_ ?_ _ | refine Below.drew ?_ | refine Below.trans ?_ (Below.mono (unhide HB1) ?_))); all_goals (first | exact Nat.le_refl _ | omega | (simp; done) | (simp; omega)))⟩
    · rw [(TokenM.timeB_iff x).2 (by omega)] at CT
      by_cases hlt : x < t
      · rw [BucketM.at_late hf (by omega) hlt, BucketM.told_pos (by omega), BucketM.told_pos (by omega), BucketM.told_pos (by omega), BucketM.told_pos (by omega), errV_pos (by omega)]
        clear hf q hx
        go_enter Try.func13, Try.ntmps13
        go_wp2_with fail
        refine (unhide C _).mono ?_
        rintro e w1 ⟨rfl, hb1⟩
        obtain ⟨hc1, hf1, hz1⟩ := lies hb1
        try simp at hz1
        have HB1 := hide hb1
        clear hb1
        have g1 : w.heap.size < w1.heap.size := by omega
        have g11 : w.heap.size + 1 < w1.heap.size := by omega
        go_wp2_with fail
        refine (unhide CT _).mono ?_
        rintro e w' ⟨rfl, rfl⟩
        go_wp2
        exact bodyPost_ret (v := .tuple #[.agg #[.int .i64 0, .int .i64 0, .int .i64 0, .int .i64 0], .iface 43 (.int .i64 9)]) (by simp [results, Try.results13, go_sem, hc1]) rfl ⟨rfl, (by (repeat' (first | exact Below.refl _ _ | refine Below.alloc ?_ ?_ _ | refine Below.setCell ?_ ?_ _ | refine Below.drew ?_ | refine Below.trans ?_ (Below.mono (unhide HB1) ?_))); all_goals (first | exact Nat.le_refl _ | omega | (simp; done) | (simp; omega)))⟩
      · have HE := BucketM.at_good hf (x := x) (by omega) (by omega)
        rw [HE, BucketM.told_zero rfl, BucketM.told_zero rfl, BucketM.told_zero rfl, BucketM.told_zero rfl, errV_zero rfl]
        obtain ⟨p0, p1⟩ := BucketM.comes q (x := x) (by omega) (by omega)
        have hs0 := q.s0
        have hs1 := q.s1
        have hh0 := q.h0
        have hh1 := q.h1
        have hx0 : t ≤ x := by omega
        have hx1 : x ≤ 100000 := by omega
        unfold BucketM.has
        clear HE hf q hx
        by_cases hm : s < h + r * (x - t)
        · rw [if_neg (by omega)]
          go_enter Try.func13, Try.ntmps13
          go_wp2_with fail
          refine (unhide C _).mono ?_
          rintro e w1 ⟨rfl, hb1⟩
          have HP1 : Hid (Held w1 (w.heap.size) (n4 s r h t)) := hide (((Held.fresh (w := w) (n4 s r h t) 24 (by first | rfl | (simp; done))).later (by (repeat' (first | exact Below.refl _ _ | refine Below.alloc ?_ ?_ _ | refine Below.setCell ?_ ?_ _ | refine Below.drew ?_)); all_goals (first | exact Nat.le_refl _ | omega | (simp; done) | (simp; omega)))).later hb1)
          have HQ1 : Hid (Held w1 (w.heap.size + 1) (n4 0 0 0 0)) := hide (((Held.fresh (w := w.alloc (.cells (n4 s r h t).toArray 24)) (n4 0 0 0 0) 24 (by first | rfl | (simp; done))).later (by (repeat' (first | exact Below.refl _ _ | refine Below.alloc ?_ ?_ _ | refine Below.setCell ?_ ?_ _ | refine Below.drew ?_)); all_goals (first | exact Nat.le_refl _ | omega | (simp; done) | (simp; omega)))).later hb1)
          have HB1 := hide (show Below w.heap.size w w1 from Below.trans (by (repeat' (first | exact Below.refl _ _ | refine Below.alloc ?_ ?_ _ | refine Below.setCell ?_ ?_ _ | refine Below.drew ?_)); all_goals (first | exact Nat.le_refl _ | omega | (simp; done) | (simp; omega))) (hb1.mono (by first | exact Nat.le_refl _ | (simp; done) | (simp; omega))))
          clear hb1
          go_wp2_with fail
          refine (unhide CT _).mono ?_
          rintro e w' ⟨rfl, hw⟩
          obtain rfl := hw.symm
          clear hw
          obtain ⟨p0, p1, p2, p3⟩ := (unhide HP1).c4.1
          obtain ⟨pf0, pf1, pf2, pf3⟩ := (unhide HP1).c4.2
          have pl := (unhide HP1).2
          go_upto_region 10 with fail
          clear p0 p1 p2 p3 pf0 pf1 pf2 pf3 pl
          have HP2 : Hid (Held ((w1.setCell ⟨w.heap.size, 2, none⟩ (.int .i64 (s))).setCell ⟨w.heap.size, 3, none⟩ (.int .i64 x)) (w.heap.size) (n4 s r (s) x)) := hide (((unhide HP1).put 2 (.int .i64 (s))).put 3 (.int .i64 x))
          have HQ2 := hide (((unhide HQ1).far (c := w.heap.size) (by have := (unhide HP1).2; have := (unhide HQ1).2; have := (unhide HB1).size; omega) 2 (.int .i64 (s))).far (c := w.heap.size) (by have := (unhide HP1).2; have := (unhide HQ1).2; have := (unhide HB1).size; omega) 3 (.int .i64 x))
          have HB2 : Hid (Below w.heap.size w ((w1.setCell ⟨w.heap.size, 2, none⟩ (.int .i64 (s))).setCell ⟨w.heap.size, 3, none⟩ (.int .i64 x))) := hide (by have := (unhide HP1).2; have := (unhide HQ1).2; have := (unhide HB1).size; exact (by (repeat' (first | exact Below.refl _ _ | refine Below.alloc ?_ ?_ _ | refine Below.setCell ?_ ?_ _ | refine Below.drew ?_ | refine Below.trans ?_ (Below.mono (unhide HB1) ?_))); all_goals (first | exact Nat.le_refl _ | omega | (simp; done) | (simp; omega))))
          generalize ((w1.setCell ⟨w.heap.size, 2, none⟩ (.int .i64 (s))).setCell ⟨w.heap.size, 3, none⟩ (.int .i64 x)) = w2 at HP2 HQ2 HB2 ⊢
          obtain ⟨p0, p1, p2, p3⟩ := (unhide HP2).c4.1
          have pl := (unhide HP2).2
          obtain ⟨q0, q1, q2, q3⟩ := (unhide HQ2).c4.1
          obtain ⟨qf0, qf1, qf2, qf3⟩ := (unhide HQ2).c4.2
          have ql := (unhide HQ2).2
          go_wp2
          exact bodyPost_ret (v := .tuple #[.agg #[.int .i64 s, .int .i64 r, .int .i64 (s), .int .i64 x], .nilIface]) (by simp [results, Try.results13, go_sem, q0, q1, q2, q3]) rfl ⟨rfl, (by have := (unhide HP1).2; have := (unhide HQ1).2; have := (unhide HB2).size; exact (by (repeat' (first | exact Below.refl _ _ | refine Below.alloc ?_ ?_ _ | refine Below.setCell ?_ ?_ _ | refine Below.drew ?_ | refine Below.trans ?_ (Below.mono (unhide HB2) ?_))); all_goals (first | exact Nat.le_refl _ | omega | (simp; done) | (simp; omega))))⟩
        · rw [show (if h + r * (x - t) < s then h + r * (x - t) else s) = h + r * (x - t) by split <;> omega]
          go_enter Try.func13, Try.ntmps13
          go_wp2_with fail
          refine (unhide C _).mono ?_
          rintro e w1 ⟨rfl, hb1⟩
          have HP1 : Hid (Held w1 (w.heap.size) (n4 s r h t)) := hide (((Held.fresh (w := w) (n4 s r h t) 24 (by first | rfl | (simp; done))).later (by (repeat' (first | exact Below.refl _ _ | refine Below.alloc ?_ ?_ _ | refine Below.setCell ?_ ?_ _ | refine Below.drew ?_)); all_goals (first | exact Nat.le_refl _ | omega | (simp; done) | (simp; omega)))).later hb1)
          have HQ1 : Hid (Held w1 (w.heap.size + 1) (n4 0 0 0 0)) := hide (((Held.fresh (w := w.alloc (.cells (n4 s r h t).toArray 24)) (n4 0 0 0 0) 24 (by first | rfl | (simp; done))).later (by (repeat' (first | exact Below.refl _ _ | refine Below.alloc ?_ ?_ _ | refine Below.setCell ?_ ?_ _ | refine Below.drew ?_)); all_goals (first | exact Nat.le_refl _ | omega | (simp; done) | (simp; omega)))).later hb1)
          have HB1 := hide (show Below w.heap.size w w1 from Below.trans (by (repeat' (first | exact Below.refl _ _ | refine Below.alloc ?_ ?_ _ | refine Below.setCell ?_ ?_ _ | refine Below.drew ?_)); all_goals (first | exact Nat.le_refl _ | omega | (simp; done) | (simp; omega))) (hb1.mono (by first | exact Nat.le_refl _ | (simp; done) | (simp; omega))))
          clear hb1
          go_wp2_with fail
          refine (unhide CT _).mono ?_
          rintro e w' ⟨rfl, hw⟩
          obtain rfl := hw.symm
          clear hw
          obtain ⟨p0, p1, p2, p3⟩ := (unhide HP1).c4.1
          obtain ⟨pf0, pf1, pf2, pf3⟩ := (unhide HP1).c4.2
          have pl := (unhide HP1).2
          go_upto_region 10 with fail
          clear p0 p1 p2 p3 pf0 pf1 pf2 pf3 pl
          have HP2 : Hid (Held ((w1.setCell ⟨w.heap.size, 2, none⟩ (.int .i64 (h + r * (x - t)))).setCell ⟨w.heap.size, 3, none⟩ (.int .i64 x)) (w.heap.size) (n4 s r (h + r * (x - t)) x)) := hide (((unhide HP1).put 2 (.int .i64 (h + r * (x - t)))).put 3 (.int .i64 x))
          have HQ2 := hide (((unhide HQ1).far (c := w.heap.size) (by have := (unhide HP1).2; have := (unhide HQ1).2; have := (unhide HB1).size; omega) 2 (.int .i64 (h + r * (x - t)))).far (c := w.heap.size) (by have := (unhide HP1).2; have := (unhide HQ1).2; have := (unhide HB1).size; omega) 3 (.int .i64 x))
          have HB2 : Hid (Below w.heap.size w ((w1.setCell ⟨w.heap.size, 2, none⟩ (.int .i64 (h + r * (x - t)))).setCell ⟨w.heap.size, 3, none⟩ (.int .i64 x))) := hide (by have := (unhide HP1).2; have := (unhide HQ1).2; have := (unhide HB1).size; exact (by (repeat' (first | exact Below.refl _ _ | refine Below.alloc ?_ ?_ _ | refine Below.setCell ?_ ?_ _ | refine Below.drew ?_ | refine Below.trans ?_ (Below.mono (unhide HB1) ?_))); all_goals (first | exact Nat.le_refl _ | omega | (simp; done) | (simp; omega))))
          generalize ((w1.setCell ⟨w.heap.size, 2, none⟩ (.int .i64 (h + r * (x - t)))).setCell ⟨w.heap.size, 3, none⟩ (.int .i64 x)) = w2 at HP2 HQ2 HB2 ⊢
          obtain ⟨p0, p1, p2, p3⟩ := (unhide HP2).c4.1
          have pl := (unhide HP2).2
          obtain ⟨q0, q1, q2, q3⟩ := (unhide HQ2).c4.1
          obtain ⟨qf0, qf1, qf2, qf3⟩ := (unhide HQ2).c4.2
          have ql := (unhide HQ2).2
          go_wp2
          exact bodyPost_ret (v := .tuple #[.agg #[.int .i64 s, .int .i64 r, .int .i64 (h + r * (x - t)), .int .i64 x], .nilIface]) (by simp [results, Try.results13, go_sem, q0, q1, q2, q3]) rfl ⟨rfl, (by have := (unhide HP1).2; have := (unhide HQ1).2; have := (unhide HB2).size; exact (by (repeat' (first | exact Below.refl _ _ | refine Below.alloc ?_ ?_ _ | refine Below.setCell ?_ ?_ _ | refine Below.drew ?_ | refine Below.trans ?_ (Below.mono (unhide HB2) ?_))); all_goals (first | exact Nat.le_refl _ | omega | (simp; done) | (simp; omega))))⟩
  · rw [BucketM.at_bad x hf, BucketM.told_pos (by omega), BucketM.told_pos (by omega), BucketM.told_pos (by omega), BucketM.told_pos (by omega), errV_pos (by omega)]
    rw [BucketM.fault_one hf, errV_pos (by omega)] at C
    clear hf
    go_enter Try.func13, Try.ntmps13
    go_wp2_with fail
    refine (unhide C _).mono ?_
    rintro e w1 ⟨rfl, hb1⟩
    obtain ⟨hc1, hf1, hz1⟩ := lies hb1
    try simp at hz1
    have HB1 := hide hb1
    clear hb1
    go_wp2
    exact bodyPost_ret (v := .tuple #[.agg #[.int .i64 0, .int .i64 0, .int .i64 0, .int .i64 0], .iface 43 (.int .i64 1)]) (by simp [results, Try.results13, go_sem, hc1]) rfl ⟨rfl, (by (repeat' (first | exact Below.refl _ _ | refine Below.alloc ?_ ?_ _ | refine Below.setCell ?_ ?_ _ | refine Below.drew ?_ | refine Below.trans ?_ (Below.mono (unhide HB1) ?_))); all_goals (first | exact Nat.le_refl _ | omega | (simp; done) | (simp; omega)))⟩

set_option maxHeartbeats 3200000 in
set_option maxRecDepth 8000 in
/-- Take, every way. -/
theorem btake_any (s r h t x n : Int) (w : World) : Calls Try.prog 9 #[.agg #[.int .i64 s, .int .i64 r, .int .i64 h, .int .i64 t], .int .i64 x, .int .i64 n] w fun e w' => e = .returned (.tuple #[.agg #[.int .i64 (BucketM.told (BucketM.takeErr s r h t x n) (s)), .int .i64 (BucketM.told (BucketM.takeErr s r h t x n) (r)), .int .i64 (BucketM.told (BucketM.takeErr s r h t x n) (BucketM.has s r h t x - n)), .int .i64 (BucketM.told (BucketM.takeErr s r h t x n) (x))], errV (BucketM.takeErr s r h t x n)]) ∧ Below w.heap.size w w' := by
  have C := hide (fun w => bat_any s r h t x w)
  have CN := hide (fun w => count_any n w)
  by_cases hf : BucketM.atErr s r h t x = 0
  · have q := BucketM.at_right hf
    rw [hf, BucketM.told_zero rfl, BucketM.told_zero rfl, BucketM.told_zero rfl, BucketM.told_zero rfl, errV_zero rfl] at C
    by_cases hn : n < 0 ∨ 100 < n
    · rw [BucketM.take_range hf hn, BucketM.told_pos (by omega), BucketM.told_pos (by omega), BucketM.told_pos (by omega), BucketM.told_pos (by omega), errV_pos (by omega)]
      rw [(BucketM.countB_not n).2 hn] at CN
      generalize BucketM.has s r h t x = H at C
      clear hf q hn
      go_enter Try.func9, Try.ntmps9
      go_wp2_with fail
      refine (unhide C _).mono ?_
      rintro e w1 ⟨rfl, hb1⟩
      have HP1 : Hid (Held w1 (w.heap.size) (n4 s r h t)) := hide (((Held.fresh (w := w) (n4 s r h t) 24 (by first | rfl | (simp; done))).later (by (repeat' (first | exact Below.refl _ _ | refine Below.alloc ?_ ?_ _ | refine Below.setCell ?_ ?_ _ | refine Below.drew ?_)); all_goals (first | exact Nat.le_refl _ | omega | (simp; done) | (simp; omega)))).later hb1)
      have HQ1 : Hid (Held w1 (w.heap.size + 1) (n4 0 0 0 0)) := hide (((Held.fresh (w := w.alloc (.cells (n4 s r h t).toArray 24)) (n4 0 0 0 0) 24 (by first | rfl | (simp; done))).later (by (repeat' (first | exact Below.refl _ _ | refine Below.alloc ?_ ?_ _ | refine Below.setCell ?_ ?_ _ | refine Below.drew ?_)); all_goals (first | exact Nat.le_refl _ | omega | (simp; done) | (simp; omega)))).later hb1)
      have HB1 := hide (show Below w.heap.size w w1 from Below.trans (by (repeat' (first | exact Below.refl _ _ | refine Below.alloc ?_ ?_ _ | refine Below.setCell ?_ ?_ _ | refine Below.drew ?_)); all_goals (first | exact Nat.le_refl _ | omega | (simp; done) | (simp; omega))) (hb1.mono (by first | exact Nat.le_refl _ | (simp; done) | (simp; omega))))
      clear hb1
      obtain ⟨p0, p1, p2, p3⟩ := (unhide HP1).c4.1
      obtain ⟨pf0, pf1, pf2, pf3⟩ := (unhide HP1).c4.2
      have pl := (unhide HP1).2
      go_upto_region 2 with fail
      clear p0 p1 p2 p3 pf0 pf1 pf2 pf3 pl
      have HP2 : Hid (Held ((((w1.setCell ⟨w.heap.size, 0, none⟩ (.int .i64 s)).setCell ⟨w.heap.size, 1, none⟩ (.int .i64 r)).setCell ⟨w.heap.size, 2, none⟩ (.int .i64 H)).setCell ⟨w.heap.size, 3, none⟩ (.int .i64 x)) (w.heap.size) (n4 s r H x)) := hide (((((unhide HP1).put 0 (.int .i64 s)).put 1 (.int .i64 r)).put 2 (.int .i64 H)).put 3 (.int .i64 x))
      have HQ2 := hide (((((unhide HQ1).far (c := w.heap.size) (by have := (unhide HP1).2; have := (unhide HQ1).2; have := (unhide HB1).size; omega) 0 (.int .i64 s)).far (c := w.heap.size) (by have := (unhide HP1).2; have := (unhide HQ1).2; have := (unhide HB1).size; omega) 1 (.int .i64 r)).far (c := w.heap.size) (by have := (unhide HP1).2; have := (unhide HQ1).2; have := (unhide HB1).size; omega) 2 (.int .i64 H)).far (c := w.heap.size) (by have := (unhide HP1).2; have := (unhide HQ1).2; have := (unhide HB1).size; omega) 3 (.int .i64 x))
      have HB2 : Hid (Below w.heap.size w ((((w1.setCell ⟨w.heap.size, 0, none⟩ (.int .i64 s)).setCell ⟨w.heap.size, 1, none⟩ (.int .i64 r)).setCell ⟨w.heap.size, 2, none⟩ (.int .i64 H)).setCell ⟨w.heap.size, 3, none⟩ (.int .i64 x))) := hide (by have := (unhide HP1).2; have := (unhide HQ1).2; have := (unhide HB1).size; exact (by (repeat' (first | exact Below.refl _ _ | refine Below.alloc ?_ ?_ _ | refine Below.setCell ?_ ?_ _ | refine Below.drew ?_ | refine Below.trans ?_ (Below.mono (unhide HB1) ?_))); all_goals (first | exact Nat.le_refl _ | omega | (simp; done) | (simp; omega))))
      generalize ((((w1.setCell ⟨w.heap.size, 0, none⟩ (.int .i64 s)).setCell ⟨w.heap.size, 1, none⟩ (.int .i64 r)).setCell ⟨w.heap.size, 2, none⟩ (.int .i64 H)).setCell ⟨w.heap.size, 3, none⟩ (.int .i64 x)) = w2 at HP2 HQ2 HB2 ⊢
      go_wp2_with fail
      refine (unhide CN _).mono ?_
      rintro e w' ⟨rfl, hw⟩
      obtain rfl := hw.symm
      clear hw
      obtain ⟨p0, p1, p2, p3⟩ := (unhide HP2).c4.1
      have pl := (unhide HP2).2
      obtain ⟨q0, q1, q2, q3⟩ := (unhide HQ2).c4.1
      obtain ⟨qf0, qf1, qf2, qf3⟩ := (unhide HQ2).c4.2
      have ql := (unhide HQ2).2
      go_wp2
      exact bodyPost_ret (v := .tuple #[.agg #[.int .i64 0, .int .i64 0, .int .i64 0, .int .i64 0], .iface 43 (.int .i64 1)]) (by simp [results, Try.results9, go_sem, q0, q1, q2, q3]) rfl ⟨rfl, (by have := (unhide HP1).2; have := (unhide HQ1).2; have := (unhide HB2).size; exact (by (repeat' (first | exact Below.refl _ _ | refine Below.alloc ?_ ?_ _ | refine Below.setCell ?_ ?_ _ | refine Below.drew ?_ | refine Below.trans ?_ (Below.mono (unhide HB2) ?_))); all_goals (first | exact Nat.le_refl _ | omega | (simp; done) | (simp; omega))))⟩
    · rw [(BucketM.countB_iff n).2 (by omega)] at CN
      have n0 : 0 ≤ n := by omega
      have n1 : n ≤ 100 := by omega
      have hh0 := q.h0
      have hh1 := q.h1
      have hs1 := q.s1
      by_cases hl : BucketM.has s r h t x < n
      · rw [BucketM.take_full hf hn hl, BucketM.told_pos (by omega), BucketM.told_pos (by omega), BucketM.told_pos (by omega), BucketM.told_pos (by omega), errV_pos (by omega)]
        generalize BucketM.has s r h t x = H at C hh0 hh1 hl
        clear hf q hn
        go_enter Try.func9, Try.ntmps9
        go_wp2_with fail
        refine (unhide C _).mono ?_
        rintro e w1 ⟨rfl, hb1⟩
        have HP1 : Hid (Held w1 (w.heap.size) (n4 s r h t)) := hide (((Held.fresh (w := w) (n4 s r h t) 24 (by first | rfl | (simp; done))).later (by (repeat' (first | exact Below.refl _ _ | refine Below.alloc ?_ ?_ _ | refine Below.setCell ?_ ?_ _ | refine Below.drew ?_)); all_goals (first | exact Nat.le_refl _ | omega | (simp; done) | (simp; omega)))).later hb1)
        have HQ1 : Hid (Held w1 (w.heap.size + 1) (n4 0 0 0 0)) := hide (((Held.fresh (w := w.alloc (.cells (n4 s r h t).toArray 24)) (n4 0 0 0 0) 24 (by first | rfl | (simp; done))).later (by (repeat' (first | exact Below.refl _ _ | refine Below.alloc ?_ ?_ _ | refine Below.setCell ?_ ?_ _ | refine Below.drew ?_)); all_goals (first | exact Nat.le_refl _ | omega | (simp; done) | (simp; omega)))).later hb1)
        have HB1 := hide (show Below w.heap.size w w1 from Below.trans (by (repeat' (first | exact Below.refl _ _ | refine Below.alloc ?_ ?_ _ | refine Below.setCell ?_ ?_ _ | refine Below.drew ?_)); all_goals (first | exact Nat.le_refl _ | omega | (simp; done) | (simp; omega))) (hb1.mono (by first | exact Nat.le_refl _ | (simp; done) | (simp; omega))))
        clear hb1
        obtain ⟨p0, p1, p2, p3⟩ := (unhide HP1).c4.1
        obtain ⟨pf0, pf1, pf2, pf3⟩ := (unhide HP1).c4.2
        have pl := (unhide HP1).2
        go_upto_region 2 with fail
        clear p0 p1 p2 p3 pf0 pf1 pf2 pf3 pl
        have HP2 : Hid (Held ((((w1.setCell ⟨w.heap.size, 0, none⟩ (.int .i64 s)).setCell ⟨w.heap.size, 1, none⟩ (.int .i64 r)).setCell ⟨w.heap.size, 2, none⟩ (.int .i64 H)).setCell ⟨w.heap.size, 3, none⟩ (.int .i64 x)) (w.heap.size) (n4 s r H x)) := hide (((((unhide HP1).put 0 (.int .i64 s)).put 1 (.int .i64 r)).put 2 (.int .i64 H)).put 3 (.int .i64 x))
        have HQ2 := hide (((((unhide HQ1).far (c := w.heap.size) (by have := (unhide HP1).2; have := (unhide HQ1).2; have := (unhide HB1).size; omega) 0 (.int .i64 s)).far (c := w.heap.size) (by have := (unhide HP1).2; have := (unhide HQ1).2; have := (unhide HB1).size; omega) 1 (.int .i64 r)).far (c := w.heap.size) (by have := (unhide HP1).2; have := (unhide HQ1).2; have := (unhide HB1).size; omega) 2 (.int .i64 H)).far (c := w.heap.size) (by have := (unhide HP1).2; have := (unhide HQ1).2; have := (unhide HB1).size; omega) 3 (.int .i64 x))
        have HB2 : Hid (Below w.heap.size w ((((w1.setCell ⟨w.heap.size, 0, none⟩ (.int .i64 s)).setCell ⟨w.heap.size, 1, none⟩ (.int .i64 r)).setCell ⟨w.heap.size, 2, none⟩ (.int .i64 H)).setCell ⟨w.heap.size, 3, none⟩ (.int .i64 x))) := hide (by have := (unhide HP1).2; have := (unhide HQ1).2; have := (unhide HB1).size; exact (by (repeat' (first | exact Below.refl _ _ | refine Below.alloc ?_ ?_ _ | refine Below.setCell ?_ ?_ _ | refine Below.drew ?_ | refine Below.trans ?_ (Below.mono (unhide HB1) ?_))); all_goals (first | exact Nat.le_refl _ | omega | (simp; done) | (simp; omega))))
        generalize ((((w1.setCell ⟨w.heap.size, 0, none⟩ (.int .i64 s)).setCell ⟨w.heap.size, 1, none⟩ (.int .i64 r)).setCell ⟨w.heap.size, 2, none⟩ (.int .i64 H)).setCell ⟨w.heap.size, 3, none⟩ (.int .i64 x)) = w2 at HP2 HQ2 HB2 ⊢
        go_wp2_with fail
        refine (unhide CN _).mono ?_
        rintro e w' ⟨rfl, hw⟩
        obtain rfl := hw.symm
        clear hw
        obtain ⟨p0, p1, p2, p3⟩ := (unhide HP2).c4.1
        have pl := (unhide HP2).2
        obtain ⟨q0, q1, q2, q3⟩ := (unhide HQ2).c4.1
        obtain ⟨qf0, qf1, qf2, qf3⟩ := (unhide HQ2).c4.2
        have ql := (unhide HQ2).2
        go_wp2
        exact bodyPost_ret (v := .tuple #[.agg #[.int .i64 0, .int .i64 0, .int .i64 0, .int .i64 0], .iface 43 (.int .i64 4)]) (by simp [results, Try.results9, go_sem, q0, q1, q2, q3]) rfl ⟨rfl, (by have := (unhide HP1).2; have := (unhide HQ1).2; have := (unhide HB2).size; exact (by (repeat' (first | exact Below.refl _ _ | refine Below.alloc ?_ ?_ _ | refine Below.setCell ?_ ?_ _ | refine Below.drew ?_ | refine Below.trans ?_ (Below.mono (unhide HB2) ?_))); all_goals (first | exact Nat.le_refl _ | omega | (simp; done) | (simp; omega))))⟩
      · rw [BucketM.take_good hf n0 (by omega), BucketM.told_zero rfl, BucketM.told_zero rfl, BucketM.told_zero rfl, BucketM.told_zero rfl, errV_zero rfl]
        generalize BucketM.has s r h t x = H at C hh0 hh1 hl ⊢
        clear hf q hn
        go_enter Try.func9, Try.ntmps9
        go_wp2_with fail
        refine (unhide C _).mono ?_
        rintro e w1 ⟨rfl, hb1⟩
        have HP1 : Hid (Held w1 (w.heap.size) (n4 s r h t)) := hide (((Held.fresh (w := w) (n4 s r h t) 24 (by first | rfl | (simp; done))).later (by (repeat' (first | exact Below.refl _ _ | refine Below.alloc ?_ ?_ _ | refine Below.setCell ?_ ?_ _ | refine Below.drew ?_)); all_goals (first | exact Nat.le_refl _ | omega | (simp; done) | (simp; omega)))).later hb1)
        have HQ1 : Hid (Held w1 (w.heap.size + 1) (n4 0 0 0 0)) := hide (((Held.fresh (w := w.alloc (.cells (n4 s r h t).toArray 24)) (n4 0 0 0 0) 24 (by first | rfl | (simp; done))).later (by (repeat' (first | exact Below.refl _ _ | refine Below.alloc ?_ ?_ _ | refine Below.setCell ?_ ?_ _ | refine Below.drew ?_)); all_goals (first | exact Nat.le_refl _ | omega | (simp; done) | (simp; omega)))).later hb1)
        have HB1 := hide (show Below w.heap.size w w1 from Below.trans (by (repeat' (first | exact Below.refl _ _ | refine Below.alloc ?_ ?_ _ | refine Below.setCell ?_ ?_ _ | refine Below.drew ?_)); all_goals (first | exact Nat.le_refl _ | omega | (simp; done) | (simp; omega))) (hb1.mono (by first | exact Nat.le_refl _ | (simp; done) | (simp; omega))))
        clear hb1
        obtain ⟨p0, p1, p2, p3⟩ := (unhide HP1).c4.1
        obtain ⟨pf0, pf1, pf2, pf3⟩ := (unhide HP1).c4.2
        have pl := (unhide HP1).2
        go_upto_region 2 with fail
        clear p0 p1 p2 p3 pf0 pf1 pf2 pf3 pl
        have HP2 : Hid (Held ((((w1.setCell ⟨w.heap.size, 0, none⟩ (.int .i64 s)).setCell ⟨w.heap.size, 1, none⟩ (.int .i64 r)).setCell ⟨w.heap.size, 2, none⟩ (.int .i64 H)).setCell ⟨w.heap.size, 3, none⟩ (.int .i64 x)) (w.heap.size) (n4 s r H x)) := hide (((((unhide HP1).put 0 (.int .i64 s)).put 1 (.int .i64 r)).put 2 (.int .i64 H)).put 3 (.int .i64 x))
        have HQ2 := hide (((((unhide HQ1).far (c := w.heap.size) (by have := (unhide HP1).2; have := (unhide HQ1).2; have := (unhide HB1).size; omega) 0 (.int .i64 s)).far (c := w.heap.size) (by have := (unhide HP1).2; have := (unhide HQ1).2; have := (unhide HB1).size; omega) 1 (.int .i64 r)).far (c := w.heap.size) (by have := (unhide HP1).2; have := (unhide HQ1).2; have := (unhide HB1).size; omega) 2 (.int .i64 H)).far (c := w.heap.size) (by have := (unhide HP1).2; have := (unhide HQ1).2; have := (unhide HB1).size; omega) 3 (.int .i64 x))
        have HB2 : Hid (Below w.heap.size w ((((w1.setCell ⟨w.heap.size, 0, none⟩ (.int .i64 s)).setCell ⟨w.heap.size, 1, none⟩ (.int .i64 r)).setCell ⟨w.heap.size, 2, none⟩ (.int .i64 H)).setCell ⟨w.heap.size, 3, none⟩ (.int .i64 x))) := hide (by have := (unhide HP1).2; have := (unhide HQ1).2; have := (unhide HB1).size; exact (by (repeat' (first | exact Below.refl _ _ | refine Below.alloc ?_ ?_ _ | refine Below.setCell ?_ ?_ _ | refine Below.drew ?_ | refine Below.trans ?_ (Below.mono (unhide HB1) ?_))); all_goals (first | exact Nat.le_refl _ | omega | (simp; done) | (simp; omega))))
        generalize ((((w1.setCell ⟨w.heap.size, 0, none⟩ (.int .i64 s)).setCell ⟨w.heap.size, 1, none⟩ (.int .i64 r)).setCell ⟨w.heap.size, 2, none⟩ (.int .i64 H)).setCell ⟨w.heap.size, 3, none⟩ (.int .i64 x)) = w2 at HP2 HQ2 HB2 ⊢
        go_wp2_with fail
        refine (unhide CN _).mono ?_
        rintro e w' ⟨rfl, hw⟩
        obtain rfl := hw.symm
        clear hw
        obtain ⟨p0, p1, p2, p3⟩ := (unhide HP2).c4.1
        obtain ⟨pf0, pf1, pf2, pf3⟩ := (unhide HP2).c4.2
        have pl := (unhide HP2).2
        go_upto_region 9 with fail
        clear p0 p1 p2 p3 pf0 pf1 pf2 pf3 pl
        have HP3 : Hid (Held (w2.setCell ⟨w.heap.size, 2, none⟩ (.int .i64 (H - n))) (w.heap.size) (n4 s r (H - n) x)) := hide ((unhide HP2).put 2 (.int .i64 (H - n)))
        have HQ3 := hide ((unhide HQ2).far (c := w.heap.size) (by have := (unhide HP1).2; have := (unhide HQ1).2; have := (unhide HB2).size; omega) 2 (.int .i64 (H - n)))
        have HB3 : Hid (Below w.heap.size w (w2.setCell ⟨w.heap.size, 2, none⟩ (.int .i64 (H - n)))) := hide (by have := (unhide HP1).2; have := (unhide HQ1).2; have := (unhide HB2).size; exact (by (repeat' (first | exact Below.refl _ _ | refine Below.alloc ?_ ?_ _ | refine Below.setCell ?_ ?_ _ | refine Below.drew ?_ | refine Below.trans ?_ (Below.mono (unhide HB2) ?_))); all_goals (first | exact Nat.le_refl _ | omega | (simp; done) | (simp; omega))))
        generalize (w2.setCell ⟨w.heap.size, 2, none⟩ (.int .i64 (H - n))) = w3 at HP3 HQ3 HB3 ⊢
        obtain ⟨p0, p1, p2, p3⟩ := (unhide HP3).c4.1
        have pl := (unhide HP3).2
        obtain ⟨q0, q1, q2, q3⟩ := (unhide HQ3).c4.1
        obtain ⟨qf0, qf1, qf2, qf3⟩ := (unhide HQ3).c4.2
        have ql := (unhide HQ3).2
        go_wp2
        exact bodyPost_ret (v := .tuple #[.agg #[.int .i64 s, .int .i64 r, .int .i64 (H - n), .int .i64 x], .nilIface]) (by simp [results, Try.results9, go_sem, q0, q1, q2, q3]) rfl ⟨rfl, (by have := (unhide HP1).2; have := (unhide HQ1).2; have := (unhide HB3).size; exact (by (repeat' (first | exact Below.refl _ _ | refine Below.alloc ?_ ?_ _ | refine Below.setCell ?_ ?_ _ | refine Below.drew ?_ | refine Below.trans ?_ (Below.mono (unhide HB3) ?_))); all_goals (first | exact Nat.le_refl _ | omega | (simp; done) | (simp; omega))))⟩
  · rw [BucketM.take_bad n hf, BucketM.told_pos hf, BucketM.told_pos hf, BucketM.told_pos hf, BucketM.told_pos hf, errV_pos hf]
    rw [BucketM.told_pos hf, BucketM.told_pos hf, BucketM.told_pos hf, BucketM.told_pos hf, errV_pos hf] at C
    generalize BucketM.atErr s r h t x = E at C ⊢
    clear hf
    go_enter Try.func9, Try.ntmps9
    go_wp2_with fail
    refine (unhide C _).mono ?_
    rintro e w1 ⟨rfl, hb1⟩
    have HP1 : Hid (Held w1 (w.heap.size) (n4 s r h t)) := hide (((Held.fresh (w := w) (n4 s r h t) 24 (by first | rfl | (simp; done))).later (by (repeat' (first | exact Below.refl _ _ | refine Below.alloc ?_ ?_ _ | refine Below.setCell ?_ ?_ _ | refine Below.drew ?_)); all_goals (first | exact Nat.le_refl _ | omega | (simp; done) | (simp; omega)))).later hb1)
    have HQ1 : Hid (Held w1 (w.heap.size + 1) (n4 0 0 0 0)) := hide (((Held.fresh (w := w.alloc (.cells (n4 s r h t).toArray 24)) (n4 0 0 0 0) 24 (by first | rfl | (simp; done))).later (by (repeat' (first | exact Below.refl _ _ | refine Below.alloc ?_ ?_ _ | refine Below.setCell ?_ ?_ _ | refine Below.drew ?_)); all_goals (first | exact Nat.le_refl _ | omega | (simp; done) | (simp; omega)))).later hb1)
    have HB1 := hide (show Below w.heap.size w w1 from Below.trans (by (repeat' (first | exact Below.refl _ _ | refine Below.alloc ?_ ?_ _ | refine Below.setCell ?_ ?_ _ | refine Below.drew ?_)); all_goals (first | exact Nat.le_refl _ | omega | (simp; done) | (simp; omega))) (hb1.mono (by first | exact Nat.le_refl _ | (simp; done) | (simp; omega))))
    clear hb1
    obtain ⟨p0, p1, p2, p3⟩ := (unhide HP1).c4.1
    obtain ⟨pf0, pf1, pf2, pf3⟩ := (unhide HP1).c4.2
    have pl := (unhide HP1).2
    go_upto_region 2 with fail
    clear p0 p1 p2 p3 pf0 pf1 pf2 pf3 pl
    have HP2 : Hid (Held ((((w1.setCell ⟨w.heap.size, 0, none⟩ (.int .i64 0)).setCell ⟨w.heap.size, 1, none⟩ (.int .i64 0)).setCell ⟨w.heap.size, 2, none⟩ (.int .i64 0)).setCell ⟨w.heap.size, 3, none⟩ (.int .i64 0)) (w.heap.size) (n4 0 0 0 0)) := hide (((((unhide HP1).put 0 (.int .i64 0)).put 1 (.int .i64 0)).put 2 (.int .i64 0)).put 3 (.int .i64 0))
    have HQ2 := hide (((((unhide HQ1).far (c := w.heap.size) (by have := (unhide HP1).2; have := (unhide HQ1).2; have := (unhide HB1).size; omega) 0 (.int .i64 0)).far (c := w.heap.size) (by have := (unhide HP1).2; have := (unhide HQ1).2; have := (unhide HB1).size; omega) 1 (.int .i64 0)).far (c := w.heap.size) (by have := (unhide HP1).2; have := (unhide HQ1).2; have := (unhide HB1).size; omega) 2 (.int .i64 0)).far (c := w.heap.size) (by have := (unhide HP1).2; have := (unhide HQ1).2; have := (unhide HB1).size; omega) 3 (.int .i64 0))
    have HB2 : Hid (Below w.heap.size w ((((w1.setCell ⟨w.heap.size, 0, none⟩ (.int .i64 0)).setCell ⟨w.heap.size, 1, none⟩ (.int .i64 0)).setCell ⟨w.heap.size, 2, none⟩ (.int .i64 0)).setCell ⟨w.heap.size, 3, none⟩ (.int .i64 0))) := hide (by have := (unhide HP1).2; have := (unhide HQ1).2; have := (unhide HB1).size; exact (by (repeat' (first | exact Below.refl _ _ | refine Below.alloc ?_ ?_ _ | refine Below.setCell ?_ ?_ _ | refine Below.drew ?_ | refine Below.trans ?_ (Below.mono (unhide HB1) ?_))); all_goals (first | exact Nat.le_refl _ | omega | (simp; done) | (simp; omega))))
    generalize ((((w1.setCell ⟨w.heap.size, 0, none⟩ (.int .i64 0)).setCell ⟨w.heap.size, 1, none⟩ (.int .i64 0)).setCell ⟨w.heap.size, 2, none⟩ (.int .i64 0)).setCell ⟨w.heap.size, 3, none⟩ (.int .i64 0)) = w2 at HP2 HQ2 HB2 ⊢
    obtain ⟨p0, p1, p2, p3⟩ := (unhide HP2).c4.1
    have pl := (unhide HP2).2
    obtain ⟨q0, q1, q2, q3⟩ := (unhide HQ2).c4.1
    obtain ⟨qf0, qf1, qf2, qf3⟩ := (unhide HQ2).c4.2
    have ql := (unhide HQ2).2
    go_wp2
    exact bodyPost_ret (v := .tuple #[.agg #[.int .i64 0, .int .i64 0, .int .i64 0, .int .i64 0], .iface 43 (.int .i64 E)]) (by simp [results, Try.results9, go_sem, q0, q1, q2, q3]) rfl ⟨rfl, (by have := (unhide HP1).2; have := (unhide HQ1).2; have := (unhide HB2).size; exact (by (repeat' (first | exact Below.refl _ _ | refine Below.alloc ?_ ?_ _ | refine Below.setCell ?_ ?_ _ | refine Below.drew ?_ | refine Below.trans ?_ (Below.mono (unhide HB2) ?_))); all_goals (first | exact Nat.le_refl _ | omega | (simp; done) | (simp; omega))))⟩
end Go.Proofs.Ytbfofcblhjlgmaf
