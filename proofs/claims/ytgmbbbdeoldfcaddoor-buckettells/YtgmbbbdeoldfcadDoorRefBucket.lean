/-
  What the reference's Bucket and At come to, said of a bucket's four numbers.
-/
import Derived.Test.YtgmbbbdeoldfcadDoorRefToken
import Derived.Test.YtgmbbbdeoldfcadDoorHeld
import Derived.Test.YtgmbbbdeoldfcadDoorBucketMath
import Derived.Deep.Cut
namespace Go.Proofs.YtgmbbbdeoldfcadDoor
open Go.RowKit

set_option maxHeartbeats 1600000 in
set_option maxRecDepth 8000 in
theorem rbucket_any (s r h t : Int) (w : World) : Calls Tryd.prog 9 #[.agg #[.int .i64 s, .int .i64 r, .int .i64 h, .int .i64 t]] w fun e w' => e = .returned (.int .i64 (BucketM.fault s r h t)) ∧ Below w.heap.size w w' := by
  have CT := hide (fun w => rtime_any t w)
  by_cases h1 : s < 1
  · rw [BucketM.fault_bad (by omega)]
    generalize TokenM.timeB t = ok at CT
    go_enter Tryd.func9, Tryd.ntmps9
    go_wp2_with fail
    refine (unhide CT _).mono ?_
    rintro e w' ⟨rfl, rfl⟩
    go_wp2
    go_ret
    exact ⟨rfl, (by (repeat' (first | exact Below.refl _ _ | refine Below.alloc ?_ ?_ _ | refine Below.setCell ?_ ?_ _ | refine Below.drew ?_)); all_goals (first | exact Nat.le_refl _ | omega | (simp; done) | (simp; omega)))⟩
  · skip
    by_cases h2 : 100 < s
    · rw [BucketM.fault_bad (by omega)]
      generalize TokenM.timeB t = ok at CT
      go_enter Tryd.func9, Tryd.ntmps9
      go_wp2_with fail
      refine (unhide CT _).mono ?_
      rintro e w' ⟨rfl, rfl⟩
      go_wp2
      go_ret
      exact ⟨rfl, (by (repeat' (first | exact Below.refl _ _ | refine Below.alloc ?_ ?_ _ | refine Below.setCell ?_ ?_ _ | refine Below.drew ?_)); all_goals (first | exact Nat.le_refl _ | omega | (simp; done) | (simp; omega)))⟩
    · skip
      by_cases h3 : r < 0
      · rw [BucketM.fault_bad (by omega)]
        generalize TokenM.timeB t = ok at CT
        go_enter Tryd.func9, Tryd.ntmps9
        go_wp2_with fail
        refine (unhide CT _).mono ?_
        rintro e w' ⟨rfl, rfl⟩
        go_wp2
        go_ret
        exact ⟨rfl, (by (repeat' (first | exact Below.refl _ _ | refine Below.alloc ?_ ?_ _ | refine Below.setCell ?_ ?_ _ | refine Below.drew ?_)); all_goals (first | exact Nat.le_refl _ | omega | (simp; done) | (simp; omega)))⟩
      · skip
        by_cases h4 : 100 < r
        · rw [BucketM.fault_bad (by omega)]
          generalize TokenM.timeB t = ok at CT
          go_enter Tryd.func9, Tryd.ntmps9
          go_wp2_with fail
          refine (unhide CT _).mono ?_
          rintro e w' ⟨rfl, rfl⟩
          go_wp2
          go_ret
          exact ⟨rfl, (by (repeat' (first | exact Below.refl _ _ | refine Below.alloc ?_ ?_ _ | refine Below.setCell ?_ ?_ _ | refine Below.drew ?_)); all_goals (first | exact Nat.le_refl _ | omega | (simp; done) | (simp; omega)))⟩
        · skip
          by_cases h5 : h < 0
          · rw [BucketM.fault_bad (by omega)]
            generalize TokenM.timeB t = ok at CT
            go_enter Tryd.func9, Tryd.ntmps9
            go_wp2_with fail
            refine (unhide CT _).mono ?_
            rintro e w' ⟨rfl, rfl⟩
            go_wp2
            go_ret
            exact ⟨rfl, (by (repeat' (first | exact Below.refl _ _ | refine Below.alloc ?_ ?_ _ | refine Below.setCell ?_ ?_ _ | refine Below.drew ?_)); all_goals (first | exact Nat.le_refl _ | omega | (simp; done) | (simp; omega)))⟩
          · skip
            by_cases h6 : s < h
            · rw [BucketM.fault_bad (by omega)]
              generalize TokenM.timeB t = ok at CT
              go_enter Tryd.func9, Tryd.ntmps9
              go_wp2_with fail
              refine (unhide CT _).mono ?_
              rintro e w' ⟨rfl, rfl⟩
              go_wp2
              go_ret
              exact ⟨rfl, (by (repeat' (first | exact Below.refl _ _ | refine Below.alloc ?_ ?_ _ | refine Below.setCell ?_ ?_ _ | refine Below.drew ?_)); all_goals (first | exact Nat.le_refl _ | omega | (simp; done) | (simp; omega)))⟩
            · skip
              by_cases h7 : t < 0 ∨ 100000 < t
              · rw [BucketM.fault_bad (by omega)]
                rw [(TokenM.timeB_not t).2 h7] at CT
                clear h7
                go_enter Tryd.func9, Tryd.ntmps9
                go_wp2_with fail
                refine (unhide CT _).mono ?_
                rintro e w' ⟨rfl, rfl⟩
                go_wp2
                go_ret
                exact ⟨rfl, (by (repeat' (first | exact Below.refl _ _ | refine Below.alloc ?_ ?_ _ | refine Below.setCell ?_ ?_ _ | refine Below.drew ?_)); all_goals (first | exact Nat.le_refl _ | omega | (simp; done) | (simp; omega)))⟩
              · rw [BucketM.fault_zero.2 ⟨by omega, by omega, by omega, by omega, by omega, by omega, by omega, by omega⟩]
                rw [(TokenM.timeB_iff t).2 (by omega)] at CT
                clear h7
                go_enter Tryd.func9, Tryd.ntmps9
                go_wp2_with fail
                refine (unhide CT _).mono ?_
                rintro e w' ⟨rfl, rfl⟩
                go_wp2
                go_ret
                exact ⟨rfl, (by (repeat' (first | exact Below.refl _ _ | refine Below.alloc ?_ ?_ _ | refine Below.setCell ?_ ?_ _ | refine Below.drew ?_)); all_goals (first | exact Nat.le_refl _ | omega | (simp; done) | (simp; omega)))⟩

set_option maxHeartbeats 3200000 in
set_option maxRecDepth 8000 in
theorem rat_any (s r h t x : Int) (w : World) : Calls Tryd.prog 10 #[.agg #[.int .i64 s, .int .i64 r, .int .i64 h, .int .i64 t], .int .i64 x] w fun e w' => e = .returned (.tuple #[.agg #[.int .i64 (BucketM.told (BucketM.atErr s r h t x) (s)), .int .i64 (BucketM.told (BucketM.atErr s r h t x) (r)), .int .i64 (BucketM.told (BucketM.atErr s r h t x) (BucketM.has s r h t x)), .int .i64 (BucketM.told (BucketM.atErr s r h t x) (x))], .int .i64 (BucketM.atErr s r h t x)]) ∧ Below w.heap.size w w' := by
  have C := hide (fun w => rbucket_any s r h t w)
  have CT := hide (fun w => rtime_any x w)
  by_cases hf : BucketM.fault s r h t = 0
  · rw [hf] at C
    have q := BucketM.fault_zero.1 hf
    have ht0 := q.t0
    have ht1 := q.t1
    by_cases hx : x < 0 ∨ 100000 < x
    · rw [BucketM.at_range hf hx, BucketM.told_pos (by omega), BucketM.told_pos (by omega), BucketM.told_pos (by omega), BucketM.told_pos (by omega)]
      rw [(TokenM.timeB_not x).2 hx] at CT
      clear hf q hx
      go_enter Tryd.func10, Tryd.ntmps10
      go_wp2_with fail
      refine (unhide C _).mono ?_
      rintro e w1 ⟨rfl, hb1⟩
      obtain ⟨hc1, hf1, hz1⟩ := lies hb1
      try simp at hz1
      have HB1 := hide hb1
      clear hb1
      go_wp2_with fail
      refine (unhide CT _).mono ?_
      rintro e w' ⟨rfl, rfl⟩
      go_wp2
      exact bodyPost_ret (v := .tuple #[.agg #[.int .i64 0, .int .i64 0, .int .i64 0, .int .i64 0], .int .i64 1]) (by simp [results, Tryd.results10, go_sem, hc1]) rfl ⟨rfl, (by (repeat' (first | exact Below.refl _ _ | refine Below.alloc ?_ ?_ _ | refine Below.setCell ?_ ?_ _ | refine Below.drew ?_ | refine Below.trans ?_ (Below.mono (unhide HB1) ?_))); all_goals (first | exact Nat.le_refl _ | omega | (simp; done) | (simp; omega)))⟩
    · rw [(TokenM.timeB_iff x).2 (by omega)] at CT
      by_cases hlt : x < t
      · rw [BucketM.at_late hf (by omega) hlt, BucketM.told_pos (by omega), BucketM.told_pos (by omega), BucketM.told_pos (by omega), BucketM.told_pos (by omega)]
        clear hf q hx
        go_enter Tryd.func10, Tryd.ntmps10
        go_wp2_with fail
        refine (unhide C _).mono ?_
        rintro e w1 ⟨rfl, hb1⟩
        obtain ⟨hc1, hf1, hz1⟩ := lies hb1
        try simp at hz1
        have HB1 := hide hb1
        clear hb1
        have g1 : w.heap.size < w1.heap.size := by omega
        have g11 : w.heap.size + 1 < w1.heap.size := by omega
        go_wp2_with fail
        refine (unhide CT _).mono ?_
        rintro e w' ⟨rfl, rfl⟩
        go_wp2
        exact bodyPost_ret (v := .tuple #[.agg #[.int .i64 0, .int .i64 0, .int .i64 0, .int .i64 0], .int .i64 9]) (by simp [results, Tryd.results10, go_sem, hc1]) rfl ⟨rfl, (by (repeat' (first | exact Below.refl _ _ | refine Below.alloc ?_ ?_ _ | refine Below.setCell ?_ ?_ _ | refine Below.drew ?_ | refine Below.trans ?_ (Below.mono (unhide HB1) ?_))); all_goals (first | exact Nat.le_refl _ | omega | (simp; done) | (simp; omega)))⟩
      · have HE := BucketM.at_good hf (x := x) (by omega) (by omega)
        rw [HE, BucketM.told_zero rfl, BucketM.told_zero rfl, BucketM.told_zero rfl, BucketM.told_zero rfl]
        obtain ⟨p0, p1⟩ := BucketM.comes q (x := x) (by omega) (by omega)
        have hs0 := q.s0
        have hs1 := q.s1
        have hh0 := q.h0
        have hh1 := q.h1
        have hx0 : t ≤ x := by omega
        have hx1 : x ≤ 100000 := by omega
        unfold BucketM.has
        clear HE hf q hx
        by_cases hm : s < h + r * (x - t)
        · rw [if_neg (by omega)]
          go_enter Tryd.func10, Tryd.ntmps10
          go_wp2_with fail
          refine (unhide C _).mono ?_
          rintro e w1 ⟨rfl, hb1⟩
          have HP1 : Hid (Held w1 (w.heap.size) (n4 s r h t)) := hide (((Held.fresh (w := w) (n4 s r h t) 32 (by first | rfl | (simp; done))).later (by (repeat' (first | exact Below.refl _ _ | refine Below.alloc ?_ ?_ _ | refine Below.setCell ?_ ?_ _ | refine Below.drew ?_)); all_goals (first | exact Nat.le_refl _ | omega | (simp; done) | (simp; omega)))).later hb1)
          have HQ1 : Hid (Held w1 (w.heap.size + 1) (n4 0 0 0 0)) := hide (((Held.fresh (w := w.alloc (.cells (n4 s r h t).toArray 32)) (n4 0 0 0 0) 32 (by first | rfl | (simp; done))).later (by (repeat' (first | exact Below.refl _ _ | refine Below.alloc ?_ ?_ _ | refine Below.setCell ?_ ?_ _ | refine Below.drew ?_)); all_goals (first | exact Nat.le_refl _ | omega | (simp; done) | (simp; omega)))).later hb1)
          have HB1 := hide (show Below w.heap.size w w1 from Below.trans (by (repeat' (first | exact Below.refl _ _ | refine Below.alloc ?_ ?_ _ | refine Below.setCell ?_ ?_ _ | refine Below.drew ?_)); all_goals (first | exact Nat.le_refl _ | omega | (simp; done) | (simp; omega))) (hb1.mono (by first | exact Nat.le_refl _ | (simp; done) | (simp; omega))))
          clear hb1
          go_wp2_with fail
          refine (unhide CT _).mono ?_
          rintro e w' ⟨rfl, hw⟩
          obtain rfl := hw.symm
          clear hw
          obtain ⟨p0, p1, p2, p3⟩ := (unhide HP1).c4.1
          obtain ⟨pf0, pf1, pf2, pf3⟩ := (unhide HP1).c4.2
          have pl := (unhide HP1).2
          go_upto_region 10 with fail
          clear p0 p1 p2 p3 pf0 pf1 pf2 pf3 pl
          have HP2 : Hid (Held (w1.setCell ⟨w.heap.size, 2, none⟩ (.int .i64 (h + r * (x - t)))) (w.heap.size) (n4 s r (h + r * (x - t)) t)) := hide ((unhide HP1).put 2 (.int .i64 (h + r * (x - t))))
          have HQ2 := hide ((unhide HQ1).far (c := w.heap.size) (by have := (unhide HP1).2; have := (unhide HQ1).2; have := (unhide HB1).size; omega) 2 (.int .i64 (h + r * (x - t))))
          have HB2 : Hid (Below w.heap.size w (w1.setCell ⟨w.heap.size, 2, none⟩ (.int .i64 (h + r * (x - t))))) := hide (by have := (unhide HP1).2; have := (unhide HQ1).2; have := (unhide HB1).size; exact (by (repeat' (first | exact Below.refl _ _ | refine Below.alloc ?_ ?_ _ | refine Below.setCell ?_ ?_ _ | refine Below.drew ?_ | refine Below.trans ?_ (Below.mono (unhide HB1) ?_))); all_goals (first | exact Nat.le_refl _ | omega | (simp; done) | (simp; omega))))
          generalize (w1.setCell ⟨w.heap.size, 2, none⟩ (.int .i64 (h + r * (x - t)))) = w2 at HP2 HQ2 HB2 ⊢
          obtain ⟨p0, p1, p2, p3⟩ := (unhide HP2).c4.1
          obtain ⟨pf0, pf1, pf2, pf3⟩ := (unhide HP2).c4.2
          have pl := (unhide HP2).2
          go_upto_region 13 with fail
          clear p0 p1 p2 p3 pf0 pf1 pf2 pf3 pl
          have HP3 : Hid (Held ((w2.setCell ⟨w.heap.size, 2, none⟩ (.int .i64 s)).setCell ⟨w.heap.size, 3, none⟩ (.int .i64 x)) (w.heap.size) (n4 s r (s) x)) := hide (((unhide HP2).put 2 (.int .i64 s)).put 3 (.int .i64 x))
          have HQ3 := hide (((unhide HQ2).far (c := w.heap.size) (by have := (unhide HP1).2; have := (unhide HQ1).2; have := (unhide HB2).size; omega) 2 (.int .i64 s)).far (c := w.heap.size) (by have := (unhide HP1).2; have := (unhide HQ1).2; have := (unhide HB2).size; omega) 3 (.int .i64 x))
          have HB3 : Hid (Below w.heap.size w ((w2.setCell ⟨w.heap.size, 2, none⟩ (.int .i64 s)).setCell ⟨w.heap.size, 3, none⟩ (.int .i64 x))) := hide (by have := (unhide HP1).2; have := (unhide HQ1).2; have := (unhide HB2).size; exact (by (repeat' (first | exact Below.refl _ _ | refine Below.alloc ?_ ?_ _ | refine Below.setCell ?_ ?_ _ | refine Below.drew ?_ | refine Below.trans ?_ (Below.mono (unhide HB2) ?_))); all_goals (first | exact Nat.le_refl _ | omega | (simp; done) | (simp; omega))))
          generalize ((w2.setCell ⟨w.heap.size, 2, none⟩ (.int .i64 s)).setCell ⟨w.heap.size, 3, none⟩ (.int .i64 x)) = w3 at HP3 HQ3 HB3 ⊢
          obtain ⟨p0, p1, p2, p3⟩ := (unhide HP3).c4.1
          have pl := (unhide HP3).2
          obtain ⟨q0, q1, q2, q3⟩ := (unhide HQ3).c4.1
          obtain ⟨qf0, qf1, qf2, qf3⟩ := (unhide HQ3).c4.2
          have ql := (unhide HQ3).2
          go_wp2
          exact bodyPost_ret (v := .tuple #[.agg #[.int .i64 s, .int .i64 r, .int .i64 (s), .int .i64 x], .int .i64 0]) (by simp [results, Tryd.results10, go_sem, q0, q1, q2, q3]) rfl ⟨rfl, (by have := (unhide HP1).2; have := (unhide HQ1).2; have := (unhide HB3).size; exact (by (repeat' (first | exact Below.refl _ _ | refine Below.alloc ?_ ?_ _ | refine Below.setCell ?_ ?_ _ | refine Below.drew ?_ | refine Below.trans ?_ (Below.mono (unhide HB3) ?_))); all_goals (first | exact Nat.le_refl _ | omega | (simp; done) | (simp; omega))))⟩
        · rw [show (if h + r * (x - t) < s then h + r * (x - t) else s) = h + r * (x - t) by split <;> omega]
          go_enter Tryd.func10, Tryd.ntmps10
          go_wp2_with fail
          refine (unhide C _).mono ?_
          rintro e w1 ⟨rfl, hb1⟩
          have HP1 : Hid (Held w1 (w.heap.size) (n4 s r h t)) := hide (((Held.fresh (w := w) (n4 s r h t) 32 (by first | rfl | (simp; done))).later (by (repeat' (first | exact Below.refl _ _ | refine Below.alloc ?_ ?_ _ | refine Below.setCell ?_ ?_ _ | refine Below.drew ?_)); all_goals (first | exact Nat.le_refl _ | omega | (simp; done) | (simp; omega)))).later hb1)
          have HQ1 : Hid (Held w1 (w.heap.size + 1) (n4 0 0 0 0)) := hide (((Held.fresh (w := w.alloc (.cells (n4 s r h t).toArray 32)) (n4 0 0 0 0) 32 (by first | rfl | (simp; done))).later (by (repeat' (first | exact Below.refl _ _ | refine Below.alloc ?_ ?_ _ | refine Below.setCell ?_ ?_ _ | refine Below.drew ?_)); all_goals (first | exact Nat.le_refl _ | omega | (simp; done) | (simp; omega)))).later hb1)
          have HB1 := hide (show Below w.heap.size w w1 from Below.trans (by (repeat' (first | exact Below.refl _ _ | refine Below.alloc ?_ ?_ _ | refine Below.setCell ?_ ?_ _ | refine Below.drew ?_)); all_goals (first | exact Nat.le_refl _ | omega | (simp; done) | (simp; omega))) (hb1.mono (by first | exact Nat.le_refl _ | (simp; done) | (simp; omega))))
          clear hb1
          go_wp2_with fail
          refine (unhide CT _).mono ?_
          rintro e w' ⟨rfl, hw⟩
          obtain rfl := hw.symm
          clear hw
          obtain ⟨p0, p1, p2, p3⟩ := (unhide HP1).c4.1
          obtain ⟨pf0, pf1, pf2, pf3⟩ := (unhide HP1).c4.2
          have pl := (unhide HP1).2
          go_upto_region 10 with fail
          clear p0 p1 p2 p3 pf0 pf1 pf2 pf3 pl
          have HP2 : Hid (Held (w1.setCell ⟨w.heap.size, 2, none⟩ (.int .i64 (h + r * (x - t)))) (w.heap.size) (n4 s r (h + r * (x - t)) t)) := hide ((unhide HP1).put 2 (.int .i64 (h + r * (x - t))))
          have HQ2 := hide ((unhide HQ1).far (c := w.heap.size) (by have := (unhide HP1).2; have := (unhide HQ1).2; have := (unhide HB1).size; omega) 2 (.int .i64 (h + r * (x - t))))
          have HB2 : Hid (Below w.heap.size w (w1.setCell ⟨w.heap.size, 2, none⟩ (.int .i64 (h + r * (x - t))))) := hide (by have := (unhide HP1).2; have := (unhide HQ1).2; have := (unhide HB1).size; exact (by (repeat' (first | exact Below.refl _ _ | refine Below.alloc ?_ ?_ _ | refine Below.setCell ?_ ?_ _ | refine Below.drew ?_ | refine Below.trans ?_ (Below.mono (unhide HB1) ?_))); all_goals (first | exact Nat.le_refl _ | omega | (simp; done) | (simp; omega))))
          generalize (w1.setCell ⟨w.heap.size, 2, none⟩ (.int .i64 (h + r * (x - t)))) = w2 at HP2 HQ2 HB2 ⊢
          obtain ⟨p0, p1, p2, p3⟩ := (unhide HP2).c4.1
          obtain ⟨pf0, pf1, pf2, pf3⟩ := (unhide HP2).c4.2
          have pl := (unhide HP2).2
          go_upto_region 13 with fail
          clear p0 p1 p2 p3 pf0 pf1 pf2 pf3 pl
          have HP3 : Hid (Held (w2.setCell ⟨w.heap.size, 3, none⟩ (.int .i64 x)) (w.heap.size) (n4 s r (h + r * (x - t)) x)) := hide ((unhide HP2).put 3 (.int .i64 x))
          have HQ3 := hide ((unhide HQ2).far (c := w.heap.size) (by have := (unhide HP1).2; have := (unhide HQ1).2; have := (unhide HB2).size; omega) 3 (.int .i64 x))
          have HB3 : Hid (Below w.heap.size w (w2.setCell ⟨w.heap.size, 3, none⟩ (.int .i64 x))) := hide (by have := (unhide HP1).2; have := (unhide HQ1).2; have := (unhide HB2).size; exact (by (repeat' (first | exact Below.refl _ _ | refine Below.alloc ?_ ?_ _ | refine Below.setCell ?_ ?_ _ | refine Below.drew ?_ | refine Below.trans ?_ (Below.mono (unhide HB2) ?_))); all_goals (first | exact Nat.le_refl _ | omega | (simp; done) | (simp; omega))))
          generalize (w2.setCell ⟨w.heap.size, 3, none⟩ (.int .i64 x)) = w3 at HP3 HQ3 HB3 ⊢
          obtain ⟨p0, p1, p2, p3⟩ := (unhide HP3).c4.1
          have pl := (unhide HP3).2
          obtain ⟨q0, q1, q2, q3⟩ := (unhide HQ3).c4.1
          obtain ⟨qf0, qf1, qf2, qf3⟩ := (unhide HQ3).c4.2
          have ql := (unhide HQ3).2
          go_wp2
          exact bodyPost_ret (v := .tuple #[.agg #[.int .i64 s, .int .i64 r, .int .i64 (h + r * (x - t)), .int .i64 x], .int .i64 0]) (by simp [results, Tryd.results10, go_sem, q0, q1, q2, q3]) rfl ⟨rfl, (by have := (unhide HP1).2; have := (unhide HQ1).2; have := (unhide HB3).size; exact (by (repeat' (first | exact Below.refl _ _ | refine Below.alloc ?_ ?_ _ | refine Below.setCell ?_ ?_ _ | refine Below.drew ?_ | refine Below.trans ?_ (Below.mono (unhide HB3) ?_))); all_goals (first | exact Nat.le_refl _ | omega | (simp; done) | (simp; omega))))⟩
  · rw [BucketM.at_bad x hf, BucketM.told_pos (by omega), BucketM.told_pos (by omega), BucketM.told_pos (by omega), BucketM.told_pos (by omega)]
    rw [BucketM.fault_one hf] at C
    clear hf
    go_enter Tryd.func10, Tryd.ntmps10
    go_wp2_with fail
    refine (unhide C _).mono ?_
    rintro e w1 ⟨rfl, hb1⟩
    obtain ⟨hc1, hf1, hz1⟩ := lies hb1
    try simp at hz1
    have HB1 := hide hb1
    clear hb1
    go_wp2
    exact bodyPost_ret (v := .tuple #[.agg #[.int .i64 0, .int .i64 0, .int .i64 0, .int .i64 0], .int .i64 1]) (by simp [results, Tryd.results10, go_sem, hc1]) rfl ⟨rfl, (by (repeat' (first | exact Below.refl _ _ | refine Below.alloc ?_ ?_ _ | refine Below.setCell ?_ ?_ _ | refine Below.drew ?_ | refine Below.trans ?_ (Below.mono (unhide HB1) ?_))); all_goals (first | exact Nat.le_refl _ | omega | (simp; done) | (simp; omega)))⟩
end Go.Proofs.YtgmbbbdeoldfcadDoor
