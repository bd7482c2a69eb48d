/-
  TicketHolds holds for every ring, number, time, now and other number: one that was made is right up to its time, and too late from then on; with another number alone, or another time alone, its tag is another's. The listed variable errors.errorType starts as the program's text lays it (the card's tie). No other condition.
-/
import Derived.Test.YtdbhkfanchjjbabDoorTicketWalks
import Derived.Test.YtdbhkfanchjjbabDoorHeld
import Derived.Test.YtdbhkfanchjjbabDoorTie
import Derived.Test.YtdbhkfanchjjbabDoorCards
import Derived.ProofKit
import Derived.Deep.Cut
import Derived.Lib.SmallJoins
import Derived.LaidMore
import Derived.LaidHandle
import Derived.LaidLaws
import Derived.Stop.Joined
import Derived.SevenTiedAt
namespace Go.Proofs.YtdbhkfanchjjbabDoor.ticketHolds
open Go.ChangeShapes Go.WideShapes Go.ChangeAt Go.RowKit Go.Joins
set_option linter.unusedVariables false

theorem own : ownKnob Tryd.prog.godebug = none := by kernel_rfl
theorem laidOut : laidOutB Tryd.prog = true := by kernel_rfl
def IsRow (k : IntKind) (w : World) (a : Option Addr) (len cap : Nat) (zs : List Int) : Prop :=
  (a = none ∧ len = 0 ∧ cap = 0 ∧ zs = []) ∨
  ∃ x, a = some x ∧ len ≤ cap ∧ cap ≤ maxLen ∧ zs.length = cap ∧ (∀ i, i < zs.length → w.cell? (x.add i) = some (.int k (zs.getD i 0))) ∧ ∀ n ∈ zs, (Lit.int k n).wf = true


theorem first_made {k : Int} (h : 0 ≤ k ∧ k < 999983) : TokenM.makeErr 0 k 0 3 10 = 0 := TokenM.make_zero.2 ⟨RingM.err_zero.2 ⟨by omega, h, by omega, fun _ => rfl⟩, rfl, rfl⟩

set_option maxHeartbeats 12800000 in
set_option maxRecDepth 8000 in
theorem walk (ep key old n u now m : Int) (w : World) (w0_0 : (Lit.int .i64 ep).wf = true) (w0_1 : (Lit.int .i64 key).wf = true) (w0_2 : (Lit.int .i64 old).wf = true) (w1' : (Lit.int .i64 n).wf = true) (w2' : (Lit.int .i64 u).wf = true) (w3' : (Lit.int .i64 now).wf = true) (w4' : (Lit.int .i64 m).wf = true) (hg : ErrType w) :
    Calls Tryd.prog 8 #[.agg #[.int .i64 ep, .int .i64 key, .int .i64 old], .int .i64 n, .int .i64 u, .int .i64 now, .int .i64 m] w fun e w' => e = .returned (.bool true) ∧ Below w.heap.size w w' := by
  clear w0_0 w0_1 w0_2 w1' w2' w3' w4'
  have HG := hide hg
  clear hg
  have C0 := hide (fun w => rnew_yes 5 w (by omega) (by omega))
  have hk := TagM.tag_bd 5 [0]
  generalize TagM.tag 5 [0] = k at C0 hk
  have C1 := hide (fun w => kmake_yes w (first_made hk))
  have C2 := hide (fun w => kcheck_any 0 k 0 0 3 10 (TagM.tag k [2, 3, 10]) 10 w)
  rw [TicketM.check_made (first_made hk) rfl, if_neg (by omega), errV_zero rfl] at C2
  have C3 := hide (fun w => kcheck_any 0 k 0 0 3 10 (TagM.tag k [2, 3, 10]) 11 w)
  rw [TicketM.check_made (first_made hk) rfl, if_pos (by omega)] at C3
  generalize TagM.tag k [2, 3, 10] = g0 at C1 C2 C3
  clear hk
  go_enter Tryd.func8, Tryd.ntmps8
  go_wp2_with fail
  refine (unhide C0 _).mono ?_
  rintro e w1 ⟨rfl, hb1⟩
  have HR1 : Hid (Held w1 (w.heap.size) (n3 ep key old)) := hide (((Held.fresh (w := w) (n3 ep key old) 23 (by first | rfl | (simp; done))).later (by (repeat' (first | exact Below.refl _ _ | refine Below.alloc ?_ ?_ _ | refine Below.setCell ?_ ?_ _ | refine Below.drew ?_)); all_goals (first | exact Nat.le_refl _ | omega | (simp; done) | (simp; omega)))).later hb1)
  have HB1 := hide (show Below w.heap.size w w1 from Below.trans (by (repeat' (first | exact Below.refl _ _ | refine Below.alloc ?_ ?_ _ | refine Below.setCell ?_ ?_ _ | refine Below.drew ?_)); all_goals (first | exact Nat.le_refl _ | omega | (simp; done) | (simp; omega))) (hb1.mono (by first | exact Nat.le_refl _ | (simp; done) | (simp; omega))))
  clear hb1
  go_wp2_with fail
  refine (unhide C1 _).mono ?_
  rintro e w2 ⟨rfl, hb2⟩
  have HR2 := hide (((unhide HR1).later (by (repeat' (first | exact Below.refl _ _ | refine Below.alloc ?_ ?_ _ | refine Below.setCell ?_ ?_ _ | refine Below.drew ?_)); all_goals (first | exact Nat.le_refl _ | omega | (simp; done) | (simp; omega)))).later hb2)
  have HO2 : Hid (Held w2 (w1.heap.size) (n3 0 k 0)) := hide ((Held.fresh (n3 0 k 0) _ (by first | rfl | (simp; done))).later hb2)
  have HB2 := hide (show Below w.heap.size w w2 from (by have := (unhide HB1).size; exact Below.trans (by (repeat' (first | exact Below.refl _ _ | refine Below.alloc ?_ ?_ _ | refine Below.setCell ?_ ?_ _ | refine Below.drew ?_ | refine Below.trans ?_ (Below.mono (unhide HB1) ?_))); all_goals (first | exact Nat.le_refl _ | omega | (simp; done) | (simp; omega))) (hb2.mono (by first | omega | (simp; done) | (simp; omega)))))
  clear hb2
  obtain ⟨o0, o1, o2⟩ := (unhide HO2).c3.1
  have ol := (unhide HO2).2
  go_wp2_with fail
  refine (unhide C2 _).mono ?_
  rintro e w3 ⟨rfl, hb3⟩
  clear o0 o1 o2 ol
  have HR3 := hide (((unhide HR2).later (by (repeat' (first | exact Below.refl _ _ | refine Below.alloc ?_ ?_ _ | refine Below.setCell ?_ ?_ _ | refine Below.drew ?_)); all_goals (first | exact Nat.le_refl _ | omega | (simp; done) | (simp; omega)))).later hb3)
  have HO3 := hide (((unhide HO2).later (by (repeat' (first | exact Below.refl _ _ | refine Below.alloc ?_ ?_ _ | refine Below.setCell ?_ ?_ _ | refine Below.drew ?_)); all_goals (first | exact Nat.le_refl _ | omega | (simp; done) | (simp; omega)))).later hb3)
  have HM3 : Hid (Held w3 (w2.heap.size) (n4 0 3 10 g0)) := hide ((Held.fresh (n4 0 3 10 g0) _ (by first | rfl | (simp; done))).later hb3)
  have HB3 := hide (show Below w.heap.size w w3 from (by have := (unhide HB2).size; exact Below.trans (by (repeat' (first | exact Below.refl _ _ | refine Below.alloc ?_ ?_ _ | refine Below.setCell ?_ ?_ _ | refine Below.drew ?_ | refine Below.trans ?_ (Below.mono (unhide HB2) ?_))); all_goals (first | exact Nat.le_refl _ | omega | (simp; done) | (simp; omega))) (hb3.mono (by first | omega | (simp; done) | (simp; omega)))))
  clear hb3
  obtain ⟨o0, o1, o2⟩ := (unhide HO3).c3.1
  have ol := (unhide HO3).2
  obtain ⟨m0, m1, m2, m3⟩ := (unhide HM3).c4.1
  have ml := (unhide HM3).2
  go_wp2_with fail
  refine (unhide C3 _).mono ?_
  rintro e w4 ⟨rfl, hb4⟩
  clear o0 o1 o2 ol m0 m1 m2 m3 ml
  have HR4 := hide (((unhide HR3).later (by (repeat' (first | exact Below.refl _ _ | refine Below.alloc ?_ ?_ _ | refine Below.setCell ?_ ?_ _ | refine Below.drew ?_)); all_goals (first | exact Nat.le_refl _ | omega | (simp; done) | (simp; omega)))).later hb4)
  have HO4 := hide (((unhide HO3).later (by (repeat' (first | exact Below.refl _ _ | refine Below.alloc ?_ ?_ _ | refine Below.setCell ?_ ?_ _ | refine Below.drew ?_)); all_goals (first | exact Nat.le_refl _ | omega | (simp; done) | (simp; omega)))).later hb4)
  have HM4 := hide (((unhide HM3).later (by (repeat' (first | exact Below.refl _ _ | refine Below.alloc ?_ ?_ _ | refine Below.setCell ?_ ?_ _ | refine Below.drew ?_)); all_goals (first | exact Nat.le_refl _ | omega | (simp; done) | (simp; omega)))).later hb4)
  have HB4 := hide (show Below w.heap.size w w4 from (by have := (unhide HB3).size; exact Below.trans (by (repeat' (first | exact Below.refl _ _ | refine Below.alloc ?_ ?_ _ | refine Below.setCell ?_ ?_ _ | refine Below.drew ?_ | refine Below.trans ?_ (Below.mono (unhide HB3) ?_))); all_goals (first | exact Nat.le_refl _ | omega | (simp; done) | (simp; omega))) (hb4.mono (by first | omega | (simp; done) | (simp; omega)))))
  clear hb4
  go_wp2_with fail
  refine (same_any _ _ _ ((unhide HG).later (by have := (unhide HB4).size; exact (by (repeat' (first | exact Below.refl _ _ | refine Below.alloc ?_ ?_ _ | refine Below.setCell ?_ ?_ _ | refine Below.drew ?_ | refine Below.trans ?_ (Below.mono (unhide HB4) ?_))); all_goals (first | exact Nat.le_refl _ | omega | (simp; done) | (simp; omega)))))).mono ?_
  rintro e w5 ⟨rfl, hb5⟩
  have HR5 := hide (((unhide HR4).later (by (repeat' (first | exact Below.refl _ _ | refine Below.alloc ?_ ?_ _ | refine Below.setCell ?_ ?_ _ | refine Below.drew ?_)); all_goals (first | exact Nat.le_refl _ | omega | (simp; done) | (simp; omega)))).later hb5)
  have HB5 := hide (show Below w.heap.size w w5 from (by have := (unhide HB4).size; exact Below.trans (by (repeat' (first | exact Below.refl _ _ | refine Below.alloc ?_ ?_ _ | refine Below.setCell ?_ ?_ _ | refine Below.drew ?_ | refine Below.trans ?_ (Below.mono (unhide HB4) ?_))); all_goals (first | exact Nat.le_refl _ | omega | (simp; done) | (simp; omega))) (hb5.mono (by first | omega | (simp; done) | (simp; omega)))))
  clear hb5
  by_cases hm : ¬ TokenM.makeErr ep key old n u = 0
  · have C4 := hide (fun w => kmake_no w hm)
    generalize TokenM.makeErr ep key old n u = q at C4
    clear hm
    obtain ⟨r0, r1, r2⟩ := (unhide HR5).c3.1
    have rl := (unhide HR5).2
    go_wp2_with fail
    refine (unhide C4 _).mono ?_
    rintro e w6 ⟨rfl, hb6⟩
    clear r0 r1 r2 rl
    have HR6 := hide (((unhide HR5).later (by (repeat' (first | exact Below.refl _ _ | refine Below.alloc ?_ ?_ _ | refine Below.setCell ?_ ?_ _ | refine Below.drew ?_)); all_goals (first | exact Nat.le_refl _ | omega | (simp; done) | (simp; omega)))).later hb6)
    have HB6 := hide (show Below w.heap.size w w6 from (by have := (unhide HB5).size; have := (unhide HB5).size; exact Below.trans (by (repeat' (first | exact Below.refl _ _ | refine Below.alloc ?_ ?_ _ | refine Below.setCell ?_ ?_ _ | refine Below.drew ?_ | refine Below.trans ?_ (Below.mono (unhide HB5) ?_))); all_goals (first | exact Nat.le_refl _ | omega | (simp; done) | (simp; omega))) (hb6.mono (by first | omega | (simp; done) | (simp; omega)))))
    clear hb6
    go_wp2
    go_ret
    exact ⟨rfl, (by have := (unhide HB5).size; have := (unhide HB6).size; exact (by (repeat' (first | exact Below.refl _ _ | refine Below.alloc ?_ ?_ _ | refine Below.setCell ?_ ?_ _ | refine Below.drew ?_ | refine Below.trans ?_ (Below.mono (unhide HB6) ?_))); all_goals (first | exact Nat.le_refl _ | omega | (simp; done) | (simp; omega))))⟩
  · have hm : TokenM.makeErr ep key old n u = 0 := Classical.not_not.1 hm
    obtain ⟨_, _, ht⟩ := TokenM.make_zero.1 hm
    obtain ⟨u0, u1⟩ := (TokenM.timeB_iff u).1 ht
    have C4 := hide (fun w => kmake_yes w hm)
    have HM := hide hm
    clear hm ht
    generalize hgg : TagM.tag key [2, n, u] = g at C4
    have HQ := hide hgg
    clear hgg
    obtain ⟨r0, r1, r2⟩ := (unhide HR5).c3.1
    have rl := (unhide HR5).2
    go_wp2_with fail
    refine (unhide C4 _).mono ?_
    rintro e w6 ⟨rfl, hb6⟩
    clear r0 r1 r2 rl
    have HR6 := hide (((unhide HR5).later (by (repeat' (first | exact Below.refl _ _ | refine Below.alloc ?_ ?_ _ | refine Below.setCell ?_ ?_ _ | refine Below.drew ?_)); all_goals (first | exact Nat.le_refl _ | omega | (simp; done) | (simp; omega)))).later hb6)
    have HB6 := hide (show Below w.heap.size w w6 from (by have := (unhide HB5).size; have := (unhide HB5).size; exact Below.trans (by (repeat' (first | exact Below.refl _ _ | refine Below.alloc ?_ ?_ _ | refine Below.setCell ?_ ?_ _ | refine Below.drew ?_ | refine Below.trans ?_ (Below.mono (unhide HB5) ?_))); all_goals (first | exact Nat.le_refl _ | omega | (simp; done) | (simp; omega))) (hb6.mono (by first | omega | (simp; done) | (simp; omega)))))
    clear hb6
    by_cases n0 : now < 0
    · go_wp2
      go_ret
      exact ⟨rfl, (by have := (unhide HB5).size; have := (unhide HB6).size; exact (by (repeat' (first | exact Below.refl _ _ | refine Below.alloc ?_ ?_ _ | refine Below.setCell ?_ ?_ _ | refine Below.drew ?_ | refine Below.trans ?_ (Below.mono (unhide HB6) ?_))); all_goals (first | exact Nat.le_refl _ | omega | (simp; done) | (simp; omega))))⟩
    · by_cases n1 : 100000 < now
      · go_wp2
        go_ret
        exact ⟨rfl, (by have := (unhide HB5).size; have := (unhide HB6).size; exact (by (repeat' (first | exact Below.refl _ _ | refine Below.alloc ?_ ?_ _ | refine Below.setCell ?_ ?_ _ | refine Below.drew ?_ | refine Below.trans ?_ (Below.mono (unhide HB6) ?_))); all_goals (first | exact Nat.le_refl _ | omega | (simp; done) | (simp; omega))))⟩
      · have HN := hide ((TokenM.timeB_iff now).2 (by omega))
        have C5 := hide (fun w => kcheck_any ep key old ep n u (TagM.tag key [2, n, u]) now w)
        rw [TicketM.check_made (unhide HM) (unhide HN), unhide HQ] at C5
        by_cases h3 : u < now
        · rw [if_pos h3] at C5
          obtain ⟨r0, r1, r2⟩ := (unhide HR6).c3.1
          have rl := (unhide HR6).2
          go_wp2_with fail
          refine (unhide C5 _).mono ?_
          rintro e w7 ⟨rfl, hb7⟩
          clear r0 r1 r2 rl
          have HR7 := hide (((unhide HR6).later (by (repeat' (first | exact Below.refl _ _ | refine Below.alloc ?_ ?_ _ | refine Below.setCell ?_ ?_ _ | refine Below.drew ?_)); all_goals (first | exact Nat.le_refl _ | omega | (simp; done) | (simp; omega)))).later hb7)
          have HT7 : Hid (Held w7 (w6.heap.size) (n4 ep n u g)) := hide ((Held.fresh (n4 ep n u g) _ (by first | rfl | (simp; done))).later hb7)
          have HB7 := hide (show Below w.heap.size w w7 from (by have := (unhide HB5).size; have := (unhide HB6).size; exact Below.trans (by (repeat' (first | exact Below.refl _ _ | refine Below.alloc ?_ ?_ _ | refine Below.setCell ?_ ?_ _ | refine Below.drew ?_ | refine Below.trans ?_ (Below.mono (unhide HB6) ?_))); all_goals (first | exact Nat.le_refl _ | omega | (simp; done) | (simp; omega))) (hb7.mono (by first | omega | (simp; done) | (simp; omega)))))
          clear hb7
          go_wp2_with fail
          refine (same_any _ _ _ ((unhide HG).later (by have := (unhide HB7).size; exact (by (repeat' (first | exact Below.refl _ _ | refine Below.alloc ?_ ?_ _ | refine Below.setCell ?_ ?_ _ | refine Below.drew ?_ | refine Below.trans ?_ (Below.mono (unhide HB7) ?_))); all_goals (first | exact Nat.le_refl _ | omega | (simp; done) | (simp; omega)))))).mono ?_
          rintro e w8 ⟨rfl, hb8⟩
          have HR8 := hide (((unhide HR7).later (by (repeat' (first | exact Below.refl _ _ | refine Below.alloc ?_ ?_ _ | refine Below.setCell ?_ ?_ _ | refine Below.drew ?_)); all_goals (first | exact Nat.le_refl _ | omega | (simp; done) | (simp; omega)))).later hb8)
          have HT8 := hide (((unhide HT7).later (by (repeat' (first | exact Below.refl _ _ | refine Below.alloc ?_ ?_ _ | refine Below.setCell ?_ ?_ _ | refine Below.drew ?_)); all_goals (first | exact Nat.le_refl _ | omega | (simp; done) | (simp; omega)))).later hb8)
          have HB8 := hide (show Below w.heap.size w w8 from (by have := (unhide HB5).size; have := (unhide HB7).size; exact Below.trans (by (repeat' (first | exact Below.refl _ _ | refine Below.alloc ?_ ?_ _ | refine Below.setCell ?_ ?_ _ | refine Below.drew ?_ | refine Below.trans ?_ (Below.mono (unhide HB7) ?_))); all_goals (first | exact Nat.le_refl _ | omega | (simp; done) | (simp; omega))) (hb8.mono (by first | omega | (simp; done) | (simp; omega)))))
          clear hb8
          go_wp2
          go_ret
          exact ⟨rfl, (by have := (unhide HB5).size; have := (unhide HB8).size; exact (by (repeat' (first | exact Below.refl _ _ | refine Below.alloc ?_ ?_ _ | refine Below.setCell ?_ ?_ _ | refine Below.drew ?_ | refine Below.trans ?_ (Below.mono (unhide HB8) ?_))); all_goals (first | exact Nat.le_refl _ | omega | (simp; done) | (simp; omega))))⟩
        · rw [if_neg h3, errV_zero rfl] at C5
          obtain ⟨r0, r1, r2⟩ := (unhide HR6).c3.1
          have rl := (unhide HR6).2
          go_wp2_with fail
          refine (unhide C5 _).mono ?_
          rintro e w7 ⟨rfl, hb7⟩
          clear r0 r1 r2 rl
          have HR7 := hide (((unhide HR6).later (by (repeat' (first | exact Below.refl _ _ | refine Below.alloc ?_ ?_ _ | refine Below.setCell ?_ ?_ _ | refine Below.drew ?_)); all_goals (first | exact Nat.le_refl _ | omega | (simp; done) | (simp; omega)))).later hb7)
          have HT7 : Hid (Held w7 (w6.heap.size) (n4 ep n u g)) := hide ((Held.fresh (n4 ep n u g) _ (by first | rfl | (simp; done))).later hb7)
          have HB7 := hide (show Below w.heap.size w w7 from (by have := (unhide HB5).size; have := (unhide HB6).size; exact Below.trans (by (repeat' (first | exact Below.refl _ _ | refine Below.alloc ?_ ?_ _ | refine Below.setCell ?_ ?_ _ | refine Below.drew ?_ | refine Below.trans ?_ (Below.mono (unhide HB6) ?_))); all_goals (first | exact Nat.le_refl _ | omega | (simp; done) | (simp; omega))) (hb7.mono (by first | omega | (simp; done) | (simp; omega)))))
          clear hb7
          by_cases hn : m = n
          · obtain rfl : n = m := hn.symm
            clear hn
            by_cases hu : n = u
            · subst hu
              obtain ⟨t0, t1, t2, t3⟩ := (unhide HT7).c4.1
              have tl := (unhide HT7).2
              go_wp2
              go_ret
              exact ⟨rfl, (by have := (unhide HB5).size; have := (unhide HB7).size; exact (by (repeat' (first | exact Below.refl _ _ | refine Below.alloc ?_ ?_ _ | refine Below.setCell ?_ ?_ _ | refine Below.drew ?_ | refine Below.trans ?_ (Below.mono (unhide HB7) ?_))); all_goals (first | exact Nat.le_refl _ | omega | (simp; done) | (simp; omega))))⟩
            · have hu' : (n == u) = false := by simp [hu]
              by_cases m0 : n < 0
              · obtain ⟨t0, t1, t2, t3⟩ := (unhide HT7).c4.1
                have tl := (unhide HT7).2
                go_wp2
                go_ret
                exact ⟨rfl, (by have := (unhide HB5).size; have := (unhide HB7).size; exact (by (repeat' (first | exact Below.refl _ _ | refine Below.alloc ?_ ?_ _ | refine Below.setCell ?_ ?_ _ | refine Below.drew ?_ | refine Below.trans ?_ (Below.mono (unhide HB7) ?_))); all_goals (first | exact Nat.le_refl _ | omega | (simp; done) | (simp; omega))))⟩
              · by_cases m2 : 100000 < n
                · obtain ⟨t0, t1, t2, t3⟩ := (unhide HT7).c4.1
                  have tl := (unhide HT7).2
                  go_wp2
                  go_ret
                  exact ⟨rfl, (by have := (unhide HB5).size; have := (unhide HB7).size; exact (by (repeat' (first | exact Below.refl _ _ | refine Below.alloc ?_ ?_ _ | refine Below.setCell ?_ ?_ _ | refine Below.drew ?_ | refine Below.trans ?_ (Below.mono (unhide HB7) ?_))); all_goals (first | exact Nat.le_refl _ | omega | (simp; done) | (simp; omega))))⟩
                · have C8 := hide (fun w => kcheck_any ep key old ep n n (TagM.tag key [2, n, u]) now w)
                  rw [TicketM.check_until (unhide HM) ((TokenM.timeB_iff n).2 (by omega)) hu (unhide HN), unhide HQ] at C8
                  obtain ⟨r0, r1, r2⟩ := (unhide HR7).c3.1
                  have rl := (unhide HR7).2
                  obtain ⟨t0, t1, t2, t3⟩ := (unhide HT7).c4.1
                  have tl := (unhide HT7).2
                  go_wp2_with fail
                  refine (unhide C8 _).mono ?_
                  rintro e w8 ⟨rfl, hb8⟩
                  clear r0 r1 r2 rl t0 t1 t2 t3 tl
                  have HB8 := hide (show Below w.heap.size w w8 from (by have := (unhide HB5).size; have := (unhide HB7).size; have := (unhide HB7).size; exact Below.trans (by (repeat' (first | exact Below.refl _ _ | refine Below.alloc ?_ ?_ _ | refine Below.setCell ?_ ?_ _ | refine Below.drew ?_ | refine Below.trans ?_ (Below.mono (unhide HB7) ?_))); all_goals (first | exact Nat.le_refl _ | omega | (simp; done) | (simp; omega))) (hb8.mono (by first | omega | (simp; done) | (simp; omega)))))
                  clear hb8
                  go_wp2_with fail
                  refine (same_any _ _ _ ((unhide HG).later (by have := (unhide HB8).size; exact (by (repeat' (first | exact Below.refl _ _ | refine Below.alloc ?_ ?_ _ | refine Below.setCell ?_ ?_ _ | refine Below.drew ?_ | refine Below.trans ?_ (Below.mono (unhide HB8) ?_))); all_goals (first | exact Nat.le_refl _ | omega | (simp; done) | (simp; omega)))))).mono ?_
                  rintro e w9 ⟨rfl, hb9⟩
                  have HB9 := hide (show Below w.heap.size w w9 from (by have := (unhide HB5).size; have := (unhide HB7).size; have := (unhide HB8).size; exact Below.trans (by (repeat' (first | exact Below.refl _ _ | refine Below.alloc ?_ ?_ _ | refine Below.setCell ?_ ?_ _ | refine Below.drew ?_ | refine Below.trans ?_ (Below.mono (unhide HB8) ?_))); all_goals (first | exact Nat.le_refl _ | omega | (simp; done) | (simp; omega))) (hb9.mono (by first | omega | (simp; done) | (simp; omega)))))
                  clear hb9
                  go_wp2
                  go_ret
                  exact ⟨rfl, (by have := (unhide HB5).size; have := (unhide HB7).size; have := (unhide HB9).size; exact (by (repeat' (first | exact Below.refl _ _ | refine Below.alloc ?_ ?_ _ | refine Below.setCell ?_ ?_ _ | refine Below.drew ?_ | refine Below.trans ?_ (Below.mono (unhide HB9) ?_))); all_goals (first | exact Nat.le_refl _ | omega | (simp; done) | (simp; omega))))⟩
          · have hn' : (m == n) = false := by simp [hn]
            by_cases m0 : m < 0
            · have hu : ¬ m = u := by omega
              have hu' : (m == u) = false := by simp [hu]
              obtain ⟨t0, t1, t2, t3⟩ := (unhide HT7).c4.1
              have tl := (unhide HT7).2
              go_wp2
              go_ret
              exact ⟨rfl, (by have := (unhide HB5).size; have := (unhide HB7).size; exact (by (repeat' (first | exact Below.refl _ _ | refine Below.alloc ?_ ?_ _ | refine Below.setCell ?_ ?_ _ | refine Below.drew ?_ | refine Below.trans ?_ (Below.mono (unhide HB7) ?_))); all_goals (first | exact Nat.le_refl _ | omega | (simp; done) | (simp; omega))))⟩
            · by_cases m1 : 999982 < m
              · have hu : ¬ m = u := by omega
                have hu' : (m == u) = false := by simp [hu]
                obtain ⟨t0, t1, t2, t3⟩ := (unhide HT7).c4.1
                have tl := (unhide HT7).2
                go_wp2
                go_ret
                exact ⟨rfl, (by have := (unhide HB5).size; have := (unhide HB7).size; exact (by (repeat' (first | exact Below.refl _ _ | refine Below.alloc ?_ ?_ _ | refine Below.setCell ?_ ?_ _ | refine Below.drew ?_ | refine Below.trans ?_ (Below.mono (unhide HB7) ?_))); all_goals (first | exact Nat.le_refl _ | omega | (simp; done) | (simp; omega))))⟩
              · have C7 := hide (fun w => kcheck_any ep key old ep m u (TagM.tag key [2, n, u]) now w)
                rw [TicketM.check_number (unhide HM) ((TagM.inB_iff m).2 (by omega)) hn (unhide HN), unhide HQ] at C7
                obtain ⟨r0, r1, r2⟩ := (unhide HR7).c3.1
                have rl := (unhide HR7).2
                obtain ⟨t0, t1, t2, t3⟩ := (unhide HT7).c4.1
                have tl := (unhide HT7).2
                --LOOK1
                go_wp2_with fail
                refine (unhide C7 _).mono ?_
                rintro e w8 ⟨rfl, hb8⟩
                clear r0 r1 r2 rl t0 t1 t2 t3 tl
                have HR8 := hide (((unhide HR7).later (by (repeat' (first | exact Below.refl _ _ | refine Below.alloc ?_ ?_ _ | refine Below.setCell ?_ ?_ _ | refine Below.drew ?_)); all_goals (first | exact Nat.le_refl _ | omega | (simp; done) | (simp; omega)))).later hb8)
                have HT8 := hide (((unhide HT7).later (by (repeat' (first | exact Below.refl _ _ | refine Below.alloc ?_ ?_ _ | refine Below.setCell ?_ ?_ _ | refine Below.drew ?_)); all_goals (first | exact Nat.le_refl _ | omega | (simp; done) | (simp; omega)))).later hb8)
                have HX8 : Hid (Held w8 (w7.heap.size) (n4 ep m u g)) := hide ((Held.fresh (n4 ep m u g) _ (by first | rfl | (simp; done))).later hb8)
                have HB8 := hide (show Below w.heap.size w w8 from (by have := (unhide HB5).size; have := (unhide HB7).size; exact Below.trans (by (repeat' (first | exact Below.refl _ _ | refine Below.alloc ?_ ?_ _ | refine Below.setCell ?_ ?_ _ | refine Below.drew ?_ | refine Below.trans ?_ (Below.mono (unhide HB7) ?_))); all_goals (first | exact Nat.le_refl _ | omega | (simp; done) | (simp; omega))) (hb8.mono (by first | omega | (simp; done) | (simp; omega)))))
                clear hb8
                go_wp2_with fail
                refine (same_any _ _ _ ((unhide HG).later (by have := (unhide HB8).size; exact (by (repeat' (first | exact Below.refl _ _ | refine Below.alloc ?_ ?_ _ | refine Below.setCell ?_ ?_ _ | refine Below.drew ?_ | refine Below.trans ?_ (Below.mono (unhide HB8) ?_))); all_goals (first | exact Nat.le_refl _ | omega | (simp; done) | (simp; omega)))))).mono ?_
                rintro e w9 ⟨rfl, hb9⟩
                have HR9 := hide (((unhide HR8).later (by (repeat' (first | exact Below.refl _ _ | refine Below.alloc ?_ ?_ _ | refine Below.setCell ?_ ?_ _ | refine Below.drew ?_)); all_goals (first | exact Nat.le_refl _ | omega | (simp; done) | (simp; omega)))).later hb9)
                have HT9 := hide (((unhide HT8).later (by (repeat' (first | exact Below.refl _ _ | refine Below.alloc ?_ ?_ _ | refine Below.setCell ?_ ?_ _ | refine Below.drew ?_)); all_goals (first | exact Nat.le_refl _ | omega | (simp; done) | (simp; omega)))).later hb9)
                have HX9 := hide (((unhide HX8).later (by (repeat' (first | exact Below.refl _ _ | refine Below.alloc ?_ ?_ _ | refine Below.setCell ?_ ?_ _ | refine Below.drew ?_)); all_goals (first | exact Nat.le_refl _ | omega | (simp; done) | (simp; omega)))).later hb9)
                have HB9 := hide (show Below w.heap.size w w9 from (by have := (unhide HB5).size; have := (unhide HB8).size; exact Below.trans (by (repeat' (first | exact Below.refl _ _ | refine Below.alloc ?_ ?_ _ | refine Below.setCell ?_ ?_ _ | refine Below.drew ?_ | refine Below.trans ?_ (Below.mono (unhide HB8) ?_))); all_goals (first | exact Nat.le_refl _ | omega | (simp; done) | (simp; omega))) (hb9.mono (by first | omega | (simp; done) | (simp; omega)))))
                clear hb9
                have z7 := (unhide HR7).2
                have y7 := (unhide HT7).2
                obtain ⟨t0, t1, t2, t3⟩ := (unhide HT9).c4.1
                have tl := (unhide HT9).2
                obtain ⟨x0, x1, x2, x3⟩ := (unhide HX9).c4.1
                obtain ⟨xf0, xf1, xf2, xf3⟩ := (unhide HX9).c4.2
                have xl := (unhide HX9).2
                go_upto_region 18 with fail
                clear t0 t1 t2 t3 tl x0 x1 x2 x3 xf0 xf1 xf2 xf3 xl
                have HR10 := hide (((((unhide HR9).far (c := w7.heap.size) (by have := (unhide HB5).size; have := z7; have := y7; have := (unhide HB9).size; omega) 0 (.int .i64 ep)).far (c := w7.heap.size) (by have := (unhide HB5).size; have := z7; have := y7; have := (unhide HB9).size; omega) 1 (.int .i64 n)).far (c := w7.heap.size) (by have := (unhide HB5).size; have := z7; have := y7; have := (unhide HB9).size; omega) 2 (.int .i64 u)).far (c := w7.heap.size) (by have := (unhide HB5).size; have := z7; have := y7; have := (unhide HB9).size; omega) 3 (.int .i64 g))
                have HT10 := hide (((((unhide HT9).far (c := w7.heap.size) (by have := (unhide HB5).size; have := z7; have := y7; have := (unhide HB9).size; omega) 0 (.int .i64 ep)).far (c := w7.heap.size) (by have := (unhide HB5).size; have := z7; have := y7; have := (unhide HB9).size; omega) 1 (.int .i64 n)).far (c := w7.heap.size) (by have := (unhide HB5).size; have := z7; have := y7; have := (unhide HB9).size; omega) 2 (.int .i64 u)).far (c := w7.heap.size) (by have := (unhide HB5).size; have := z7; have := y7; have := (unhide HB9).size; omega) 3 (.int .i64 g))
                have HX10 : Hid (Held ((((w9.setCell ⟨w7.heap.size, 0, none⟩ (.int .i64 ep)).setCell ⟨w7.heap.size, 1, none⟩ (.int .i64 n)).setCell ⟨w7.heap.size, 2, none⟩ (.int .i64 u)).setCell ⟨w7.heap.size, 3, none⟩ (.int .i64 g)) (w7.heap.size) (n4 ep n u g)) := hide (((((unhide HX9).put 0 (.int .i64 ep)).put 1 (.int .i64 n)).put 2 (.int .i64 u)).put 3 (.int .i64 g))
                have HB10 : Hid (Below w.heap.size w ((((w9.setCell ⟨w7.heap.size, 0, none⟩ (.int .i64 ep)).setCell ⟨w7.heap.size, 1, none⟩ (.int .i64 n)).setCell ⟨w7.heap.size, 2, none⟩ (.int .i64 u)).setCell ⟨w7.heap.size, 3, none⟩ (.int .i64 g))) := hide (by have := (unhide HB5).size; have := z7; have := y7; have := (unhide HB9).size; exact (by (repeat' (first | exact Below.refl _ _ | refine Below.alloc ?_ ?_ _ | refine Below.setCell ?_ ?_ _ | refine Below.drew ?_ | refine Below.trans ?_ (Below.mono (unhide HB9) ?_))); all_goals (first | exact Nat.le_refl _ | omega | (simp; done) | (simp; omega))))
                generalize ((((w9.setCell ⟨w7.heap.size, 0, none⟩ (.int .i64 ep)).setCell ⟨w7.heap.size, 1, none⟩ (.int .i64 n)).setCell ⟨w7.heap.size, 2, none⟩ (.int .i64 u)).setCell ⟨w7.heap.size, 3, none⟩ (.int .i64 g)) = w10 at HR10 HT10 HX10 HB10 ⊢
                obtain ⟨x0, x1, x2, x3⟩ := (unhide HX10).c4.1
                obtain ⟨xf0, xf1, xf2, xf3⟩ := (unhide HX10).c4.2
                have xl := (unhide HX10).2
                go_upto_region 19 with fail
                clear x0 x1 x2 x3 xf0 xf1 xf2 xf3 xl
                have HR11 := hide ((unhide HR10).far (c := w7.heap.size) (by have := (unhide HB5).size; have := z7; have := y7; have := (unhide HB10).size; omega) 2 (.int .i64 m))
                have HX11 : Hid (Held (w10.setCell ⟨w7.heap.size, 2, none⟩ (.int .i64 m)) (w7.heap.size) (n4 ep n m g)) := hide ((unhide HX10).put 2 (.int .i64 m))
                have HB11 : Hid (Below w.heap.size w (w10.setCell ⟨w7.heap.size, 2, none⟩ (.int .i64 m))) := hide (by have := (unhide HB5).size; have := z7; have := y7; have := (unhide HB10).size; exact (by (repeat' (first | exact Below.refl _ _ | refine Below.alloc ?_ ?_ _ | refine Below.setCell ?_ ?_ _ | refine Below.drew ?_ | refine Below.trans ?_ (Below.mono (unhide HB10) ?_))); all_goals (first | exact Nat.le_refl _ | omega | (simp; done) | (simp; omega))))
                generalize (w10.setCell ⟨w7.heap.size, 2, none⟩ (.int .i64 m)) = w11 at HR11 HX11 HB11 ⊢
                by_cases hu : m = u
                · subst hu
                  go_wp2
                  go_ret
                  exact ⟨rfl, (by have := (unhide HB5).size; have := z7; have := y7; have := (unhide HB11).size; exact (by (repeat' (first | exact Below.refl _ _ | refine Below.alloc ?_ ?_ _ | refine Below.setCell ?_ ?_ _ | refine Below.drew ?_ | refine Below.trans ?_ (Below.mono (unhide HB11) ?_))); all_goals (first | exact Nat.le_refl _ | omega | (simp; done) | (simp; omega))))⟩
                · have hu' : (m == u) = false := by simp [hu]
                  by_cases m2 : 100000 < m
                  · go_wp2
                    go_ret
                    exact ⟨rfl, (by have := (unhide HB5).size; have := z7; have := y7; have := (unhide HB11).size; exact (by (repeat' (first | exact Below.refl _ _ | refine Below.alloc ?_ ?_ _ | refine Below.setCell ?_ ?_ _ | refine Below.drew ?_ | refine Below.trans ?_ (Below.mono (unhide HB11) ?_))); all_goals (first | exact Nat.le_refl _ | omega | (simp; done) | (simp; omega))))⟩
                  · have C8 := hide (fun w => kcheck_any ep key old ep n m (TagM.tag key [2, n, u]) now w)
                    rw [TicketM.check_until (unhide HM) ((TokenM.timeB_iff m).2 (by omega)) hu (unhide HN), unhide HQ] at C8
                    obtain ⟨r0, r1, r2⟩ := (unhide HR11).c3.1
                    have rl := (unhide HR11).2
                    obtain ⟨x0, x1, x2, x3⟩ := (unhide HX11).c4.1
                    have xl := (unhide HX11).2
                    go_wp2_with fail
                    refine (unhide C8 _).mono ?_
                    rintro e w12 ⟨rfl, hb12⟩
                    clear r0 r1 r2 rl x0 x1 x2 x3 xl
                    have HB12 := hide (show Below w.heap.size w w12 from (by have := (unhide HB5).size; have := z7; have := y7; have := (unhide HB7).size; have := (unhide HB11).size; exact Below.trans (by (repeat' (first | exact Below.refl _ _ | refine Below.alloc ?_ ?_ _ | refine Below.setCell ?_ ?_ _ | refine Below.drew ?_ | refine Below.trans ?_ (Below.mono (unhide HB11) ?_))); all_goals (first | exact Nat.le_refl _ | omega | (simp; done) | (simp; omega))) (hb12.mono (by first | omega | (simp; done) | (simp; omega)))))
                    clear hb12
                    go_wp2_with fail
                    refine (same_any _ _ _ ((unhide HG).later (by have := (unhide HB12).size; exact (by (repeat' (first | exact Below.refl _ _ | refine Below.alloc ?_ ?_ _ | refine Below.setCell ?_ ?_ _ | refine Below.drew ?_ | refine Below.trans ?_ (Below.mono (unhide HB12) ?_))); all_goals (first | exact Nat.le_refl _ | omega | (simp; done) | (simp; omega)))))).mono ?_
                    rintro e w13 ⟨rfl, hb13⟩
                    have HB13 := hide (show Below w.heap.size w w13 from (by have := (unhide HB5).size; have := z7; have := y7; have := (unhide HB7).size; have := (unhide HB12).size; exact Below.trans (by (repeat' (first | exact Below.refl _ _ | refine Below.alloc ?_ ?_ _ | refine Below.setCell ?_ ?_ _ | refine Below.drew ?_ | refine Below.trans ?_ (Below.mono (unhide HB12) ?_))); all_goals (first | exact Nat.le_refl _ | omega | (simp; done) | (simp; omega))) (hb13.mono (by first | omega | (simp; done) | (simp; omega)))))
                    clear hb13
                    go_wp2
                    go_ret
                    exact ⟨rfl, (by have := (unhide HB5).size; have := z7; have := y7; have := (unhide HB7).size; have := (unhide HB13).size; exact (by (repeat' (first | exact Below.refl _ _ | refine Below.alloc ?_ ?_ _ | refine Below.setCell ?_ ?_ _ | refine Below.drew ?_ | refine Below.trans ?_ (Below.mono (unhide HB13) ?_))); all_goals (first | exact Nat.le_refl _ | omega | (simp; done) | (simp; omega))))⟩


theorem gErr : Tryd.prog.globalNamed "errors.errorType" = some 0 := by kernel_rfl
theorem rtErr : (Tryd.prog.cutTypes.find? (·.1 == "internal/reflectlite.rtype")).map (·.2) = some 78 := by kernel_rfl
theorem oneRow : ((List.range 121).filter fun t => Tryd.prog.rowNamed t [101, 114, 114, 111, 114]) = [25] := by kernel_rfl
theorem sizeT : Tryd.prog.types.size = 121 := by kernel_rfl
theorem handle_of_laid {W : World} (h : laidMetH Tryd.prog Rows.ticketHoldsRow.laid W) : ErrType W := by
  have h' : laidMet Tryd.prog [] W ∧ handlesMet Tryd.prog Rows.ticketHoldsRow.laid W := h
  obtain ⟨name, u, ty, e1, e2, e3, e4, e5⟩ := h'.2 _ (List.mem_singleton.2 rfl)
  have en : name = [101, 114, 114, 111, 114] := (Option.some.inj e1).symm
  subst en
  obtain rfl := Option.some.inj (rtErr.symm.trans e2)
  have hm : ty ∈ (List.range 121).filter fun t => Tryd.prog.rowNamed t [101, 114, 114, 111, 114] := List.mem_filter.2 ⟨List.mem_range.2 (by rw [← sizeT]; exact e3), e4⟩
  rw [oneRow] at hm
  obtain rfl := List.mem_singleton.1 hm
  have hh : typeHandle Tryd.prog 25 = .pointer (some ⟨1, 25, none⟩) := by kernel_rfl
  rw [hh] at e5
  unfold ErrType
  simpa using World.var?_cell gErr e5 0
theorem door_met (os : Os) (args : Array Value) : laidMetH Tryd.prog Rows.ticketHoldsRow.laid ((World.doorLaid Tryd.prog 400 os).forCall (fun _ _ => 0) ⟨#[], args, []⟩).memory :=
  laidMetH_of_parts (laidMet_nil _ _) (by kernel_rfl)


set_option maxRecDepth 100000 in
theorem lifted (os : Os) (started : os.Started) (H : Type) (enc : TypeId × Value → H) :
    ReturnsInHanded {} Tryd.checked os 8 .any (fun w args => (Rows.ticketHoldsSpec.pre enc Tryd.prog Tryd.f8 [] false w args ∧ laidMetH Tryd.prog Rows.ticketHoldsRow.laid w) ∧ sizedMet enc Tryd.prog Tryd.f8 (OpenSpec.ofChange Rows.ticketHoldsSpec) false w args) (Rows.ticketHoldsSpec.post enc Tryd.prog Tryd.f8 false true false false) := by
  refine returnsInHanded_of_change_and (C := Tryd.checked) (X := fun w _ => laidMetH Tryd.prog Rows.ticketHoldsRow.laid w) (fun _ _ _ hh h => h.of_heap hh) own started (by kernel_rfl) Tryd.func8
    (ChangeSpec.witness_shaped (enc := enc) (C := Tryd.checked) (os := os) (X := fun w _ => laidMetH Tryd.prog Rows.ticketHoldsRow.laid w) false (World.doorLaid Tryd.prog 400 os) #[.agg #[.int .i64 0, .int .i64 0, .int .i64 0], .int .i64 0, .int .i64 0, .int .i64 0, .int .i64 0] 8 rfl (World.shaped_of_RefB (by kernel_rfl) (by kernel_rfl)) (by kernel_rfl) (by kernel_rfl) (by kernel_rfl) (door_met os _)) ?_
  intro W base args ds gs before hval0 hW _ hsz hL _
  have hg := handle_of_laid hL
  have hval : ∀ (j : Nat) t v, Tryd.f8.params[j]? = some t → args[j]? = some v → Value.okWide Tryd.prog W .any base t v := hval0
  have hW' := hW
  obtain ⟨p, q, hA0, hV, rfl, hfz, hnd⟩ := hW
  have hA : DataW.TrodAll enc Tryd.prog W 0 (fun _ => true) true Tryd.f8.params.toList args.toList ds p := hA0
  rw [Tryd.params8] at hA hval
  obtain ⟨v0, vs0, d0, ds0, p0, q0, hargs, rfl, rfl, h0, r0⟩ := trodAll_cons hA
  obtain ⟨v1, vs1, d1, ds1, p1, q1, rfl, rfl, rfl, h1, r1⟩ := trodAll_cons r0
  obtain ⟨v2, vs2, d2, ds2, p2, q2, rfl, rfl, rfl, h2, r2⟩ := trodAll_cons r1
  obtain ⟨v3, vs3, d3, ds3, p3, q3, rfl, rfl, rfl, h3, r3⟩ := trodAll_cons r2
  obtain ⟨v4, vs4, d4, ds4, p4, q4, rfl, rfl, rfl, h4, r4⟩ := trodAll_cons r3
  obtain ⟨rfl, rfl, rfl⟩ := trodAll_nil r4
  obtain rfl : args = #[v0, v1, v2, v3, v4] := by cases args; simp_all
  obtain ⟨rfl, rfl⟩ := trodVars_none hV
  have k0 := h0
  have lt0 : ∀ x ∈ p0, x.block < W.heap.size := by obtain ⟨m, hm⟩ := k0; exact DataW.trod_lt m _ _ _ hm
  obtain ⟨c0_0, c0_1, c0_2, y0_0, y0_1, y0_2, m0, rfl, rfl, rfl, g0_0, g0_1, g0_2⟩ := open_agg3 Tryd.underlying23 (by kernel_rfl) (by kernel_rfl) (hval 0 23 v0 rfl rfl) h0
  obtain ⟨a0_0, e0_0, rfl, w0_0⟩ := DataW.trod_int Tryd.underlying3 g0_0
  simp at e0_0; subst e0_0
  obtain ⟨a0_1, e0_1, rfl, w0_1⟩ := DataW.trod_int Tryd.underlying3 g0_1
  simp at e0_1; subst e0_1
  obtain ⟨a0_2, e0_2, rfl, w0_2⟩ := DataW.trod_int Tryd.underlying3 g0_2
  simp at e0_2; subst e0_2
  have k1 := h1
  have lt1 : ∀ x ∈ p1, x.block < W.heap.size := by obtain ⟨m, hm⟩ := k1; exact DataW.trod_lt m _ _ _ hm
  obtain ⟨a1, rfl, rfl, rfl, w1⟩ := open_int Tryd.underlying3 (hval 1 3 v1 rfl rfl) h1
  have k2 := h2
  have lt2 : ∀ x ∈ p2, x.block < W.heap.size := by obtain ⟨m, hm⟩ := k2; exact DataW.trod_lt m _ _ _ hm
  obtain ⟨a2, rfl, rfl, rfl, w2⟩ := open_int Tryd.underlying3 (hval 2 3 v2 rfl rfl) h2
  have k3 := h3
  have lt3 : ∀ x ∈ p3, x.block < W.heap.size := by obtain ⟨m, hm⟩ := k3; exact DataW.trod_lt m _ _ _ hm
  obtain ⟨a3, rfl, rfl, rfl, w3⟩ := open_int Tryd.underlying3 (hval 3 3 v3 rfl rfl) h3
  have k4 := h4
  have lt4 : ∀ x ∈ p4, x.block < W.heap.size := by obtain ⟨m, hm⟩ := k4; exact DataW.trod_lt m _ _ _ hm
  obtain ⟨a4, rfl, rfl, rfl, w4⟩ := open_int Tryd.underlying3 (hval 4 3 v4 rfl rfl) h4
  clear hA0 hval0
  refine (walk a0_0 a0_1 a0_2 a1 a2 a3 a4 W w0_0 w0_1 w0_2 w1 w2 w3 w4 hg).mono fun e W' ⟨he, bel⟩ => ?_
  subst he
  exact ⟨_, rfl, _, _, _, [], _, [], hW', trodAll_mk1 (shut_bool Tryd.underlying4 _), (trodAll_cons_mk (Below.trod laidOut (by kernel_rfl) (of_decide_eq_true (by kernel_rfl)) k0 bel lt0) (trodAll_cons_mk (Below.trod laidOut (by kernel_rfl) (of_decide_eq_true (by kernel_rfl)) k1 bel lt1) (trodAll_cons_mk (Below.trod laidOut (by kernel_rfl) (of_decide_eq_true (by kernel_rfl)) k2 bel lt2) (trodAll_cons_mk (Below.trod laidOut (by kernel_rfl) (of_decide_eq_true (by kernel_rfl)) k3 bel lt3) (trodAll_cons_mk (Below.trod laidOut (by kernel_rfl) (of_decide_eq_true (by kernel_rfl)) k4 bel lt4) trodAll_mk0))))), rfl, bel.frame _, fun h => by cases h⟩

theorem over : Rows.ticketHoldsRow.holds Tryd.pinned (OpenSpec.ofChange Rows.ticketHoldsSpec) :=
  OpenClaim.holds_of_wide 8 Tryd.f8 rfl rfl rfl rfl rfl rfl rfl ⟨rfl, rfl, rfl, rfl, rfl⟩ rfl rfl rfl rfl rfl (by kernel_rfl) Tryd.func8 (by kernel_rfl)
    (of_decide_eq_true (by kernel_rfl)) (by unfold Func.isWrapper; first | (rw [if_pos (by decide +kernel)]; kernel_rfl) | (rw [if_neg (by decide +kernel)]; exact ⟨rfl, rfl⟩))
    (fun os started H enc _ => lifted os started H enc)

theorem card : Rows.TicketHoldsCardSaid :=
  Claim7.holds_tied_plain_at .later [] [.handle] true (true, "ae94f0243eb5a1da57b94b873cf515495c8440656b678c75f24e134e92a066a1") true
    over (fun _ h => by cases h) (by kernel_rfl) (fun _ h => by cases h) ticketHolds_row_tie rfl ⟨rfl, rfl⟩ (by kernel_rfl) rfl
    (fun f fn hf hfn => by
      obtain rfl : f = 8 := Option.some.inj ((show Tryd.prog.funcNamed "tokenfold/foldlaw1.TicketHolds" = some 8 by kernel_rfl).symm.trans hf) |>.symm
      obtain rfl : fn = Tryd.f8 := (Option.some.inj (Tryd.func8.symm.trans hfn)).symm
      exact ⟨by kernel_rfl, fun j t ht => by
        rw [Tryd.params8] at ht
        have hm : t ∈ [23, 3, 3, 3, 3] := by simpa using Array.mem_of_getElem? ht
        have hall : ([23, 3, 3, 3, 3].all fun u => !Tryd.prog.wantsStandIn u) = true := by kernel_rfl
        exact (show Tryd.prog.wantsStandIn t = false by simpa using List.all_eq_true.1 hall t hm)⟩)
    (by kernel_rfl)

end Go.Proofs.YtdbhkfanchjjbabDoor.ticketHolds
namespace Go.Proofs.YtdbhkfanchjjbabDoor
theorem ticketHolds_holds : Rows.TicketHoldsCardSaid := ticketHolds.card
#print axioms ticketHolds_holds
end Go.Proofs.YtdbhkfanchjjbabDoor

