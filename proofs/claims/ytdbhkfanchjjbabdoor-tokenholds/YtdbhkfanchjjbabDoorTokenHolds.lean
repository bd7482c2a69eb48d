/-
  TokenHolds holds for every ring, address, time, now, life, other address and number: one that was made is right from its time on as long as its life is, by its own address and by its own tag alone, also where the ring was turned once, and no more where it was turned twice. The listed variable errors.errorType starts as the program's text lays it (the card's tie). No other condition.
-/
import Derived.Test.YtdbhkfanchjjbabDoorTokenWalks
import Derived.Test.YtdbhkfanchjjbabDoorHeld
import Derived.Test.YtdbhkfanchjjbabDoorTie
import Derived.Test.YtdbhkfanchjjbabDoorCards
import Derived.ProofKit
import Derived.Lib.SmallJoins
import Derived.LaidMore
import Derived.LaidHandle
import Derived.LaidLaws
import Derived.Stop.Joined
import Derived.SevenTiedAt
namespace Go.Proofs.YtdbhkfanchjjbabDoor.tokenHolds
open Go.ChangeShapes Go.WideShapes Go.ChangeAt Go.RowKit Go.Joins
set_option linter.unusedVariables false

theorem own : ownKnob Tryd.prog.godebug = none := by kernel_rfl
theorem laidOut : laidOutB Tryd.prog = true := by kernel_rfl
def IsRow (k : IntKind) (w : World) (a : Option Addr) (len cap : Nat) (zs : List Int) : Prop :=
  (a = none ∧ len = 0 ∧ cap = 0 ∧ zs = []) ∨
  ∃ x, a = some x ∧ len ≤ cap ∧ cap ≤ maxLen ∧ zs.length = cap ∧ (∀ i, i < zs.length → w.cell? (x.add i) = some (.int k (zs.getD i 0))) ∧ ∀ n ∈ zs, (Lit.int k n).wf = true


theorem first_ring {k : Int} (h : 0 ≤ k ∧ k < 999983) : RingM.err 0 k 0 = 0 := RingM.err_zero.2 ⟨by omega, h, by omega, fun _ => rfl⟩
theorem first_made {k : Int} (h : 0 ≤ k ∧ k < 999983) : TokenM.makeErr 0 k 0 3 10 = 0 := TokenM.make_zero.2 ⟨first_ring h, rfl, rfl⟩
theorem next_ring {ep key old : Int} (h : RingM.err ep key old = 0) (h1 : ep < 100) : RingM.err (ep + 1) (TagM.tag key [ep + 1]) key = 0 := by
  obtain ⟨he, hk, _⟩ := RingM.err_zero.1 h
  exact RingM.err_zero.2 ⟨by omega, TagM.tag_bd _ _, hk, by omega⟩

set_option maxHeartbeats 12800000 in
set_option maxRecDepth 8000 in
theorem walk (ep key old a t now long other n : Int) (w : World) (w0_0 : (Lit.int .i64 ep).wf = true) (w0_1 : (Lit.int .i64 key).wf = true) (w0_2 : (Lit.int .i64 old).wf = true) (w1' : (Lit.int .i64 a).wf = true) (w2' : (Lit.int .i64 t).wf = true) (w3' : (Lit.int .i64 now).wf = true) (w4' : (Lit.int .i64 long).wf = true) (w5' : (Lit.int .i64 other).wf = true) (w6' : (Lit.int .i64 n).wf = true) (hg : ErrType w) :
    Calls Tryd.prog 5 #[.agg #[.int .i64 ep, .int .i64 key, .int .i64 old], .int .i64 a, .int .i64 t, .int .i64 now, .int .i64 long, .int .i64 other, .int .i64 n] w fun e w' => e = .returned (.bool true) ∧ Below w.heap.size w w' := by
  clear w0_0 w0_1 w0_2 w1' w2' w3' w4' w5' w6'
  have HG := hide hg
  clear hg
  have C0 := hide (fun w => rnew_yes 5 w (by omega) (by omega))
  have hk := TagM.tag_bd 5 [0]
  generalize TagM.tag 5 [0] = k at C0 hk
  have C1 := hide (fun w => tmake_yes w (first_made hk))
  have C2 := hide (fun w => tcheck_any 0 k 0 0 3 10 (TagM.tag k [1, 3, 10]) 3 12 5 w)
  rw [TokenM.check_made (first_made hk) rfl rfl rfl, if_pos rfl, if_neg (by omega), if_neg (by omega), errV_zero rfl] at C2
  have C3 := hide (fun w => tcheck_any 0 k 0 0 3 10 (TagM.tag k [1, 3, 10]) 4 12 5 w)
  rw [TokenM.check_made (first_made hk) rfl rfl rfl, if_neg (by omega)] at C3
  generalize TagM.tag k [1, 3, 10] = m at C1 C2 C3
  clear hk
  go_enter Tryd.func5, Tryd.ntmps5
  go_wp2_with fail
  refine (unhide C0 _).mono ?_
  rintro e w1 ⟨rfl, hb1⟩
  have HR1 : Hid (Held w1 (w.heap.size) (n3 ep key old)) := hide (((Held.fresh (w := w) (n3 ep key old) 23 (by first | rfl | (simp; done))).later (by (repeat' (first | exact Below.refl _ _ | refine Below.alloc ?_ ?_ _ | refine Below.setCell ?_ ?_ _ | refine Below.drew ?_)); all_goals (first | exact Nat.le_refl _ | omega | (simp; done) | (simp; omega)))).later hb1)
  have HB1 := hide (show Below w.heap.size w w1 from Below.trans (by (repeat' (first | exact Below.refl _ _ | refine Below.alloc ?_ ?_ _ | refine Below.setCell ?_ ?_ _ | refine Below.drew ?_)); all_goals (first | exact Nat.le_refl _ | omega | (simp; done) | (simp; omega))) (hb1.mono (by first | exact Nat.le_refl _ | (simp; done) | (simp; omega))))
  clear hb1
  go_wp2_with fail
  refine (unhide C1 _).mono ?_
  rintro e w2 ⟨rfl, hb2⟩
  have HR2 := hide (((unhide HR1).later (by (repeat' (first | exact Below.refl _ _ | refine Below.alloc ?_ ?_ _ | refine Below.setCell ?_ ?_ _ | refine Below.drew ?_)); all_goals (first | exact Nat.le_refl _ | omega | (simp; done) | (simp; omega)))).later hb2)
  have HO2 : Hid (Held w2 (w1.heap.size) (n3 0 k 0)) := hide ((Held.fresh (n3 0 k 0) _ (by first | rfl | (simp; done))).later hb2)
  have HB2 := hide (show Below w.heap.size w w2 from (by have := (unhide HB1).size; exact Below.trans (by (repeat' (first | exact Below.refl _ _ | refine Below.alloc ?_ ?_ _ | refine Below.setCell ?_ ?_ _ | refine Below.drew ?_ | refine Below.trans ?_ (Below.mono (unhide HB1) ?_))); all_goals (first | exact Nat.le_refl _ | omega | (simp; done) | (simp; omega))) (hb2.mono (by first | omega | (simp; done) | (simp; omega)))))
  clear hb2
  obtain ⟨o0, o1, o2⟩ := (unhide HO2).c3.1
  have ol := (unhide HO2).2
  go_wp2_with fail
  refine (unhide C2 _).mono ?_
  rintro e w3 ⟨rfl, hb3⟩
  clear o0 o1 o2 ol
  have HR3 := hide (((unhide HR2).later (by (repeat' (first | exact Below.refl _ _ | refine Below.alloc ?_ ?_ _ | refine Below.setCell ?_ ?_ _ | refine Below.drew ?_)); all_goals (first | exact Nat.le_refl _ | omega | (simp; done) | (simp; omega)))).later hb3)
  have HO3 := hide (((unhide HO2).later (by (repeat' (first | exact Below.refl _ _ | refine Below.alloc ?_ ?_ _ | refine Below.setCell ?_ ?_ _ | refine Below.drew ?_)); all_goals (first | exact Nat.le_refl _ | omega | (simp; done) | (simp; omega)))).later hb3)
  have HM3 : Hid (Held w3 (w2.heap.size) (n4 0 3 10 m)) := hide ((Held.fresh (n4 0 3 10 m) _ (by first | rfl | (simp; done))).later hb3)
  have HB3 := hide (show Below w.heap.size w w3 from (by have := (unhide HB2).size; exact Below.trans (by (repeat' (first | exact Below.refl _ _ | refine Below.alloc ?_ ?_ _ | refine Below.setCell ?_ ?_ _ | refine Below.drew ?_ | refine Below.trans ?_ (Below.mono (unhide HB2) ?_))); all_goals (first | exact Nat.le_refl _ | omega | (simp; done) | (simp; omega))) (hb3.mono (by first | omega | (simp; done) | (simp; omega)))))
  clear hb3
  obtain ⟨o0, o1, o2⟩ := (unhide HO3).c3.1
  have ol := (unhide HO3).2
  obtain ⟨m0, m1, m2, m3⟩ := (unhide HM3).c4.1
  have ml := (unhide HM3).2
  go_wp2_with fail
  refine (unhide C3 _).mono ?_
  rintro e w4 ⟨rfl, hb4⟩
  clear o0 o1 o2 ol m0 m1 m2 m3 ml
  have HR4 := hide (((unhide HR3).later (by (repeat' (first | exact Below.refl _ _ | refine Below.alloc ?_ ?_ _ | refine Below.setCell ?_ ?_ _ | refine Below.drew ?_)); all_goals (first | exact Nat.le_refl _ | omega | (simp; done) | (simp; omega)))).later hb4)
  have HO4 := hide (((unhide HO3).later (by (repeat' (first | exact Below.refl _ _ | refine Below.alloc ?_ ?_ _ | refine Below.setCell ?_ ?_ _ | refine Below.drew ?_)); all_goals (first | exact Nat.le_refl _ | omega | (simp; done) | (simp; omega)))).later hb4)
  have HM4 := hide (((unhide HM3).later (by (repeat' (first | exact Below.refl _ _ | refine Below.alloc ?_ ?_ _ | refine Below.setCell ?_ ?_ _ | refine Below.drew ?_)); all_goals (first | exact Nat.le_refl _ | omega | (simp; done) | (simp; omega)))).later hb4)
  have HB4 := hide (show Below w.heap.size w w4 from (by have := (unhide HB3).size; exact Below.trans (by (repeat' (first | exact Below.refl _ _ | refine Below.alloc ?_ ?_ _ | refine Below.setCell ?_ ?_ _ | refine Below.drew ?_ | refine Below.trans ?_ (Below.mono (unhide HB3) ?_))); all_goals (first | exact Nat.le_refl _ | omega | (simp; done) | (simp; omega))) (hb4.mono (by first | omega | (simp; done) | (simp; omega)))))
  clear hb4
  go_wp2_with fail
  refine (same_any _ _ _ ((unhide HG).later (by have := (unhide HB4).size; exact (by (repeat' (first | exact Below.refl _ _ | refine Below.alloc ?_ ?_ _ | refine Below.setCell ?_ ?_ _ | refine Below.drew ?_ | refine Below.trans ?_ (Below.mono (unhide HB4) ?_))); all_goals (first | exact Nat.le_refl _ | omega | (simp; done) | (simp; omega)))))).mono ?_
  rintro e w5 ⟨rfl, hb5⟩
  have HR5 := hide (((unhide HR4).later (by (repeat' (first | exact Below.refl _ _ | refine Below.alloc ?_ ?_ _ | refine Below.setCell ?_ ?_ _ | refine Below.drew ?_)); all_goals (first | exact Nat.le_refl _ | omega | (simp; done) | (simp; omega)))).later hb5)
  have HB5 := hide (show Below w.heap.size w w5 from (by have := (unhide HB4).size; exact Below.trans (by (repeat' (first | exact Below.refl _ _ | refine Below.alloc ?_ ?_ _ | refine Below.setCell ?_ ?_ _ | refine Below.drew ?_ | refine Below.trans ?_ (Below.mono (unhide HB4) ?_))); all_goals (first | exact Nat.le_refl _ | omega | (simp; done) | (simp; omega))) (hb5.mono (by first | omega | (simp; done) | (simp; omega)))))
  clear hb5
  by_cases hm : ¬ TokenM.makeErr ep key old a t = 0
  · have C4 := hide (fun w => tmake_no w hm)
    generalize TokenM.makeErr ep key old a t = q at C4
    clear hm
    obtain ⟨r0, r1, r2⟩ := (unhide HR5).c3.1
    have rl := (unhide HR5).2
    go_wp2_with fail
    refine (unhide C4 _).mono ?_
    rintro e w6 ⟨rfl, hb6⟩
    clear r0 r1 r2 rl
    have HR6 := hide (((unhide HR5).later (by (repeat' (first | exact Below.refl _ _ | refine Below.alloc ?_ ?_ _ | refine Below.setCell ?_ ?_ _ | refine Below.drew ?_)); all_goals (first | exact Nat.le_refl _ | omega | (simp; done) | (simp; omega)))).later hb6)
    have HB6 := hide (show Below w.heap.size w w6 from (by have := (unhide HB5).size; have := (unhide HB5).size; exact Below.trans (by (repeat' (first | exact Below.refl _ _ | refine Below.alloc ?_ ?_ _ | refine Below.setCell ?_ ?_ _ | refine Below.drew ?_ | refine Below.trans ?_ (Below.mono (unhide HB5) ?_))); all_goals (first | exact Nat.le_refl _ | omega | (simp; done) | (simp; omega))) (hb6.mono (by first | omega | (simp; done) | (simp; omega)))))
    clear hb6
    go_wp2
    go_ret
    exact ⟨rfl, (by have := (unhide HB5).size; have := (unhide HB6).size; exact (by (repeat' (first | exact Below.refl _ _ | refine Below.alloc ?_ ?_ _ | refine Below.setCell ?_ ?_ _ | refine Below.drew ?_ | refine Below.trans ?_ (Below.mono (unhide HB6) ?_))); all_goals (first | exact Nat.le_refl _ | omega | (simp; done) | (simp; omega))))⟩
  · have hm : TokenM.makeErr ep key old a t = 0 := Classical.not_not.1 hm
    obtain ⟨he, ha, ht⟩ := TokenM.make_zero.1 hm
    obtain ⟨u0, u1⟩ := (TokenM.timeB_iff t).1 ht
    have C4 := hide (fun w => tmake_yes w hm)
    have HM := hide hm
    have HE := hide he
    have HA := hide ha
    clear hm he ha ht
    generalize hgg : TagM.tag key [1, a, t] = g at C4
    have HQ := hide hgg
    clear hgg
    obtain ⟨r0, r1, r2⟩ := (unhide HR5).c3.1
    have rl := (unhide HR5).2
    go_wp2_with fail
    refine (unhide C4 _).mono ?_
    rintro e w6 ⟨rfl, hb6⟩
    clear r0 r1 r2 rl
    have HR6 := hide (((unhide HR5).later (by (repeat' (first | exact Below.refl _ _ | refine Below.alloc ?_ ?_ _ | refine Below.setCell ?_ ?_ _ | refine Below.drew ?_)); all_goals (first | exact Nat.le_refl _ | omega | (simp; done) | (simp; omega)))).later hb6)
    have HB6 := hide (show Below w.heap.size w w6 from (by have := (unhide HB5).size; have := (unhide HB5).size; exact Below.trans (by (repeat' (first | exact Below.refl _ _ | refine Below.alloc ?_ ?_ _ | refine Below.setCell ?_ ?_ _ | refine Below.drew ?_ | refine Below.trans ?_ (Below.mono (unhide HB5) ?_))); all_goals (first | exact Nat.le_refl _ | omega | (simp; done) | (simp; omega))) (hb6.mono (by first | omega | (simp; done) | (simp; omega)))))
    clear hb6
    by_cases n0 : now < 0
    · go_wp2
      go_ret
      exact ⟨rfl, (by have := (unhide HB5).size; have := (unhide HB6).size; exact (by (repeat' (first | exact Below.refl _ _ | refine Below.alloc ?_ ?_ _ | refine Below.setCell ?_ ?_ _ | refine Below.drew ?_ | refine Below.trans ?_ (Below.mono (unhide HB6) ?_))); all_goals (first | exact Nat.le_refl _ | omega | (simp; done) | (simp; omega))))⟩
    · by_cases n1 : 100000 < now
      · go_wp2
        go_ret
        exact ⟨rfl, (by have := (unhide HB5).size; have := (unhide HB6).size; exact (by (repeat' (first | exact Below.refl _ _ | refine Below.alloc ?_ ?_ _ | refine Below.setCell ?_ ?_ _ | refine Below.drew ?_ | refine Below.trans ?_ (Below.mono (unhide HB6) ?_))); all_goals (first | exact Nat.le_refl _ | omega | (simp; done) | (simp; omega))))⟩
      · by_cases l0 : long < 0
        · go_wp2
          go_ret
          exact ⟨rfl, (by have := (unhide HB5).size; have := (unhide HB6).size; exact (by (repeat' (first | exact Below.refl _ _ | refine Below.alloc ?_ ?_ _ | refine Below.setCell ?_ ?_ _ | refine Below.drew ?_ | refine Below.trans ?_ (Below.mono (unhide HB6) ?_))); all_goals (first | exact Nat.le_refl _ | omega | (simp; done) | (simp; omega))))⟩
        · by_cases l1 : 100000 < long
          · go_wp2
            go_ret
            exact ⟨rfl, (by have := (unhide HB5).size; have := (unhide HB6).size; exact (by (repeat' (first | exact Below.refl _ _ | refine Below.alloc ?_ ?_ _ | refine Below.setCell ?_ ?_ _ | refine Below.drew ?_ | refine Below.trans ?_ (Below.mono (unhide HB6) ?_))); all_goals (first | exact Nat.le_refl _ | omega | (simp; done) | (simp; omega))))⟩
          · have HN := hide ((TokenM.timeB_iff now).2 (by omega))
            have HL := hide ((TokenM.timeB_iff long).2 (by omega))
            have C5 := hide (fun w => tcheck_any ep key old ep a t (TagM.tag key [1, a, t]) a now long w)
            rw [TokenM.check_made (unhide HM) (unhide HA) (unhide HN) (unhide HL), if_pos rfl, unhide HQ] at C5
            by_cases h3 : now < t
            · rw [if_pos h3] at C5
              obtain ⟨r0, r1, r2⟩ := (unhide HR6).c3.1
              have rl := (unhide HR6).2
              go_wp2_with fail
              refine (unhide C5 _).mono ?_
              rintro e w7 ⟨rfl, hb7⟩
              clear r0 r1 r2 rl
              have HR7 := hide (((unhide HR6).later (by (repeat' (first | exact Below.refl _ _ | refine Below.alloc ?_ ?_ _ | refine Below.setCell ?_ ?_ _ | refine Below.drew ?_)); all_goals (first | exact Nat.le_refl _ | omega | (simp; done) | (simp; omega)))).later hb7)
              have HT7 : Hid (Held w7 (w6.heap.size) (n4 ep a t g)) := hide ((Held.fresh (n4 ep a t g) _ (by first | rfl | (simp; done))).later hb7)
              have HB7 := hide (show Below w.heap.size w w7 from (by have := (unhide HB5).size; have := (unhide HB6).size; exact Below.trans (by (repeat' (first | exact Below.refl _ _ | refine Below.alloc ?_ ?_ _ | refine Below.setCell ?_ ?_ _ | refine Below.drew ?_ | refine Below.trans ?_ (Below.mono (unhide HB6) ?_))); all_goals (first | exact Nat.le_refl _ | omega | (simp; done) | (simp; omega))) (hb7.mono (by first | omega | (simp; done) | (simp; omega)))))
              clear hb7
              go_wp2_with fail
              refine (same_any _ _ _ ((unhide HG).later (by have := (unhide HB7).size; exact (by (repeat' (first | exact Below.refl _ _ | refine Below.alloc ?_ ?_ _ | refine Below.setCell ?_ ?_ _ | refine Below.drew ?_ | refine Below.trans ?_ (Below.mono (unhide HB7) ?_))); all_goals (first | exact Nat.le_refl _ | omega | (simp; done) | (simp; omega)))))).mono ?_
              rintro e w8 ⟨rfl, hb8⟩
              have HR8 := hide (((unhide HR7).later (by (repeat' (first | exact Below.refl _ _ | refine Below.alloc ?_ ?_ _ | refine Below.setCell ?_ ?_ _ | refine Below.drew ?_)); all_goals (first | exact Nat.le_refl _ | omega | (simp; done) | (simp; omega)))).later hb8)
              have HT8 := hide (((unhide HT7).later (by (repeat' (first | exact Below.refl _ _ | refine Below.alloc ?_ ?_ _ | refine Below.setCell ?_ ?_ _ | refine Below.drew ?_)); all_goals (first | exact Nat.le_refl _ | omega | (simp; done) | (simp; omega)))).later hb8)
              have HB8 := hide (show Below w.heap.size w w8 from (by have := (unhide HB5).size; have := (unhide HB7).size; exact Below.trans (by (repeat' (first | exact Below.refl _ _ | refine Below.alloc ?_ ?_ _ | refine Below.setCell ?_ ?_ _ | refine Below.drew ?_ | refine Below.trans ?_ (Below.mono (unhide HB7) ?_))); all_goals (first | exact Nat.le_refl _ | omega | (simp; done) | (simp; omega))) (hb8.mono (by first | omega | (simp; done) | (simp; omega)))))
              clear hb8
              go_wp2
              go_ret
              exact ⟨rfl, (by have := (unhide HB5).size; have := (unhide HB8).size; exact (by (repeat' (first | exact Below.refl _ _ | refine Below.alloc ?_ ?_ _ | refine Below.setCell ?_ ?_ _ | refine Below.drew ?_ | refine Below.trans ?_ (Below.mono (unhide HB8) ?_))); all_goals (first | exact Nat.le_refl _ | omega | (simp; done) | (simp; omega))))⟩
            · by_cases h4 : long < now - t
              · rw [if_neg h3, if_pos h4] at C5
                have h4a : t + long < now := by omega
                clear h4
                obtain ⟨r0, r1, r2⟩ := (unhide HR6).c3.1
                have rl := (unhide HR6).2
                go_wp2_with fail
                refine (unhide C5 _).mono ?_
                rintro e w7 ⟨rfl, hb7⟩
                clear r0 r1 r2 rl
                have HR7 := hide (((unhide HR6).later (by (repeat' (first | exact Below.refl _ _ | refine Below.alloc ?_ ?_ _ | refine Below.setCell ?_ ?_ _ | refine Below.drew ?_)); all_goals (first | exact Nat.le_refl _ | omega | (simp; done) | (simp; omega)))).later hb7)
                have HT7 : Hid (Held w7 (w6.heap.size) (n4 ep a t g)) := hide ((Held.fresh (n4 ep a t g) _ (by first | rfl | (simp; done))).later hb7)
                have HB7 := hide (show Below w.heap.size w w7 from (by have := (unhide HB5).size; have := (unhide HB6).size; exact Below.trans (by (repeat' (first | exact Below.refl _ _ | refine Below.alloc ?_ ?_ _ | refine Below.setCell ?_ ?_ _ | refine Below.drew ?_ | refine Below.trans ?_ (Below.mono (unhide HB6) ?_))); all_goals (first | exact Nat.le_refl _ | omega | (simp; done) | (simp; omega))) (hb7.mono (by first | omega | (simp; done) | (simp; omega)))))
                clear hb7
                go_wp2_with fail
                refine (same_any _ _ _ ((unhide HG).later (by have := (unhide HB7).size; exact (by (repeat' (first | exact Below.refl _ _ | refine Below.alloc ?_ ?_ _ | refine Below.setCell ?_ ?_ _ | refine Below.drew ?_ | refine Below.trans ?_ (Below.mono (unhide HB7) ?_))); all_goals (first | exact Nat.le_refl _ | omega | (simp; done) | (simp; omega)))))).mono ?_
                rintro e w8 ⟨rfl, hb8⟩
                have HR8 := hide (((unhide HR7).later (by (repeat' (first | exact Below.refl _ _ | refine Below.alloc ?_ ?_ _ | refine Below.setCell ?_ ?_ _ | refine Below.drew ?_)); all_goals (first | exact Nat.le_refl _ | omega | (simp; done) | (simp; omega)))).later hb8)
                have HT8 := hide (((unhide HT7).later (by (repeat' (first | exact Below.refl _ _ | refine Below.alloc ?_ ?_ _ | refine Below.setCell ?_ ?_ _ | refine Below.drew ?_)); all_goals (first | exact Nat.le_refl _ | omega | (simp; done) | (simp; omega)))).later hb8)
                have HB8 := hide (show Below w.heap.size w w8 from (by have := (unhide HB5).size; have := (unhide HB7).size; exact Below.trans (by (repeat' (first | exact Below.refl _ _ | refine Below.alloc ?_ ?_ _ | refine Below.setCell ?_ ?_ _ | refine Below.drew ?_ | refine Below.trans ?_ (Below.mono (unhide HB7) ?_))); all_goals (first | exact Nat.le_refl _ | omega | (simp; done) | (simp; omega))) (hb8.mono (by first | omega | (simp; done) | (simp; omega)))))
                clear hb8
                go_wp2
                go_ret
                exact ⟨rfl, (by have := (unhide HB5).size; have := (unhide HB8).size; exact (by (repeat' (first | exact Below.refl _ _ | refine Below.alloc ?_ ?_ _ | refine Below.setCell ?_ ?_ _ | refine Below.drew ?_ | refine Below.trans ?_ (Below.mono (unhide HB8) ?_))); all_goals (first | exact Nat.le_refl _ | omega | (simp; done) | (simp; omega))))⟩
              · rw [if_neg h3, if_neg h4, errV_zero rfl] at C5
                have h4a : ¬ t + long < now := by omega
                have H3 : Hid (t ≤ now) := hide (by omega)
                have H4 : Hid (now - t ≤ long) := hide (by omega)
                clear h4
                obtain ⟨r0, r1, r2⟩ := (unhide HR6).c3.1
                have rl := (unhide HR6).2
                go_wp2_with fail
                refine (unhide C5 _).mono ?_
                rintro e w7 ⟨rfl, hb7⟩
                clear r0 r1 r2 rl
                have HR7 := hide (((unhide HR6).later (by (repeat' (first | exact Below.refl _ _ | refine Below.alloc ?_ ?_ _ | refine Below.setCell ?_ ?_ _ | refine Below.drew ?_)); all_goals (first | exact Nat.le_refl _ | omega | (simp; done) | (simp; omega)))).later hb7)
                have HT7 : Hid (Held w7 (w6.heap.size) (n4 ep a t g)) := hide ((Held.fresh (n4 ep a t g) _ (by first | rfl | (simp; done))).later hb7)
                have HB7 := hide (show Below w.heap.size w w7 from (by have := (unhide HB5).size; have := (unhide HB6).size; exact Below.trans (by (repeat' (first | exact Below.refl _ _ | refine Below.alloc ?_ ?_ _ | refine Below.setCell ?_ ?_ _ | refine Below.drew ?_ | refine Below.trans ?_ (Below.mono (unhide HB6) ?_))); all_goals (first | exact Nat.le_refl _ | omega | (simp; done) | (simp; omega))) (hb7.mono (by first | omega | (simp; done) | (simp; omega)))))
                clear hb7
                have C6 := hide (fun w => tcheck_any ep key old ep a t (TagM.tag key [1, a, t]) other now long w)
                rw [unhide HQ] at C6
                by_cases ho : other = a
                · obtain rfl : a = other := ho.symm
                  rw [← unhide HQ, TokenM.check_made (unhide HM) (unhide HA) (unhide HN) (unhide HL), if_pos rfl, if_neg (Int.not_lt.2 (unhide H3)), if_neg (Int.not_lt.2 (unhide H4)), errV_zero rfl, unhide HQ] at C6
                  obtain ⟨r0, r1, r2⟩ := (unhide HR7).c3.1
                  have rl := (unhide HR7).2
                  obtain ⟨t0, t1, t2, t3⟩ := (unhide HT7).c4.1
                  have tl := (unhide HT7).2
                  go_wp2_with fail
                  refine (unhide C6 _).mono ?_
                  rintro e w8 ⟨rfl, hb8⟩
                  clear r0 r1 r2 rl t0 t1 t2 t3 tl
                  have HR8 := hide (((unhide HR7).later (by (repeat' (first | exact Below.refl _ _ | refine Below.alloc ?_ ?_ _ | refine Below.setCell ?_ ?_ _ | refine Below.drew ?_)); all_goals (first | exact Nat.le_refl _ | omega | (simp; done) | (simp; omega)))).later hb8)
                  have HT8 := hide (((unhide HT7).later (by (repeat' (first | exact Below.refl _ _ | refine Below.alloc ?_ ?_ _ | refine Below.setCell ?_ ?_ _ | refine Below.drew ?_)); all_goals (first | exact Nat.le_refl _ | omega | (simp; done) | (simp; omega)))).later hb8)
                  have HB8 := hide (show Below w.heap.size w w8 from (by have := (unhide HB5).size; have := (unhide HB7).size; exact Below.trans (by (repeat' (first | exact Below.refl _ _ | refine Below.alloc ?_ ?_ _ | refine Below.setCell ?_ ?_ _ | refine Below.drew ?_ | refine Below.trans ?_ (Below.mono (unhide HB7) ?_))); all_goals (first | exact Nat.le_refl _ | omega | (simp; done) | (simp; omega))) (hb8.mono (by first | omega | (simp; done) | (simp; omega)))))
                  clear hb8
                  by_cases h100 : ep < 100
                  · have C7 := hide (fun w => rturn_yes (ep := ep) (key := key) (old := old) w (RingM.turn_zero.2 ⟨unhide HE, h100⟩))
                    have HX := hide (next_ring (unhide HE) h100)
                    have C9 := hide (fun w => tcheck_any (ep + 1) (TagM.tag key [ep + 1]) key ep a t (TagM.tag key [1, a, t]) a now long w)
                    rw [TokenM.check_turned (unhide HM) (unhide HX) (unhide HN) (unhide HL) (Int.not_lt.2 (unhide H3)) (Int.not_lt.2 (unhide H4)), errV_zero rfl, unhide HQ] at C9
                    generalize TagM.tag key [ep + 1] = k1 at C7 HX C9
                    obtain ⟨r0, r1, r2⟩ := (unhide HR8).c3.1
                    have rl := (unhide HR8).2
                    go_wp2_with fail
                    refine (unhide C7 _).mono ?_
                    rintro e w9 ⟨rfl, hb9⟩
                    clear r0 r1 r2 rl
                    have HR9 := hide (((unhide HR8).later (by (repeat' (first | exact Below.refl _ _ | refine Below.alloc ?_ ?_ _ | refine Below.setCell ?_ ?_ _ | refine Below.drew ?_)); all_goals (first | exact Nat.le_refl _ | omega | (simp; done) | (simp; omega)))).later hb9)
                    have HT9 := hide (((unhide HT8).later (by (repeat' (first | exact Below.refl _ _ | refine Below.alloc ?_ ?_ _ | refine Below.setCell ?_ ?_ _ | refine Below.drew ?_)); all_goals (first | exact Nat.le_refl _ | omega | (simp; done) | (simp; omega)))).later hb9)
                    have HB9 := hide (show Below w.heap.size w w9 from (by have := (unhide HB5).size; have := (unhide HB8).size; exact Below.trans (by (repeat' (first | exact Below.refl _ _ | refine Below.alloc ?_ ?_ _ | refine Below.setCell ?_ ?_ _ | refine Below.drew ?_ | refine Below.trans ?_ (Below.mono (unhide HB8) ?_))); all_goals (first | exact Nat.le_refl _ | omega | (simp; done) | (simp; omega))) (hb9.mono (by first | omega | (simp; done) | (simp; omega)))))
                    clear hb9
                    by_cases h99 : ep < 99
                    · have C8 := hide (fun w => rturn_yes (ep := ep + 1) (key := k1) (old := key) w (RingM.turn_zero.2 ⟨unhide HX, by omega⟩))
                      have HY := hide (next_ring (unhide HX) (by omega))
                      have C10 := hide (fun w => tcheck_any (ep + 1 + 1) (TagM.tag k1 [ep + 1 + 1]) k1 ep a t (TagM.tag key [1, a, t]) a now long w)
                      rw [TokenM.check_turned2 (unhide HM) (unhide HY) (unhide HN) (unhide HL), unhide HQ] at C10
                      generalize TagM.tag k1 [ep + 1 + 1] = k2 at C8 C10 HY
                      clear h99 h100
                      go_wp2_with fail
                      refine (unhide C8 _).mono ?_
                      rintro e w10 ⟨rfl, hb10⟩
                      have HR10 := hide (((unhide HR9).later (by (repeat' (first | exact Below.refl _ _ | refine Below.alloc ?_ ?_ _ | refine Below.setCell ?_ ?_ _ | refine Below.drew ?_)); all_goals (first | exact Nat.le_refl _ | omega | (simp; done) | (simp; omega)))).later hb10)
                      have HT10 := hide (((unhide HT9).later (by (repeat' (first | exact Below.refl _ _ | refine Below.alloc ?_ ?_ _ | refine Below.setCell ?_ ?_ _ | refine Below.drew ?_)); all_goals (first | exact Nat.le_refl _ | omega | (simp; done) | (simp; omega)))).later hb10)
                      have HX10 : Hid (Held w10 (w9.heap.size) (n3 (ep + 1) k1 key)) := hide ((Held.fresh (n3 (ep + 1) k1 key) _ (by first | rfl | (simp; done))).later hb10)
                      have HB10 := hide (show Below w.heap.size w w10 from (by have := (unhide HB5).size; have := (unhide HB9).size; exact Below.trans (by (repeat' (first | exact Below.refl _ _ | refine Below.alloc ?_ ?_ _ | refine Below.setCell ?_ ?_ _ | refine Below.drew ?_ | refine Below.trans ?_ (Below.mono (unhide HB9) ?_))); all_goals (first | exact Nat.le_refl _ | omega | (simp; done) | (simp; omega))) (hb10.mono (by first | omega | (simp; done) | (simp; omega)))))
                      clear hb10
                      obtain ⟨x0, x1, x2⟩ := (unhide HX10).c3.1
                      have xl := (unhide HX10).2
                      obtain ⟨t0, t1, t2, t3⟩ := (unhide HT10).c4.1
                      have tl := (unhide HT10).2
                      go_wp2_with fail
                      refine (unhide C9 _).mono ?_
                      rintro e w11 ⟨rfl, hb11⟩
                      clear x0 x1 x2 xl t0 t1 t2 t3 tl
                      have HR11 := hide (((unhide HR10).later (by (repeat' (first | exact Below.refl _ _ | refine Below.alloc ?_ ?_ _ | refine Below.setCell ?_ ?_ _ | refine Below.drew ?_)); all_goals (first | exact Nat.le_refl _ | omega | (simp; done) | (simp; omega)))).later hb11)
                      have HT11 := hide (((unhide HT10).later (by (repeat' (first | exact Below.refl _ _ | refine Below.alloc ?_ ?_ _ | refine Below.setCell ?_ ?_ _ | refine Below.drew ?_)); all_goals (first | exact Nat.le_refl _ | omega | (simp; done) | (simp; omega)))).later hb11)
                      have HX11 := hide (((unhide HX10).later (by (repeat' (first | exact Below.refl _ _ | refine Below.alloc ?_ ?_ _ | refine Below.setCell ?_ ?_ _ | refine Below.drew ?_)); all_goals (first | exact Nat.le_refl _ | omega | (simp; done) | (simp; omega)))).later hb11)
                      have HY11 : Hid (Held w11 (w10.heap.size) (n3 (ep + 1 + 1) k2 k1)) := hide ((Held.fresh (n3 (ep + 1 + 1) k2 k1) _ (by first | rfl | (simp; done))).later hb11)
                      have HB11 := hide (show Below w.heap.size w w11 from (by have := (unhide HB5).size; have := (unhide HB10).size; exact Below.trans (by (repeat' (first | exact Below.refl _ _ | refine Below.alloc ?_ ?_ _ | refine Below.setCell ?_ ?_ _ | refine Below.drew ?_ | refine Below.trans ?_ (Below.mono (unhide HB10) ?_))); all_goals (first | exact Nat.le_refl _ | omega | (simp; done) | (simp; omega))) (hb11.mono (by first | omega | (simp; done) | (simp; omega)))))
                      clear hb11
                      obtain ⟨y0, y1, y2⟩ := (unhide HY11).c3.1
                      have yl := (unhide HY11).2
                      obtain ⟨t0, t1, t2, t3⟩ := (unhide HT11).c4.1
                      have tl := (unhide HT11).2
                      go_wp2_with fail
                      refine (unhide C10 _).mono ?_
                      rintro e w12 ⟨rfl, hb12⟩
                      clear y0 y1 y2 yl t0 t1 t2 t3 tl
                      have HR12 := hide (((unhide HR11).later (by (repeat' (first | exact Below.refl _ _ | refine Below.alloc ?_ ?_ _ | refine Below.setCell ?_ ?_ _ | refine Below.drew ?_)); all_goals (first | exact Nat.le_refl _ | omega | (simp; done) | (simp; omega)))).later hb12)
                      have HT12 := hide (((unhide HT11).later (by (repeat' (first | exact Below.refl _ _ | refine Below.alloc ?_ ?_ _ | refine Below.setCell ?_ ?_ _ | refine Below.drew ?_)); all_goals (first | exact Nat.le_refl _ | omega | (simp; done) | (simp; omega)))).later hb12)
                      have HY12 := hide (((unhide HY11).later (by (repeat' (first | exact Below.refl _ _ | refine Below.alloc ?_ ?_ _ | refine Below.setCell ?_ ?_ _ | refine Below.drew ?_)); all_goals (first | exact Nat.le_refl _ | omega | (simp; done) | (simp; omega)))).later hb12)
                      have HB12 := hide (show Below w.heap.size w w12 from (by have := (unhide HB5).size; have := (unhide HB11).size; exact Below.trans (by (repeat' (first | exact Below.refl _ _ | refine Below.alloc ?_ ?_ _ | refine Below.setCell ?_ ?_ _ | refine Below.drew ?_ | refine Below.trans ?_ (Below.mono (unhide HB11) ?_))); all_goals (first | exact Nat.le_refl _ | omega | (simp; done) | (simp; omega))) (hb12.mono (by first | omega | (simp; done) | (simp; omega)))))
                      clear hb12
                      go_wp2_with fail
                      refine (same_any _ _ _ ((unhide HG).later (by have := (unhide HB12).size; exact (by (repeat' (first | exact Below.refl _ _ | refine Below.alloc ?_ ?_ _ | refine Below.setCell ?_ ?_ _ | refine Below.drew ?_ | refine Below.trans ?_ (Below.mono (unhide HB12) ?_))); all_goals (first | exact Nat.le_refl _ | omega | (simp; done) | (simp; omega)))))).mono ?_
                      rintro e w13 ⟨rfl, hb13⟩
                      have HR13 := hide (((unhide HR12).later (by (repeat' (first | exact Below.refl _ _ | refine Below.alloc ?_ ?_ _ | refine Below.setCell ?_ ?_ _ | refine Below.drew ?_)); all_goals (first | exact Nat.le_refl _ | omega | (simp; done) | (simp; omega)))).later hb13)
                      have HT13 := hide (((unhide HT12).later (by (repeat' (first | exact Below.refl _ _ | refine Below.alloc ?_ ?_ _ | refine Below.setCell ?_ ?_ _ | refine Below.drew ?_)); all_goals (first | exact Nat.le_refl _ | omega | (simp; done) | (simp; omega)))).later hb13)
                      have HB13 := hide (show Below w.heap.size w w13 from (by have := (unhide HB5).size; have := (unhide HB12).size; exact Below.trans (by (repeat' (first | exact Below.refl _ _ | refine Below.alloc ?_ ?_ _ | refine Below.setCell ?_ ?_ _ | refine Below.drew ?_ | refine Below.trans ?_ (Below.mono (unhide HB12) ?_))); all_goals (first | exact Nat.le_refl _ | omega | (simp; done) | (simp; omega))) (hb13.mono (by first | omega | (simp; done) | (simp; omega)))))
                      clear hb13
                      by_cases hn : n = g
                      · subst hn
                        obtain ⟨t0, t1, t2, t3⟩ := (unhide HT13).c4.1
                        have tl := (unhide HT13).2
                        go_wp2
                        go_ret
                        exact ⟨rfl, (by have := (unhide HB5).size; have := (unhide HB13).size; exact (by (repeat' (first | exact Below.refl _ _ | refine Below.alloc ?_ ?_ _ | refine Below.setCell ?_ ?_ _ | refine Below.drew ?_ | refine Below.trans ?_ (Below.mono (unhide HB13) ?_))); all_goals (first | exact Nat.le_refl _ | omega | (simp; done) | (simp; omega))))⟩
                      · have hn' : (n == g) = false := by simp [hn]
                        by_cases hn0 : n < 0
                        · obtain ⟨t0, t1, t2, t3⟩ := (unhide HT13).c4.1
                          have tl := (unhide HT13).2
                          go_wp2
                          go_ret
                          exact ⟨rfl, (by have := (unhide HB5).size; have := (unhide HB13).size; exact (by (repeat' (first | exact Below.refl _ _ | refine Below.alloc ?_ ?_ _ | refine Below.setCell ?_ ?_ _ | refine Below.drew ?_ | refine Below.trans ?_ (Below.mono (unhide HB13) ?_))); all_goals (first | exact Nat.le_refl _ | omega | (simp; done) | (simp; omega))))⟩
                        · by_cases hn1 : 999982 < n
                          · obtain ⟨t0, t1, t2, t3⟩ := (unhide HT13).c4.1
                            have tl := (unhide HT13).2
                            go_wp2
                            go_ret
                            exact ⟨rfl, (by have := (unhide HB5).size; have := (unhide HB13).size; exact (by (repeat' (first | exact Below.refl _ _ | refine Below.alloc ?_ ?_ _ | refine Below.setCell ?_ ?_ _ | refine Below.drew ?_ | refine Below.trans ?_ (Below.mono (unhide HB13) ?_))); all_goals (first | exact Nat.le_refl _ | omega | (simp; done) | (simp; omega))))⟩
                          · have C11 := hide (fun w => tcheck_any ep key old ep a t n a now long w)
                            rw [TokenM.check_wrong (unhide HM) ((TagM.inB_iff n).2 (by omega)) (by rw [unhide HQ]; exact hn) (unhide HN) (unhide HL)] at C11
                            have z6 := (unhide HR6).2
                            obtain ⟨r0, r1, r2⟩ := (unhide HR13).c3.1
                            have rl := (unhide HR13).2
                            obtain ⟨t0, t1, t2, t3⟩ := (unhide HT13).c4.1
                            obtain ⟨tf0, tf1, tf2, tf3⟩ := (unhide HT13).c4.2
                            have tl := (unhide HT13).2
                            go_wp2_with fail
                            refine (unhide C11 _).mono ?_
                            rintro e w14 ⟨rfl, hb14⟩
                            clear r0 r1 r2 rl t0 t1 t2 t3 tf0 tf1 tf2 tf3 tl
                            have HR14 := hide (((((unhide HR13).later (by (repeat' (first | exact Below.refl _ _ | refine Below.alloc ?_ ?_ _ | refine Below.setCell ?_ ?_ _ | refine Below.drew ?_)); all_goals (first | exact Nat.le_refl _ | omega | (simp; done) | (simp; omega)))).far (c := w6.heap.size) (by have := (unhide HB5).size; have := z6; have := (unhide HB6).size; have := (unhide HB13).size; omega) 3 (.int .i64 n)).later (by (repeat' (first | exact Below.refl _ _ | refine Below.alloc ?_ ?_ _ | refine Below.setCell ?_ ?_ _ | refine Below.drew ?_)); all_goals (first | exact Nat.le_refl _ | omega | (simp; done) | (simp; omega)))).later hb14)
                            have HT14 : Hid (Held w14 (w6.heap.size) (n4 ep a t n)) := hide ((((unhide HT13).put 3 (.int .i64 n)).later (by (repeat' (first | exact Below.refl _ _ | refine Below.alloc ?_ ?_ _ | refine Below.setCell ?_ ?_ _ | refine Below.drew ?_)); all_goals (first | exact Nat.le_refl _ | omega | (simp; done) | (simp; omega)))).later hb14)
                            have HB14 := hide (show Below w.heap.size w w14 from (by have := (unhide HB5).size; have := z6; have := (unhide HB6).size; have := (unhide HB13).size; exact Below.trans (by (repeat' (first | exact Below.refl _ _ | refine Below.alloc ?_ ?_ _ | refine Below.setCell ?_ ?_ _ | refine Below.drew ?_ | refine Below.trans ?_ (Below.mono (unhide HB13) ?_))); all_goals (first | exact Nat.le_refl _ | omega | (simp; done) | (simp; omega))) (hb14.mono (by first | omega | (simp; done) | (simp; omega)))))
                            clear hb14
                            go_wp2_with fail
                            refine (same_any _ _ _ ((unhide HG).later (by have := (unhide HB14).size; exact (by (repeat' (first | exact Below.refl _ _ | refine Below.alloc ?_ ?_ _ | refine Below.setCell ?_ ?_ _ | refine Below.drew ?_ | refine Below.trans ?_ (Below.mono (unhide HB14) ?_))); all_goals (first | exact Nat.le_refl _ | omega | (simp; done) | (simp; omega)))))).mono ?_
                            rintro e w15 ⟨rfl, hb15⟩
                            have HR15 := hide (((unhide HR14).later (by (repeat' (first | exact Below.refl _ _ | refine Below.alloc ?_ ?_ _ | refine Below.setCell ?_ ?_ _ | refine Below.drew ?_)); all_goals (first | exact Nat.le_refl _ | omega | (simp; done) | (simp; omega)))).later hb15)
                            have HT15 := hide (((unhide HT14).later (by (repeat' (first | exact Below.refl _ _ | refine Below.alloc ?_ ?_ _ | refine Below.setCell ?_ ?_ _ | refine Below.drew ?_)); all_goals (first | exact Nat.le_refl _ | omega | (simp; done) | (simp; omega)))).later hb15)
                            have HB15 := hide (show Below w.heap.size w w15 from (by have := (unhide HB5).size; have := z6; have := (unhide HB6).size; have := (unhide HB14).size; exact Below.trans (by (repeat' (first | exact Below.refl _ _ | refine Below.alloc ?_ ?_ _ | refine Below.setCell ?_ ?_ _ | refine Below.drew ?_ | refine Below.trans ?_ (Below.mono (unhide HB14) ?_))); all_goals (first | exact Nat.le_refl _ | omega | (simp; done) | (simp; omega))) (hb15.mono (by first | omega | (simp; done) | (simp; omega)))))
                            clear hb15
                            go_wp2
                            go_ret
                            exact ⟨rfl, (by have := (unhide HB5).size; have := z6; have := (unhide HB6).size; have := (unhide HB15).size; exact (by (repeat' (first | exact Below.refl _ _ | refine Below.alloc ?_ ?_ _ | refine Below.setCell ?_ ?_ _ | refine Below.drew ?_ | refine Below.trans ?_ (Below.mono (unhide HB15) ?_))); all_goals (first | exact Nat.le_refl _ | omega | (simp; done) | (simp; omega))))⟩
                    · have hf : RingM.turnErr (ep + 1) k1 key = 4 := by
                        unfold RingM.turnErr; rw [if_pos (unhide HX), if_pos (by omega)]
                      have C8 := hide (fun w => rturn_no (ep := ep + 1) (key := k1) (old := key) w (by rw [hf]; omega))
                      rw [hf] at C8
                      clear hf h99 h100
                      go_wp2_with fail
                      refine (unhide C8 _).mono ?_
                      rintro e w10 ⟨rfl, hb10⟩
                      have HR10 := hide (((unhide HR9).later (by (repeat' (first | exact Below.refl _ _ | refine Below.alloc ?_ ?_ _ | refine Below.setCell ?_ ?_ _ | refine Below.drew ?_)); all_goals (first | exact Nat.le_refl _ | omega | (simp; done) | (simp; omega)))).later hb10)
                      have HT10 := hide (((unhide HT9).later (by (repeat' (first | exact Below.refl _ _ | refine Below.alloc ?_ ?_ _ | refine Below.setCell ?_ ?_ _ | refine Below.drew ?_)); all_goals (first | exact Nat.le_refl _ | omega | (simp; done) | (simp; omega)))).later hb10)
                      have HX10 : Hid (Held w10 (w9.heap.size) (n3 (ep + 1) k1 key)) := hide ((Held.fresh (n3 (ep + 1) k1 key) _ (by first | rfl | (simp; done))).later hb10)
                      have HB10 := hide (show Below w.heap.size w w10 from (by have := (unhide HB5).size; have := (unhide HB9).size; exact Below.trans (by (repeat' (first | exact Below.refl _ _ | refine Below.alloc ?_ ?_ _ | refine Below.setCell ?_ ?_ _ | refine Below.drew ?_ | refine Below.trans ?_ (Below.mono (unhide HB9) ?_))); all_goals (first | exact Nat.le_refl _ | omega | (simp; done) | (simp; omega))) (hb10.mono (by first | omega | (simp; done) | (simp; omega)))))
                      clear hb10
                      obtain ⟨x0, x1, x2⟩ := (unhide HX10).c3.1
                      have xl := (unhide HX10).2
                      obtain ⟨t0, t1, t2, t3⟩ := (unhide HT10).c4.1
                      have tl := (unhide HT10).2
                      go_wp2_with fail
                      refine (unhide C9 _).mono ?_
                      rintro e w11 ⟨rfl, hb11⟩
                      clear x0 x1 x2 xl t0 t1 t2 t3 tl
                      have HR11 := hide (((unhide HR10).later (by (repeat' (first | exact Below.refl _ _ | refine Below.alloc ?_ ?_ _ | refine Below.setCell ?_ ?_ _ | refine Below.drew ?_)); all_goals (first | exact Nat.le_refl _ | omega | (simp; done) | (simp; omega)))).later hb11)
                      have HT11 := hide (((unhide HT10).later (by (repeat' (first | exact Below.refl _ _ | refine Below.alloc ?_ ?_ _ | refine Below.setCell ?_ ?_ _ | refine Below.drew ?_)); all_goals (first | exact Nat.le_refl _ | omega | (simp; done) | (simp; omega)))).later hb11)
                      have HX11 := hide (((unhide HX10).later (by (repeat' (first | exact Below.refl _ _ | refine Below.alloc ?_ ?_ _ | refine Below.setCell ?_ ?_ _ | refine Below.drew ?_)); all_goals (first | exact Nat.le_refl _ | omega | (simp; done) | (simp; omega)))).later hb11)
                      have HB11 := hide (show Below w.heap.size w w11 from (by have := (unhide HB5).size; have := (unhide HB10).size; exact Below.trans (by (repeat' (first | exact Below.refl _ _ | refine Below.alloc ?_ ?_ _ | refine Below.setCell ?_ ?_ _ | refine Below.drew ?_ | refine Below.trans ?_ (Below.mono (unhide HB10) ?_))); all_goals (first | exact Nat.le_refl _ | omega | (simp; done) | (simp; omega))) (hb11.mono (by first | omega | (simp; done) | (simp; omega)))))
                      clear hb11
                      by_cases hn : n = g
                      · subst hn
                        obtain ⟨t0, t1, t2, t3⟩ := (unhide HT11).c4.1
                        have tl := (unhide HT11).2
                        go_wp2
                        go_ret
                        exact ⟨rfl, (by have := (unhide HB5).size; have := (unhide HB11).size; exact (by (repeat' (first | exact Below.refl _ _ | refine Below.alloc ?_ ?_ _ | refine Below.setCell ?_ ?_ _ | refine Below.drew ?_ | refine Below.trans ?_ (Below.mono (unhide HB11) ?_))); all_goals (first | exact Nat.le_refl _ | omega | (simp; done) | (simp; omega))))⟩
                      · have hn' : (n == g) = false := by simp [hn]
                        by_cases hn0 : n < 0
                        · obtain ⟨t0, t1, t2, t3⟩ := (unhide HT11).c4.1
                          have tl := (unhide HT11).2
                          go_wp2
                          go_ret
                          exact ⟨rfl, (by have := (unhide HB5).size; have := (unhide HB11).size; exact (by (repeat' (first | exact Below.refl _ _ | refine Below.alloc ?_ ?_ _ | refine Below.setCell ?_ ?_ _ | refine Below.drew ?_ | refine Below.trans ?_ (Below.mono (unhide HB11) ?_))); all_goals (first | exact Nat.le_refl _ | omega | (simp; done) | (simp; omega))))⟩
                        · by_cases hn1 : 999982 < n
                          · obtain ⟨t0, t1, t2, t3⟩ := (unhide HT11).c4.1
                            have tl := (unhide HT11).2
                            go_wp2
                            go_ret
                            exact ⟨rfl, (by have := (unhide HB5).size; have := (unhide HB11).size; exact (by (repeat' (first | exact Below.refl _ _ | refine Below.alloc ?_ ?_ _ | refine Below.setCell ?_ ?_ _ | refine Below.drew ?_ | refine Below.trans ?_ (Below.mono (unhide HB11) ?_))); all_goals (first | exact Nat.le_refl _ | omega | (simp; done) | (simp; omega))))⟩
                          · have C11 := hide (fun w => tcheck_any ep key old ep a t n a now long w)
                            rw [TokenM.check_wrong (unhide HM) ((TagM.inB_iff n).2 (by omega)) (by rw [unhide HQ]; exact hn) (unhide HN) (unhide HL)] at C11
                            have z6 := (unhide HR6).2
                            obtain ⟨r0, r1, r2⟩ := (unhide HR11).c3.1
                            have rl := (unhide HR11).2
                            obtain ⟨t0, t1, t2, t3⟩ := (unhide HT11).c4.1
                            obtain ⟨tf0, tf1, tf2, tf3⟩ := (unhide HT11).c4.2
                            have tl := (unhide HT11).2
                            go_wp2_with fail
                            refine (unhide C11 _).mono ?_
                            rintro e w12 ⟨rfl, hb12⟩
                            clear r0 r1 r2 rl t0 t1 t2 t3 tf0 tf1 tf2 tf3 tl
                            have HR12 := hide (((((unhide HR11).later (by (repeat' (first | exact Below.refl _ _ | refine Below.alloc ?_ ?_ _ | refine Below.setCell ?_ ?_ _ | refine Below.drew ?_)); all_goals (first | exact Nat.le_refl _ | omega | (simp; done) | (simp; omega)))).far (c := w6.heap.size) (by have := (unhide HB5).size; have := z6; have := (unhide HB6).size; have := (unhide HB11).size; omega) 3 (.int .i64 n)).later (by (repeat' (first | exact Below.refl _ _ | refine Below.alloc ?_ ?_ _ | refine Below.setCell ?_ ?_ _ | refine Below.drew ?_)); all_goals (first | exact Nat.le_refl _ | omega | (simp; done) | (simp; omega)))).later hb12)
                            have HT12 : Hid (Held w12 (w6.heap.size) (n4 ep a t n)) := hide ((((unhide HT11).put 3 (.int .i64 n)).later (by (repeat' (first | exact Below.refl _ _ | refine Below.alloc ?_ ?_ _ | refine Below.setCell ?_ ?_ _ | refine Below.drew ?_)); all_goals (first | exact Nat.le_refl _ | omega | (simp; done) | (simp; omega)))).later hb12)
                            have HB12 := hide (show Below w.heap.size w w12 from (by have := (unhide HB5).size; have := z6; have := (unhide HB6).size; have := (unhide HB11).size; exact Below.trans (by (repeat' (first | exact Below.refl _ _ | refine Below.alloc ?_ ?_ _ | refine Below.setCell ?_ ?_ _ | refine Below.drew ?_ | refine Below.trans ?_ (Below.mono (unhide HB11) ?_))); all_goals (first | exact Nat.le_refl _ | omega | (simp; done) | (simp; omega))) (hb12.mono (by first | omega | (simp; done) | (simp; omega)))))
                            clear hb12
                            go_wp2_with fail
                            refine (same_any _ _ _ ((unhide HG).later (by have := (unhide HB12).size; exact (by (repeat' (first | exact Below.refl _ _ | refine Below.alloc ?_ ?_ _ | refine Below.setCell ?_ ?_ _ | refine Below.drew ?_ | refine Below.trans ?_ (Below.mono (unhide HB12) ?_))); all_goals (first | exact Nat.le_refl _ | omega | (simp; done) | (simp; omega)))))).mono ?_
                            rintro e w13 ⟨rfl, hb13⟩
                            have HR13 := hide (((unhide HR12).later (by (repeat' (first | exact Below.refl _ _ | refine Below.alloc ?_ ?_ _ | refine Below.setCell ?_ ?_ _ | refine Below.drew ?_)); all_goals (first | exact Nat.le_refl _ | omega | (simp; done) | (simp; omega)))).later hb13)
                            have HT13 := hide (((unhide HT12).later (by (repeat' (first | exact Below.refl _ _ | refine Below.alloc ?_ ?_ _ | refine Below.setCell ?_ ?_ _ | refine Below.drew ?_)); all_goals (first | exact Nat.le_refl _ | omega | (simp; done) | (simp; omega)))).later hb13)
                            have HB13 := hide (show Below w.heap.size w w13 from (by have := (unhide HB5).size; have := z6; have := (unhide HB6).size; have := (unhide HB12).size; exact Below.trans (by (repeat' (first | exact Below.refl _ _ | refine Below.alloc ?_ ?_ _ | refine Below.setCell ?_ ?_ _ | refine Below.drew ?_ | refine Below.trans ?_ (Below.mono (unhide HB12) ?_))); all_goals (first | exact Nat.le_refl _ | omega | (simp; done) | (simp; omega))) (hb13.mono (by first | omega | (simp; done) | (simp; omega)))))
                            clear hb13
                            go_wp2
                            go_ret
                            exact ⟨rfl, (by have := (unhide HB5).size; have := z6; have := (unhide HB6).size; have := (unhide HB13).size; exact (by (repeat' (first | exact Below.refl _ _ | refine Below.alloc ?_ ?_ _ | refine Below.setCell ?_ ?_ _ | refine Below.drew ?_ | refine Below.trans ?_ (Below.mono (unhide HB13) ?_))); all_goals (first | exact Nat.le_refl _ | omega | (simp; done) | (simp; omega))))⟩
                  · have hf : RingM.turnErr ep key old = 4 := by
                      obtain ⟨hp, _⟩ := RingM.err_zero.1 (unhide HE)
                      unfold RingM.turnErr; rw [if_pos (unhide HE), if_pos (by omega)]
                    have C7 := hide (fun w => rturn_no (ep := ep) (key := key) (old := old) w (by rw [hf]; omega))
                    rw [hf] at C7
                    clear hf h100
                    obtain ⟨r0, r1, r2⟩ := (unhide HR8).c3.1
                    have rl := (unhide HR8).2
                    obtain ⟨t0, t1, t2, t3⟩ := (unhide HT8).c4.1
                    have tl := (unhide HT8).2
                    go_wp2_with fail
                    refine (unhide C7 _).mono ?_
                    rintro e w9 ⟨rfl, hb9⟩
                    clear r0 r1 r2 rl t0 t1 t2 t3 tl
                    have HR9 := hide (((unhide HR8).later (by (repeat' (first | exact Below.refl _ _ | refine Below.alloc ?_ ?_ _ | refine Below.setCell ?_ ?_ _ | refine Below.drew ?_)); all_goals (first | exact Nat.le_refl _ | omega | (simp; done) | (simp; omega)))).later hb9)
                    have HT9 := hide (((unhide HT8).later (by (repeat' (first | exact Below.refl _ _ | refine Below.alloc ?_ ?_ _ | refine Below.setCell ?_ ?_ _ | refine Below.drew ?_)); all_goals (first | exact Nat.le_refl _ | omega | (simp; done) | (simp; omega)))).later hb9)
                    have HB9 := hide (show Below w.heap.size w w9 from (by have := (unhide HB5).size; have := (unhide HB8).size; exact Below.trans (by (repeat' (first | exact Below.refl _ _ | refine Below.alloc ?_ ?_ _ | refine Below.setCell ?_ ?_ _ | refine Below.drew ?_ | refine Below.trans ?_ (Below.mono (unhide HB8) ?_))); all_goals (first | exact Nat.le_refl _ | omega | (simp; done) | (simp; omega))) (hb9.mono (by first | omega | (simp; done) | (simp; omega)))))
                    clear hb9
                    by_cases hn : n = g
                    · subst hn
                      obtain ⟨t0, t1, t2, t3⟩ := (unhide HT9).c4.1
                      have tl := (unhide HT9).2
                      go_wp2
                      go_ret
                      exact ⟨rfl, (by have := (unhide HB5).size; have := (unhide HB9).size; exact (by (repeat' (first | exact Below.refl _ _ | refine Below.alloc ?_ ?_ _ | refine Below.setCell ?_ ?_ _ | refine Below.drew ?_ | refine Below.trans ?_ (Below.mono (unhide HB9) ?_))); all_goals (first | exact Nat.le_refl _ | omega | (simp; done) | (simp; omega))))⟩
                    · have hn' : (n == g) = false := by simp [hn]
                      by_cases hn0 : n < 0
                      · obtain ⟨t0, t1, t2, t3⟩ := (unhide HT9).c4.1
                        have tl := (unhide HT9).2
                        go_wp2
                        go_ret
                        exact ⟨rfl, (by have := (unhide HB5).size; have := (unhide HB9).size; exact (by (repeat' (first | exact Below.refl _ _ | refine Below.alloc ?_ ?_ _ | refine Below.setCell ?_ ?_ _ | refine Below.drew ?_ | refine Below.trans ?_ (Below.mono (unhide HB9) ?_))); all_goals (first | exact Nat.le_refl _ | omega | (simp; done) | (simp; omega))))⟩
                      · by_cases hn1 : 999982 < n
                        · obtain ⟨t0, t1, t2, t3⟩ := (unhide HT9).c4.1
                          have tl := (unhide HT9).2
                          go_wp2
                          go_ret
                          exact ⟨rfl, (by have := (unhide HB5).size; have := (unhide HB9).size; exact (by (repeat' (first | exact Below.refl _ _ | refine Below.alloc ?_ ?_ _ | refine Below.setCell ?_ ?_ _ | refine Below.drew ?_ | refine Below.trans ?_ (Below.mono (unhide HB9) ?_))); all_goals (first | exact Nat.le_refl _ | omega | (simp; done) | (simp; omega))))⟩
                        · have C11 := hide (fun w => tcheck_any ep key old ep a t n a now long w)
                          rw [TokenM.check_wrong (unhide HM) ((TagM.inB_iff n).2 (by omega)) (by rw [unhide HQ]; exact hn) (unhide HN) (unhide HL)] at C11
                          have z6 := (unhide HR6).2
                          obtain ⟨r0, r1, r2⟩ := (unhide HR9).c3.1
                          have rl := (unhide HR9).2
                          obtain ⟨t0, t1, t2, t3⟩ := (unhide HT9).c4.1
                          obtain ⟨tf0, tf1, tf2, tf3⟩ := (unhide HT9).c4.2
                          have tl := (unhide HT9).2
                          go_wp2_with fail
                          refine (unhide C11 _).mono ?_
                          rintro e w10 ⟨rfl, hb10⟩
                          clear r0 r1 r2 rl t0 t1 t2 t3 tf0 tf1 tf2 tf3 tl
                          have HR10 := hide (((((unhide HR9).later (by (repeat' (first | exact Below.refl _ _ | refine Below.alloc ?_ ?_ _ | refine Below.setCell ?_ ?_ _ | refine Below.drew ?_)); all_goals (first | exact Nat.le_refl _ | omega | (simp; done) | (simp; omega)))).far (c := w6.heap.size) (by have := (unhide HB5).size; have := z6; have := (unhide HB6).size; have := (unhide HB9).size; omega) 3 (.int .i64 n)).later (by (repeat' (first | exact Below.refl _ _ | refine Below.alloc ?_ ?_ _ | refine Below.setCell ?_ ?_ _ | refine Below.drew ?_)); all_goals (first | exact Nat.le_refl _ | omega | (simp; done) | (simp; omega)))).later hb10)
                          have HT10 : Hid (Held w10 (w6.heap.size) (n4 ep a t n)) := hide ((((unhide HT9).put 3 (.int .i64 n)).later (by (repeat' (first | exact Below.refl _ _ | refine Below.alloc ?_ ?_ _ | refine Below.setCell ?_ ?_ _ | refine Below.drew ?_)); all_goals (first | exact Nat.le_refl _ | omega | (simp; done) | (simp; omega)))).later hb10)
                          have HB10 := hide (show Below w.heap.size w w10 from (by have := (unhide HB5).size; have := z6; have := (unhide HB6).size; have := (unhide HB9).size; exact Below.trans (by (repeat' (first | exact Below.refl _ _ | refine Below.alloc ?_ ?_ _ | refine Below.setCell ?_ ?_ _ | refine Below.drew ?_ | refine Below.trans ?_ (Below.mono (unhide HB9) ?_))); all_goals (first | exact Nat.le_refl _ | omega | (simp; done) | (simp; omega))) (hb10.mono (by first | omega | (simp; done) | (simp; omega)))))
                          clear hb10
                          go_wp2_with fail
                          refine (same_any _ _ _ ((unhide HG).later (by have := (unhide HB10).size; exact (by (repeat' (first | exact Below.refl _ _ | refine Below.alloc ?_ ?_ _ | refine Below.setCell ?_ ?_ _ | refine Below.drew ?_ | refine Below.trans ?_ (Below.mono (unhide HB10) ?_))); all_goals (first | exact Nat.le_refl _ | omega | (simp; done) | (simp; omega)))))).mono ?_
                          rintro e w11 ⟨rfl, hb11⟩
                          have HR11 := hide (((unhide HR10).later (by (repeat' (first | exact Below.refl _ _ | refine Below.alloc ?_ ?_ _ | refine Below.setCell ?_ ?_ _ | refine Below.drew ?_)); all_goals (first | exact Nat.le_refl _ | omega | (simp; done) | (simp; omega)))).later hb11)
                          have HT11 := hide (((unhide HT10).later (by (repeat' (first | exact Below.refl _ _ | refine Below.alloc ?_ ?_ _ | refine Below.setCell ?_ ?_ _ | refine Below.drew ?_)); all_goals (first | exact Nat.le_refl _ | omega | (simp; done) | (simp; omega)))).later hb11)
                          have HB11 := hide (show Below w.heap.size w w11 from (by have := (unhide HB5).size; have := z6; have := (unhide HB6).size; have := (unhide HB10).size; exact Below.trans (by (repeat' (first | exact Below.refl _ _ | refine Below.alloc ?_ ?_ _ | refine Below.setCell ?_ ?_ _ | refine Below.drew ?_ | refine Below.trans ?_ (Below.mono (unhide HB10) ?_))); all_goals (first | exact Nat.le_refl _ | omega | (simp; done) | (simp; omega))) (hb11.mono (by first | omega | (simp; done) | (simp; omega)))))
                          clear hb11
                          go_wp2
                          go_ret
                          exact ⟨rfl, (by have := (unhide HB5).size; have := z6; have := (unhide HB6).size; have := (unhide HB11).size; exact (by (repeat' (first | exact Below.refl _ _ | refine Below.alloc ?_ ?_ _ | refine Below.setCell ?_ ?_ _ | refine Below.drew ?_ | refine Below.trans ?_ (Below.mono (unhide HB11) ?_))); all_goals (first | exact Nat.le_refl _ | omega | (simp; done) | (simp; omega))))⟩
                · have hx : ¬ TokenM.checkErr ep key old ep a t g other now long = 0 := by
                    rw [← unhide HQ]
                    by_cases hi : TagM.inB other = true
                    · rw [TokenM.check_made (unhide HM) hi (unhide HN) (unhide HL), if_neg (fun e => ho e.symm)]; omega
                    · rw [TokenM.check_made_bad (unhide HM) (.inl (by simpa using hi))]; omega
                  rw [errV_pos hx] at C6
                  generalize TokenM.checkErr ep key old ep a t g other now long = q at C6
                  have ho' : (other == a) = false := by simp [ho]
                  clear hx
                  obtain ⟨r0, r1, r2⟩ := (unhide HR7).c3.1
                  have rl := (unhide HR7).2
                  obtain ⟨t0, t1, t2, t3⟩ := (unhide HT7).c4.1
                  have tl := (unhide HT7).2
                  go_wp2_with fail
                  refine (unhide C6 _).mono ?_
                  rintro e w8 ⟨rfl, hb8⟩
                  clear r0 r1 r2 rl t0 t1 t2 t3 tl
                  have HR8 := hide (((unhide HR7).later (by (repeat' (first | exact Below.refl _ _ | refine Below.alloc ?_ ?_ _ | refine Below.setCell ?_ ?_ _ | refine Below.drew ?_)); all_goals (first | exact Nat.le_refl _ | omega | (simp; done) | (simp; omega)))).later hb8)
                  have HT8 := hide (((unhide HT7).later (by (repeat' (first | exact Below.refl _ _ | refine Below.alloc ?_ ?_ _ | refine Below.setCell ?_ ?_ _ | refine Below.drew ?_)); all_goals (first | exact Nat.le_refl _ | omega | (simp; done) | (simp; omega)))).later hb8)
                  have HB8 := hide (show Below w.heap.size w w8 from (by have := (unhide HB5).size; have := (unhide HB7).size; exact Below.trans (by (repeat' (first | exact Below.refl _ _ | refine Below.alloc ?_ ?_ _ | refine Below.setCell ?_ ?_ _ | refine Below.drew ?_ | refine Below.trans ?_ (Below.mono (unhide HB7) ?_))); all_goals (first | exact Nat.le_refl _ | omega | (simp; done) | (simp; omega))) (hb8.mono (by first | omega | (simp; done) | (simp; omega)))))
                  clear hb8
                  by_cases h100 : ep < 100
                  · have C7 := hide (fun w => rturn_yes (ep := ep) (key := key) (old := old) w (RingM.turn_zero.2 ⟨unhide HE, h100⟩))
                    have HX := hide (next_ring (unhide HE) h100)
                    have C9 := hide (fun w => tcheck_any (ep + 1) (TagM.tag key [ep + 1]) key ep a t (TagM.tag key [1, a, t]) a now long w)
                    rw [TokenM.check_turned (unhide HM) (unhide HX) (unhide HN) (unhide HL) (Int.not_lt.2 (unhide H3)) (Int.not_lt.2 (unhide H4)), errV_zero rfl, unhide HQ] at C9
                    generalize TagM.tag key [ep + 1] = k1 at C7 HX C9
                    obtain ⟨r0, r1, r2⟩ := (unhide HR8).c3.1
                    have rl := (unhide HR8).2
                    go_wp2_with fail
                    refine (unhide C7 _).mono ?_
                    rintro e w9 ⟨rfl, hb9⟩
                    clear r0 r1 r2 rl
                    have HR9 := hide (((unhide HR8).later (by (repeat' (first | exact Below.refl _ _ | refine Below.alloc ?_ ?_ _ | refine Below.setCell ?_ ?_ _ | refine Below.drew ?_)); all_goals (first | exact Nat.le_refl _ | omega | (simp; done) | (simp; omega)))).later hb9)
                    have HT9 := hide (((unhide HT8).later (by (repeat' (first | exact Below.refl _ _ | refine Below.alloc ?_ ?_ _ | refine Below.setCell ?_ ?_ _ | refine Below.drew ?_)); all_goals (first | exact Nat.le_refl _ | omega | (simp; done) | (simp; omega)))).later hb9)
                    have HB9 := hide (show Below w.heap.size w w9 from (by have := (unhide HB5).size; have := (unhide HB8).size; exact Below.trans (by (repeat' (first | exact Below.refl _ _ | refine Below.alloc ?_ ?_ _ | refine Below.setCell ?_ ?_ _ | refine Below.drew ?_ | refine Below.trans ?_ (Below.mono (unhide HB8) ?_))); all_goals (first | exact Nat.le_refl _ | omega | (simp; done) | (simp; omega))) (hb9.mono (by first | omega | (simp; done) | (simp; omega)))))
                    clear hb9
                    by_cases h99 : ep < 99
                    · have C8 := hide (fun w => rturn_yes (ep := ep + 1) (key := k1) (old := key) w (RingM.turn_zero.2 ⟨unhide HX, by omega⟩))
                      have HY := hide (next_ring (unhide HX) (by omega))
                      have C10 := hide (fun w => tcheck_any (ep + 1 + 1) (TagM.tag k1 [ep + 1 + 1]) k1 ep a t (TagM.tag key [1, a, t]) a now long w)
                      rw [TokenM.check_turned2 (unhide HM) (unhide HY) (unhide HN) (unhide HL), unhide HQ] at C10
                      generalize TagM.tag k1 [ep + 1 + 1] = k2 at C8 C10 HY
                      clear h99 h100
                      go_wp2_with fail
                      refine (unhide C8 _).mono ?_
                      rintro e w10 ⟨rfl, hb10⟩
                      have HR10 := hide (((unhide HR9).later (by (repeat' (first | exact Below.refl _ _ | refine Below.alloc ?_ ?_ _ | refine Below.setCell ?_ ?_ _ | refine Below.drew ?_)); all_goals (first | exact Nat.le_refl _ | omega | (simp; done) | (simp; omega)))).later hb10)
                      have HT10 := hide (((unhide HT9).later (by (repeat' (first | exact Below.refl _ _ | refine Below.alloc ?_ ?_ _ | refine Below.setCell ?_ ?_ _ | refine Below.drew ?_)); all_goals (first | exact Nat.le_refl _ | omega | (simp; done) | (simp; omega)))).later hb10)
                      have HX10 : Hid (Held w10 (w9.heap.size) (n3 (ep + 1) k1 key)) := hide ((Held.fresh (n3 (ep + 1) k1 key) _ (by first | rfl | (simp; done))).later hb10)
                      have HB10 := hide (show Below w.heap.size w w10 from (by have := (unhide HB5).size; have := (unhide HB9).size; exact Below.trans (by (repeat' (first | exact Below.refl _ _ | refine Below.alloc ?_ ?_ _ | refine Below.setCell ?_ ?_ _ | refine Below.drew ?_ | refine Below.trans ?_ (Below.mono (unhide HB9) ?_))); all_goals (first | exact Nat.le_refl _ | omega | (simp; done) | (simp; omega))) (hb10.mono (by first | omega | (simp; done) | (simp; omega)))))
                      clear hb10
                      obtain ⟨x0, x1, x2⟩ := (unhide HX10).c3.1
                      have xl := (unhide HX10).2
                      obtain ⟨t0, t1, t2, t3⟩ := (unhide HT10).c4.1
                      have tl := (unhide HT10).2
                      go_wp2_with fail
                      refine (unhide C9 _).mono ?_
                      rintro e w11 ⟨rfl, hb11⟩
                      clear x0 x1 x2 xl t0 t1 t2 t3 tl
                      have HR11 := hide (((unhide HR10).later (by (repeat' (first | exact Below.refl _ _ | refine Below.alloc ?_ ?_ _ | refine Below.setCell ?_ ?_ _ | refine Below.drew ?_)); all_goals (first | exact Nat.le_refl _ | omega | (simp; done) | (simp; omega)))).later hb11)
                      have HT11 := hide (((unhide HT10).later (by (repeat' (first | exact Below.refl _ _ | refine Below.alloc ?_ ?_ _ | refine Below.setCell ?_ ?_ _ | refine Below.drew ?_)); all_goals (first | exact Nat.le_refl _ | omega | (simp; done) | (simp; omega)))).later hb11)
                      have HX11 := hide (((unhide HX10).later (by (repeat' (first | exact Below.refl _ _ | refine Below.alloc ?_ ?_ _ | refine Below.setCell ?_ ?_ _ | refine Below.drew ?_)); all_goals (first | exact Nat.le_refl _ | omega | (simp; done) | (simp; omega)))).later hb11)
                      have HY11 : Hid (Held w11 (w10.heap.size) (n3 (ep + 1 + 1) k2 k1)) := hide ((Held.fresh (n3 (ep + 1 + 1) k2 k1) _ (by first | rfl | (simp; done))).later hb11)
                      have HB11 := hide (show Below w.heap.size w w11 from (by have := (unhide HB5).size; have := (unhide HB10).size; exact Below.trans (by (repeat' (first | exact Below.refl _ _ | refine Below.alloc ?_ ?_ _ | refine Below.setCell ?_ ?_ _ | refine Below.drew ?_ | refine Below.trans ?_ (Below.mono (unhide HB10) ?_))); all_goals (first | exact Nat.le_refl _ | omega | (simp; done) | (simp; omega))) (hb11.mono (by first | omega | (simp; done) | (simp; omega)))))
                      clear hb11
                      obtain ⟨y0, y1, y2⟩ := (unhide HY11).c3.1
                      have yl := (unhide HY11).2
                      obtain ⟨t0, t1, t2, t3⟩ := (unhide HT11).c4.1
                      have tl := (unhide HT11).2
                      go_wp2_with fail
                      refine (unhide C10 _).mono ?_
                      rintro e w12 ⟨rfl, hb12⟩
                      clear y0 y1 y2 yl t0 t1 t2 t3 tl
                      have HR12 := hide (((unhide HR11).later (by (repeat' (first | exact Below.refl _ _ | refine Below.alloc ?_ ?_ _ | refine Below.setCell ?_ ?_ _ | refine Below.drew ?_)); all_goals (first | exact Nat.le_refl _ | omega | (simp; done) | (simp; omega)))).later hb12)
                      have HT12 := hide (((unhide HT11).later (by (repeat' (first | exact Below.refl _ _ | refine Below.alloc ?_ ?_ _ | refine Below.setCell ?_ ?_ _ | refine Below.drew ?_)); all_goals (first | exact Nat.le_refl _ | omega | (simp; done) | (simp; omega)))).later hb12)
                      have HY12 := hide (((unhide HY11).later (by (repeat' (first | exact Below.refl _ _ | refine Below.alloc ?_ ?_ _ | refine Below.setCell ?_ ?_ _ | refine Below.drew ?_)); all_goals (first | exact Nat.le_refl _ | omega | (simp; done) | (simp; omega)))).later hb12)
                      have HB12 := hide (show Below w.heap.size w w12 from (by have := (unhide HB5).size; have := (unhide HB11).size; exact Below.trans (by (repeat' (first | exact Below.refl _ _ | refine Below.alloc ?_ ?_ _ | refine Below.setCell ?_ ?_ _ | refine Below.drew ?_ | refine Below.trans ?_ (Below.mono (unhide HB11) ?_))); all_goals (first | exact Nat.le_refl _ | omega | (simp; done) | (simp; omega))) (hb12.mono (by first | omega | (simp; done) | (simp; omega)))))
                      clear hb12
                      go_wp2_with fail
                      refine (same_any _ _ _ ((unhide HG).later (by have := (unhide HB12).size; exact (by (repeat' (first | exact Below.refl _ _ | refine Below.alloc ?_ ?_ _ | refine Below.setCell ?_ ?_ _ | refine Below.drew ?_ | refine Below.trans ?_ (Below.mono (unhide HB12) ?_))); all_goals (first | exact Nat.le_refl _ | omega | (simp; done) | (simp; omega)))))).mono ?_
                      rintro e w13 ⟨rfl, hb13⟩
                      have HR13 := hide (((unhide HR12).later (by (repeat' (first | exact Below.refl _ _ | refine Below.alloc ?_ ?_ _ | refine Below.setCell ?_ ?_ _ | refine Below.drew ?_)); all_goals (first | exact Nat.le_refl _ | omega | (simp; done) | (simp; omega)))).later hb13)
                      have HT13 := hide (((unhide HT12).later (by (repeat' (first | exact Below.refl _ _ | refine Below.alloc ?_ ?_ _ | refine Below.setCell ?_ ?_ _ | refine Below.drew ?_)); all_goals (first | exact Nat.le_refl _ | omega | (simp; done) | (simp; omega)))).later hb13)
                      have HB13 := hide (show Below w.heap.size w w13 from (by have := (unhide HB5).size; have := (unhide HB12).size; exact Below.trans (by (repeat' (first | exact Below.refl _ _ | refine Below.alloc ?_ ?_ _ | refine Below.setCell ?_ ?_ _ | refine Below.drew ?_ | refine Below.trans ?_ (Below.mono (unhide HB12) ?_))); all_goals (first | exact Nat.le_refl _ | omega | (simp; done) | (simp; omega))) (hb13.mono (by first | omega | (simp; done) | (simp; omega)))))
                      clear hb13
                      by_cases hn : n = g
                      · subst hn
                        obtain ⟨t0, t1, t2, t3⟩ := (unhide HT13).c4.1
                        have tl := (unhide HT13).2
                        go_wp2
                        go_ret
                        exact ⟨rfl, (by have := (unhide HB5).size; have := (unhide HB13).size; exact (by (repeat' (first | exact Below.refl _ _ | refine Below.alloc ?_ ?_ _ | refine Below.setCell ?_ ?_ _ | refine Below.drew ?_ | refine Below.trans ?_ (Below.mono (unhide HB13) ?_))); all_goals (first | exact Nat.le_refl _ | omega | (simp; done) | (simp; omega))))⟩
                      · have hn' : (n == g) = false := by simp [hn]
                        by_cases hn0 : n < 0
                        · obtain ⟨t0, t1, t2, t3⟩ := (unhide HT13).c4.1
                          have tl := (unhide HT13).2
                          go_wp2
                          go_ret
                          exact ⟨rfl, (by have := (unhide HB5).size; have := (unhide HB13).size; exact (by (repeat' (first | exact Below.refl _ _ | refine Below.alloc ?_ ?_ _ | refine Below.setCell ?_ ?_ _ | refine Below.drew ?_ | refine Below.trans ?_ (Below.mono (unhide HB13) ?_))); all_goals (first | exact Nat.le_refl _ | omega | (simp; done) | (simp; omega))))⟩
                        · by_cases hn1 : 999982 < n
                          · obtain ⟨t0, t1, t2, t3⟩ := (unhide HT13).c4.1
                            have tl := (unhide HT13).2
                            go_wp2
                            go_ret
                            exact ⟨rfl, (by have := (unhide HB5).size; have := (unhide HB13).size; exact (by (repeat' (first | exact Below.refl _ _ | refine Below.alloc ?_ ?_ _ | refine Below.setCell ?_ ?_ _ | refine Below.drew ?_ | refine Below.trans ?_ (Below.mono (unhide HB13) ?_))); all_goals (first | exact Nat.le_refl _ | omega | (simp; done) | (simp; omega))))⟩
                          · have C11 := hide (fun w => tcheck_any ep key old ep a t n a now long w)
                            rw [TokenM.check_wrong (unhide HM) ((TagM.inB_iff n).2 (by omega)) (by rw [unhide HQ]; exact hn) (unhide HN) (unhide HL)] at C11
                            have z6 := (unhide HR6).2
                            obtain ⟨r0, r1, r2⟩ := (unhide HR13).c3.1
                            have rl := (unhide HR13).2
                            obtain ⟨t0, t1, t2, t3⟩ := (unhide HT13).c4.1
                            obtain ⟨tf0, tf1, tf2, tf3⟩ := (unhide HT13).c4.2
                            have tl := (unhide HT13).2
                            go_wp2_with fail
                            refine (unhide C11 _).mono ?_
                            rintro e w14 ⟨rfl, hb14⟩
                            clear r0 r1 r2 rl t0 t1 t2 t3 tf0 tf1 tf2 tf3 tl
                            have HR14 := hide (((((unhide HR13).later (by (repeat' (first | exact Below.refl _ _ | refine Below.alloc ?_ ?_ _ | refine Below.setCell ?_ ?_ _ | refine Below.drew ?_)); all_goals (first | exact Nat.le_refl _ | omega | (simp; done) | (simp; omega)))).far (c := w6.heap.size) (by have := (unhide HB5).size; have := z6; have := (unhide HB6).size; have := (unhide HB13).size; omega) 3 (.int .i64 n)).later (by (repeat' (first | exact Below.refl _ _ | refine Below.alloc ?_ ?_ _ | refine Below.setCell ?_ ?_ _ | refine Below.drew ?_)); all_goals (first | exact Nat.le_refl _ | omega | (simp; done) | (simp; omega)))).later hb14)
                            have HT14 : Hid (Held w14 (w6.heap.size) (n4 ep a t n)) := hide ((((unhide HT13).put 3 (.int .i64 n)).later (by (repeat' (first | exact Below.refl _ _ | refine Below.alloc ?_ ?_ _ | refine Below.setCell ?_ ?_ _ | refine Below.drew ?_)); all_goals (first | exact Nat.le_refl _ | omega | (simp; done) | (simp; omega)))).later hb14)
                            have HB14 := hide (show Below w.heap.size w w14 from (by have := (unhide HB5).size; have := z6; have := (unhide HB6).size; have := (unhide HB13).size; exact Below.trans (by (repeat' (first | exact Below.refl _ _ | refine Below.alloc ?_ ?_ _ | refine Below.setCell ?_ ?_ _ | refine Below.drew ?_ | refine Below.trans ?_ (Below.mono (unhide HB13) ?_))); all_goals (first | exact Nat.le_refl _ | omega | (simp; done) | (simp; omega))) (hb14.mono (by first | omega | (simp; done) | (simp; omega)))))
                            clear hb14
                            go_wp2_with fail
                            refine (same_any _ _ _ ((unhide HG).later (by have := (unhide HB14).size; exact (by (repeat' (first | exact Below.refl _ _ | refine Below.alloc ?_ ?_ _ | refine Below.setCell ?_ ?_ _ | refine Below.drew ?_ | refine Below.trans ?_ (Below.mono (unhide HB14) ?_))); all_goals (first | exact Nat.le_refl _ | omega | (simp; done) | (simp; omega)))))).mono ?_
                            rintro e w15 ⟨rfl, hb15⟩
                            have HR15 := hide (((unhide HR14).later (by (repeat' (first | exact Below.refl _ _ | refine Below.alloc ?_ ?_ _ | refine Below.setCell ?_ ?_ _ | refine Below.drew ?_)); all_goals (first | exact Nat.le_refl _ | omega | (simp; done) | (simp; omega)))).later hb15)
                            have HT15 := hide (((unhide HT14).later (by (repeat' (first | exact Below.refl _ _ | refine Below.alloc ?_ ?_ _ | refine Below.setCell ?_ ?_ _ | refine Below.drew ?_)); all_goals (first | exact Nat.le_refl _ | omega | (simp; done) | (simp; omega)))).later hb15)
                            have HB15 := hide (show Below w.heap.size w w15 from (by have := (unhide HB5).size; have := z6; have := (unhide HB6).size; have := (unhide HB14).size; exact Below.trans (by (repeat' (first | exact Below.refl _ _ | refine Below.alloc ?_ ?_ _ | refine Below.setCell ?_ ?_ _ | refine Below.drew ?_ | refine Below.trans ?_ (Below.mono (unhide HB14) ?_))); all_goals (first | exact Nat.le_refl _ | omega | (simp; done) | (simp; omega))) (hb15.mono (by first | omega | (simp; done) | (simp; omega)))))
                            clear hb15
                            go_wp2
                            go_ret
                            exact ⟨rfl, (by have := (unhide HB5).size; have := z6; have := (unhide HB6).size; have := (unhide HB15).size; exact (by (repeat' (first | exact Below.refl _ _ | refine Below.alloc ?_ ?_ _ | refine Below.setCell ?_ ?_ _ | refine Below.drew ?_ | refine Below.trans ?_ (Below.mono (unhide HB15) ?_))); all_goals (first | exact Nat.le_refl _ | omega | (simp; done) | (simp; omega))))⟩
                    · have hf : RingM.turnErr (ep + 1) k1 key = 4 := by
                        unfold RingM.turnErr; rw [if_pos (unhide HX), if_pos (by omega)]
                      have C8 := hide (fun w => rturn_no (ep := ep + 1) (key := k1) (old := key) w (by rw [hf]; omega))
                      rw [hf] at C8
                      clear hf h99 h100
                      go_wp2_with fail
                      refine (unhide C8 _).mono ?_
                      rintro e w10 ⟨rfl, hb10⟩
                      have HR10 := hide (((unhide HR9).later (by (repeat' (first | exact Below.refl _ _ | refine Below.alloc ?_ ?_ _ | refine Below.setCell ?_ ?_ _ | refine Below.drew ?_)); all_goals (first | exact Nat.le_refl _ | omega | (simp; done) | (simp; omega)))).later hb10)
                      have HT10 := hide (((unhide HT9).later (by (repeat' (first | exact Below.refl _ _ | refine Below.alloc ?_ ?_ _ | refine Below.setCell ?_ ?_ _ | refine Below.drew ?_)); all_goals (first | exact Nat.le_refl _ | omega | (simp; done) | (simp; omega)))).later hb10)
                      have HX10 : Hid (Held w10 (w9.heap.size) (n3 (ep + 1) k1 key)) := hide ((Held.fresh (n3 (ep + 1) k1 key) _ (by first | rfl | (simp; done))).later hb10)
                      have HB10 := hide (show Below w.heap.size w w10 from (by have := (unhide HB5).size; have := (unhide HB9).size; exact Below.trans (by (repeat' (first | exact Below.refl _ _ | refine Below.alloc ?_ ?_ _ | refine Below.setCell ?_ ?_ _ | refine Below.drew ?_ | refine Below.trans ?_ (Below.mono (unhide HB9) ?_))); all_goals (first | exact Nat.le_refl _ | omega | (simp; done) | (simp; omega))) (hb10.mono (by first | omega | (simp; done) | (simp; omega)))))
                      clear hb10
                      obtain ⟨x0, x1, x2⟩ := (unhide HX10).c3.1
                      have xl := (unhide HX10).2
                      obtain ⟨t0, t1, t2, t3⟩ := (unhide HT10).c4.1
                      have tl := (unhide HT10).2
                      go_wp2_with fail
                      refine (unhide C9 _).mono ?_
                      rintro e w11 ⟨rfl, hb11⟩
                      clear x0 x1 x2 xl t0 t1 t2 t3 tl
                      have HR11 := hide (((unhide HR10).later (by (repeat' (first | exact Below.refl _ _ | refine Below.alloc ?_ ?_ _ | refine Below.setCell ?_ ?_ _ | refine Below.drew ?_)); all_goals (first | exact Nat.le_refl _ | omega | (simp; done) | (simp; omega)))).later hb11)
                      have HT11 := hide (((unhide HT10).later (by (repeat' (first | exact Below.refl _ _ | refine Below.alloc ?_ ?_ _ | refine Below.setCell ?_ ?_ _ | refine Below.drew ?_)); all_goals (first | exact Nat.le_refl _ | omega | (simp; done) | (simp; omega)))).later hb11)
                      have HX11 := hide (((unhide HX10).later (by (repeat' (first | exact Below.refl _ _ | refine Below.alloc ?_ ?_ _ | refine Below.setCell ?_ ?_ _ | refine Below.drew ?_)); all_goals (first | exact Nat.le_refl _ | omega | (simp; done) | (simp; omega)))).later hb11)
                      have HB11 := hide (show Below w.heap.size w w11 from (by have := (unhide HB5).size; have := (unhide HB10).size; exact Below.trans (by (repeat' (first | exact Below.refl _ _ | refine Below.alloc ?_ ?_ _ | refine Below.setCell ?_ ?_ _ | refine Below.drew ?_ | refine Below.trans ?_ (Below.mono (unhide HB10) ?_))); all_goals (first | exact Nat.le_refl _ | omega | (simp; done) | (simp; omega))) (hb11.mono (by first | omega | (simp; done) | (simp; omega)))))
                      clear hb11
                      by_cases hn : n = g
                      · subst hn
                        obtain ⟨t0, t1, t2, t3⟩ := (unhide HT11).c4.1
                        have tl := (unhide HT11).2
                        go_wp2
                        go_ret
                        exact ⟨rfl, (by have := (unhide HB5).size; have := (unhide HB11).size; exact (by (repeat' (first | exact Below.refl _ _ | refine Below.alloc ?_ ?_ _ | refine Below.setCell ?_ ?_ _ | refine Below.drew ?_ | refine Below.trans ?_ (Below.mono (unhide HB11) ?_))); all_goals (first | exact Nat.le_refl _ | omega | (simp; done) | (simp; omega))))⟩
                      · have hn' : (n == g) = false := by simp [hn]
                        by_cases hn0 : n < 0
                        · obtain ⟨t0, t1, t2, t3⟩ := (unhide HT11).c4.1
                          have tl := (unhide HT11).2
                          go_wp2
                          go_ret
                          exact ⟨rfl, (by have := (unhide HB5).size; have := (unhide HB11).size; exact (by (repeat' (first | exact Below.refl _ _ | refine Below.alloc ?_ ?_ _ | refine Below.setCell ?_ ?_ _ | refine Below.drew ?_ | refine Below.trans ?_ (Below.mono (unhide HB11) ?_))); all_goals (first | exact Nat.le_refl _ | omega | (simp; done) | (simp; omega))))⟩
                        · by_cases hn1 : 999982 < n
                          · obtain ⟨t0, t1, t2, t3⟩ := (unhide HT11).c4.1
                            have tl := (unhide HT11).2
                            go_wp2
                            go_ret
                            exact ⟨rfl, (by have := (unhide HB5).size; have := (unhide HB11).size; exact (by (repeat' (first | exact Below.refl _ _ | refine Below.alloc ?_ ?_ _ | refine Below.setCell ?_ ?_ _ | refine Below.drew ?_ | refine Below.trans ?_ (Below.mono (unhide HB11) ?_))); all_goals (first | exact Nat.le_refl _ | omega | (simp; done) | (simp; omega))))⟩
                          · have C11 := hide (fun w => tcheck_any ep key old ep a t n a now long w)
                            rw [TokenM.check_wrong (unhide HM) ((TagM.inB_iff n).2 (by omega)) (by rw [unhide HQ]; exact hn) (unhide HN) (unhide HL)] at C11
                            have z6 := (unhide HR6).2
                            obtain ⟨r0, r1, r2⟩ := (unhide HR11).c3.1
                            have rl := (unhide HR11).2
                            obtain ⟨t0, t1, t2, t3⟩ := (unhide HT11).c4.1
                            obtain ⟨tf0, tf1, tf2, tf3⟩ := (unhide HT11).c4.2
                            have tl := (unhide HT11).2
                            go_wp2_with fail
                            refine (unhide C11 _).mono ?_
                            rintro e w12 ⟨rfl, hb12⟩
                            clear r0 r1 r2 rl t0 t1 t2 t3 tf0 tf1 tf2 tf3 tl
                            have HR12 := hide (((((unhide HR11).later (by (repeat' (first | exact Below.refl _ _ | refine Below.alloc ?_ ?_ _ | refine Below.setCell ?_ ?_ _ | refine Below.drew ?_)); all_goals (first | exact Nat.le_refl _ | omega | (simp; done) | (simp; omega)))).far (c := w6.heap.size) (by have := (unhide HB5).size; have := z6; have := (unhide HB6).size; have := (unhide HB11).size; omega) 3 (.int .i64 n)).later (by (repeat' (first | exact Below.refl _ _ | refine Below.alloc ?_ ?_ _ | refine Below.setCell ?_ ?_ _ | refine Below.drew ?_)); all_goals (first | exact Nat.le_refl _ | omega | (simp; done) | (simp; omega)))).later hb12)
                            have HT12 : Hid (Held w12 (w6.heap.size) (n4 ep a t n)) := hide ((((unhide HT11).put 3 (.int .i64 n)).later (by (repeat' (first | exact Below.refl _ _ | refine Below.alloc ?_ ?_ _ | refine Below.setCell ?_ ?_ _ | refine Below.drew ?_)); all_goals (first | exact Nat.le_refl _ | omega | (simp; done) | (simp; omega)))).later hb12)
                            have HB12 := hide (show Below w.heap.size w w12 from (by have := (unhide HB5).size; have := z6; have := (unhide HB6).size; have := (unhide HB11).size; exact Below.trans (by (repeat' (first | exact Below.refl _ _ | refine Below.alloc ?_ ?_ _ | refine Below.setCell ?_ ?_ _ | refine Below.drew ?_ | refine Below.trans ?_ (Below.mono (unhide HB11) ?_))); all_goals (first | exact Nat.le_refl _ | omega | (simp; done) | (simp; omega))) (hb12.mono (by first | omega | (simp; done) | (simp; omega)))))
                            clear hb12
                            go_wp2_with fail
                            refine (same_any _ _ _ ((unhide HG).later (by have := (unhide HB12).size; exact (by (repeat' (first | exact Below.refl _ _ | refine Below.alloc ?_ ?_ _ | refine Below.setCell ?_ ?_ _ | refine Below.drew ?_ | refine Below.trans ?_ (Below.mono (unhide HB12) ?_))); all_goals (first | exact Nat.le_refl _ | omega | (simp; done) | (simp; omega)))))).mono ?_
                            rintro e w13 ⟨rfl, hb13⟩
                            have HR13 := hide (((unhide HR12).later (by (repeat' (first | exact Below.refl _ _ | refine Below.alloc ?_ ?_ _ | refine Below.setCell ?_ ?_ _ | refine Below.drew ?_)); all_goals (first | exact Nat.le_refl _ | omega | (simp; done) | (simp; omega)))).later hb13)
                            have HT13 := hide (((unhide HT12).later (by (repeat' (first | exact Below.refl _ _ | refine Below.alloc ?_ ?_ _ | refine Below.setCell ?_ ?_ _ | refine Below.drew ?_)); all_goals (first | exact Nat.le_refl _ | omega | (simp; done) | (simp; omega)))).later hb13)
                            have HB13 := hide (show Below w.heap.size w w13 from (by have := (unhide HB5).size; have := z6; have := (unhide HB6).size; have := (unhide HB12).size; exact Below.trans (by (repeat' (first | exact Below.refl _ _ | refine Below.alloc ?_ ?_ _ | refine Below.setCell ?_ ?_ _ | refine Below.drew ?_ | refine Below.trans ?_ (Below.mono (unhide HB12) ?_))); all_goals (first | exact Nat.le_refl _ | omega | (simp; done) | (simp; omega))) (hb13.mono (by first | omega | (simp; done) | (simp; omega)))))
                            clear hb13
                            go_wp2
                            go_ret
                            exact ⟨rfl, (by have := (unhide HB5).size; have := z6; have := (unhide HB6).size; have := (unhide HB13).size; exact (by (repeat' (first | exact Below.refl _ _ | refine Below.alloc ?_ ?_ _ | refine Below.setCell ?_ ?_ _ | refine Below.drew ?_ | refine Below.trans ?_ (Below.mono (unhide HB13) ?_))); all_goals (first | exact Nat.le_refl _ | omega | (simp; done) | (simp; omega))))⟩
                  · have hf : RingM.turnErr ep key old = 4 := by
                      obtain ⟨hp, _⟩ := RingM.err_zero.1 (unhide HE)
                      unfold RingM.turnErr; rw [if_pos (unhide HE), if_pos (by omega)]
                    have C7 := hide (fun w => rturn_no (ep := ep) (key := key) (old := old) w (by rw [hf]; omega))
                    rw [hf] at C7
                    clear hf h100
                    obtain ⟨r0, r1, r2⟩ := (unhide HR8).c3.1
                    have rl := (unhide HR8).2
                    obtain ⟨t0, t1, t2, t3⟩ := (unhide HT8).c4.1
                    have tl := (unhide HT8).2
                    go_wp2_with fail
                    refine (unhide C7 _).mono ?_
                    rintro e w9 ⟨rfl, hb9⟩
                    clear r0 r1 r2 rl t0 t1 t2 t3 tl
                    have HR9 := hide (((unhide HR8).later (by (repeat' (first | exact Below.refl _ _ | refine Below.alloc ?_ ?_ _ | refine Below.setCell ?_ ?_ _ | refine Below.drew ?_)); all_goals (first | exact Nat.le_refl _ | omega | (simp; done) | (simp; omega)))).later hb9)
                    have HT9 := hide (((unhide HT8).later (by (repeat' (first | exact Below.refl _ _ | refine Below.alloc ?_ ?_ _ | refine Below.setCell ?_ ?_ _ | refine Below.drew ?_)); all_goals (first | exact Nat.le_refl _ | omega | (simp; done) | (simp; omega)))).later hb9)
                    have HB9 := hide (show Below w.heap.size w w9 from (by have := (unhide HB5).size; have := (unhide HB8).size; exact Below.trans (by (repeat' (first | exact Below.refl _ _ | refine Below.alloc ?_ ?_ _ | refine Below.setCell ?_ ?_ _ | refine Below.drew ?_ | refine Below.trans ?_ (Below.mono (unhide HB8) ?_))); all_goals (first | exact Nat.le_refl _ | omega | (simp; done) | (simp; omega))) (hb9.mono (by first | omega | (simp; done) | (simp; omega)))))
                    clear hb9
                    by_cases hn : n = g
                    · subst hn
                      obtain ⟨t0, t1, t2, t3⟩ := (unhide HT9).c4.1
                      have tl := (unhide HT9).2
                      go_wp2
                      go_ret
                      exact ⟨rfl, (by have := (unhide HB5).size; have := (unhide HB9).size; exact (by (repeat' (first | exact Below.refl _ _ | refine Below.alloc ?_ ?_ _ | refine Below.setCell ?_ ?_ _ | refine Below.drew ?_ | refine Below.trans ?_ (Below.mono (unhide HB9) ?_))); all_goals (first | exact Nat.le_refl _ | omega | (simp; done) | (simp; omega))))⟩
                    · have hn' : (n == g) = false := by simp [hn]
                      by_cases hn0 : n < 0
                      · obtain ⟨t0, t1, t2, t3⟩ := (unhide HT9).c4.1
                        have tl := (unhide HT9).2
                        go_wp2
                        go_ret
                        exact ⟨rfl, (by have := (unhide HB5).size; have := (unhide HB9).size; exact (by (repeat' (first | exact Below.refl _ _ | refine Below.alloc ?_ ?_ _ | refine Below.setCell ?_ ?_ _ | refine Below.drew ?_ | refine Below.trans ?_ (Below.mono (unhide HB9) ?_))); all_goals (first | exact Nat.le_refl _ | omega | (simp; done) | (simp; omega))))⟩
                      · by_cases hn1 : 999982 < n
                        · obtain ⟨t0, t1, t2, t3⟩ := (unhide HT9).c4.1
                          have tl := (unhide HT9).2
                          go_wp2
                          go_ret
                          exact ⟨rfl, (by have := (unhide HB5).size; have := (unhide HB9).size; exact (by (repeat' (first | exact Below.refl _ _ | refine Below.alloc ?_ ?_ _ | refine Below.setCell ?_ ?_ _ | refine Below.drew ?_ | refine Below.trans ?_ (Below.mono (unhide HB9) ?_))); all_goals (first | exact Nat.le_refl _ | omega | (simp; done) | (simp; omega))))⟩
                        · have C11 := hide (fun w => tcheck_any ep key old ep a t n a now long w)
                          rw [TokenM.check_wrong (unhide HM) ((TagM.inB_iff n).2 (by omega)) (by rw [unhide HQ]; exact hn) (unhide HN) (unhide HL)] at C11
                          have z6 := (unhide HR6).2
                          obtain ⟨r0, r1, r2⟩ := (unhide HR9).c3.1
                          have rl := (unhide HR9).2
                          obtain ⟨t0, t1, t2, t3⟩ := (unhide HT9).c4.1
                          obtain ⟨tf0, tf1, tf2, tf3⟩ := (unhide HT9).c4.2
                          have tl := (unhide HT9).2
                          go_wp2_with fail
                          refine (unhide C11 _).mono ?_
                          rintro e w10 ⟨rfl, hb10⟩
                          clear r0 r1 r2 rl t0 t1 t2 t3 tf0 tf1 tf2 tf3 tl
                          have HR10 := hide (((((unhide HR9).later (by (repeat' (first | exact Below.refl _ _ | refine Below.alloc ?_ ?_ _ | refine Below.setCell ?_ ?_ _ | refine Below.drew ?_)); all_goals (first | exact Nat.le_refl _ | omega | (simp; done) | (simp; omega)))).far (c := w6.heap.size) (by have := (unhide HB5).size; have := z6; have := (unhide HB6).size; have := (unhide HB9).size; omega) 3 (.int .i64 n)).later (by (repeat' (first | exact Below.refl _ _ | refine Below.alloc ?_ ?_ _ | refine Below.setCell ?_ ?_ _ | refine Below.drew ?_)); all_goals (first | exact Nat.le_refl _ | omega | (simp; done) | (simp; omega)))).later hb10)
                          have HT10 : Hid (Held w10 (w6.heap.size) (n4 ep a t n)) := hide ((((unhide HT9).put 3 (.int .i64 n)).later (by (repeat' (first | exact Below.refl _ _ | refine Below.alloc ?_ ?_ _ | refine Below.setCell ?_ ?_ _ | refine Below.drew ?_)); all_goals (first | exact Nat.le_refl _ | omega | (simp; done) | (simp; omega)))).later hb10)
                          have HB10 := hide (show Below w.heap.size w w10 from (by have := (unhide HB5).size; have := z6; have := (unhide HB6).size; have := (unhide HB9).size; exact Below.trans (by (repeat' (first | exact Below.refl _ _ | refine Below.alloc ?_ ?_ _ | refine Below.setCell ?_ ?_ _ | refine Below.drew ?_ | refine Below.trans ?_ (Below.mono (unhide HB9) ?_))); all_goals (first | exact Nat.le_refl _ | omega | (simp; done) | (simp; omega))) (hb10.mono (by first | omega | (simp; done) | (simp; omega)))))
                          clear hb10
                          go_wp2_with fail
                          refine (same_any _ _ _ ((unhide HG).later (by have := (unhide HB10).size; exact (by (repeat' (first | exact Below.refl _ _ | refine Below.alloc ?_ ?_ _ | refine Below.setCell ?_ ?_ _ | refine Below.drew ?_ | refine Below.trans ?_ (Below.mono (unhide HB10) ?_))); all_goals (first | exact Nat.le_refl _ | omega | (simp; done) | (simp; omega)))))).mono ?_
                          rintro e w11 ⟨rfl, hb11⟩
                          have HR11 := hide (((unhide HR10).later (by (repeat' (first | exact Below.refl _ _ | refine Below.alloc ?_ ?_ _ | refine Below.setCell ?_ ?_ _ | refine Below.drew ?_)); all_goals (first | exact Nat.le_refl _ | omega | (simp; done) | (simp; omega)))).later hb11)
                          have HT11 := hide (((unhide HT10).later (by (repeat' (first | exact Below.refl _ _ | refine Below.alloc ?_ ?_ _ | refine Below.setCell ?_ ?_ _ | refine Below.drew ?_)); all_goals (first | exact Nat.le_refl _ | omega | (simp; done) | (simp; omega)))).later hb11)
                          have HB11 := hide (show Below w.heap.size w w11 from (by have := (unhide HB5).size; have := z6; have := (unhide HB6).size; have := (unhide HB10).size; exact Below.trans (by (repeat' (first | exact Below.refl _ _ | refine Below.alloc ?_ ?_ _ | refine Below.setCell ?_ ?_ _ | refine Below.drew ?_ | refine Below.trans ?_ (Below.mono (unhide HB10) ?_))); all_goals (first | exact Nat.le_refl _ | omega | (simp; done) | (simp; omega))) (hb11.mono (by first | omega | (simp; done) | (simp; omega)))))
                          clear hb11
                          go_wp2
                          go_ret
                          exact ⟨rfl, (by have := (unhide HB5).size; have := z6; have := (unhide HB6).size; have := (unhide HB11).size; exact (by (repeat' (first | exact Below.refl _ _ | refine Below.alloc ?_ ?_ _ | refine Below.setCell ?_ ?_ _ | refine Below.drew ?_ | refine Below.trans ?_ (Below.mono (unhide HB11) ?_))); all_goals (first | exact Nat.le_refl _ | omega | (simp; done) | (simp; omega))))⟩


theorem gErr : Tryd.prog.globalNamed "errors.errorType" = some 0 := by kernel_rfl
theorem rtErr : (Tryd.prog.cutTypes.find? (·.1 == "internal/reflectlite.rtype")).map (·.2) = some 78 := by kernel_rfl
theorem oneRow : ((List.range 121).filter fun t => Tryd.prog.rowNamed t [101, 114, 114, 111, 114]) = [25] := by kernel_rfl
theorem sizeT : Tryd.prog.types.size = 121 := by kernel_rfl
theorem handle_of_laid {W : World} (h : laidMetH Tryd.prog Rows.tokenHoldsRow.laid W) : ErrType W := by
  have h' : laidMet Tryd.prog [] W ∧ handlesMet Tryd.prog Rows.tokenHoldsRow.laid W := h
  obtain ⟨name, u, ty, e1, e2, e3, e4, e5⟩ := h'.2 _ (List.mem_singleton.2 rfl)
  have en : name = [101, 114, 114, 111, 114] := (Option.some.inj e1).symm
  subst en
  obtain rfl := Option.some.inj (rtErr.symm.trans e2)
  have hm : ty ∈ (List.range 121).filter fun t => Tryd.prog.rowNamed t [101, 114, 114, 111, 114] := List.mem_filter.2 ⟨List.mem_range.2 (by rw [← sizeT]; exact e3), e4⟩
  rw [oneRow] at hm
  obtain rfl := List.mem_singleton.1 hm
  have hh : typeHandle Tryd.prog 25 = .pointer (some ⟨1, 25, none⟩) := by kernel_rfl
  rw [hh] at e5
  unfold ErrType
  simpa using World.var?_cell gErr e5 0
theorem door_met (os : Os) (args : Array Value) : laidMetH Tryd.prog Rows.tokenHoldsRow.laid ((World.doorLaid Tryd.prog 400 os).forCall (fun _ _ => 0) ⟨#[], args, []⟩).memory :=
  laidMetH_of_parts (laidMet_nil _ _) (by kernel_rfl)


set_option maxRecDepth 100000 in
theorem lifted (os : Os) (started : os.Started) (H : Type) (enc : TypeId × Value → H) :
    ReturnsInHanded {} Tryd.checked os 5 .any (fun w args => (Rows.tokenHoldsSpec.pre enc Tryd.prog Tryd.f5 [] false w args ∧ laidMetH Tryd.prog Rows.tokenHoldsRow.laid w) ∧ sizedMet enc Tryd.prog Tryd.f5 (OpenSpec.ofChange Rows.tokenHoldsSpec) false w args) (Rows.tokenHoldsSpec.post enc Tryd.prog Tryd.f5 false true false false) := by
  refine returnsInHanded_of_change_and (C := Tryd.checked) (X := fun w _ => laidMetH Tryd.prog Rows.tokenHoldsRow.laid w) (fun _ _ _ hh h => h.of_heap hh) own started (by kernel_rfl) Tryd.func5
    (ChangeSpec.witness_shaped (enc := enc) (C := Tryd.checked) (os := os) (X := fun w _ => laidMetH Tryd.prog Rows.tokenHoldsRow.laid w) false (World.doorLaid Tryd.prog 400 os) #[.agg #[.int .i64 0, .int .i64 0, .int .i64 0], .int .i64 0, .int .i64 0, .int .i64 0, .int .i64 0, .int .i64 0, .int .i64 0] 8 rfl (World.shaped_of_RefB (by kernel_rfl) (by kernel_rfl)) (by kernel_rfl) (by kernel_rfl) (by kernel_rfl) (door_met os _)) ?_
  intro W base args ds gs before hval0 hW _ hsz hL _
  have hg := handle_of_laid hL
  have hval : ∀ (j : Nat) t v, Tryd.f5.params[j]? = some t → args[j]? = some v → Value.okWide Tryd.prog W .any base t v := hval0
  have hW' := hW
  obtain ⟨p, q, hA0, hV, rfl, hfz, hnd⟩ := hW
  have hA : DataW.TrodAll enc Tryd.prog W 0 (fun _ => true) true Tryd.f5.params.toList args.toList ds p := hA0
  rw [Tryd.params5] at hA hval
  obtain ⟨v0, vs0, d0, ds0, p0, q0, hargs, rfl, rfl, h0, r0⟩ := trodAll_cons hA
  obtain ⟨v1, vs1, d1, ds1, p1, q1, rfl, rfl, rfl, h1, r1⟩ := trodAll_cons r0
  obtain ⟨v2, vs2, d2, ds2, p2, q2, rfl, rfl, rfl, h2, r2⟩ := trodAll_cons r1
  obtain ⟨v3, vs3, d3, ds3, p3, q3, rfl, rfl, rfl, h3, r3⟩ := trodAll_cons r2
  obtain ⟨v4, vs4, d4, ds4, p4, q4, rfl, rfl, rfl, h4, r4⟩ := trodAll_cons r3
  obtain ⟨v5, vs5, d5, ds5, p5, q5, rfl, rfl, rfl, h5, r5⟩ := trodAll_cons r4
  obtain ⟨v6, vs6, d6, ds6, p6, q6, rfl, rfl, rfl, h6, r6⟩ := trodAll_cons r5
  obtain ⟨rfl, rfl, rfl⟩ := trodAll_nil r6
  obtain rfl : args = #[v0, v1, v2, v3, v4, v5, v6] := by cases args; simp_all
  obtain ⟨rfl, rfl⟩ := trodVars_none hV
  have k0 := h0
  have lt0 : ∀ x ∈ p0, x.block < W.heap.size := by obtain ⟨m, hm⟩ := k0; exact DataW.trod_lt m _ _ _ hm
  obtain ⟨c0_0, c0_1, c0_2, y0_0, y0_1, y0_2, m0, rfl, rfl, rfl, g0_0, g0_1, g0_2⟩ := open_agg3 Tryd.underlying23 (by kernel_rfl) (by kernel_rfl) (hval 0 23 v0 rfl rfl) h0
  obtain ⟨a0_0, e0_0, rfl, w0_0⟩ := DataW.trod_int Tryd.underlying3 g0_0
  simp at e0_0; subst e0_0
  obtain ⟨a0_1, e0_1, rfl, w0_1⟩ := DataW.trod_int Tryd.underlying3 g0_1
  simp at e0_1; subst e0_1
  obtain ⟨a0_2, e0_2, rfl, w0_2⟩ := DataW.trod_int Tryd.underlying3 g0_2
  simp at e0_2; subst e0_2
  have k1 := h1
  have lt1 : ∀ x ∈ p1, x.block < W.heap.size := by obtain ⟨m, hm⟩ := k1; exact DataW.trod_lt m _ _ _ hm
  obtain ⟨a1, rfl, rfl, rfl, w1⟩ := open_int Tryd.underlying3 (hval 1 3 v1 rfl rfl) h1
  have k2 := h2
  have lt2 : ∀ x ∈ p2, x.block < W.heap.size := by obtain ⟨m, hm⟩ := k2; exact DataW.trod_lt m _ _ _ hm
  obtain ⟨a2, rfl, rfl, rfl, w2⟩ := open_int Tryd.underlying3 (hval 2 3 v2 rfl rfl) h2
  have k3 := h3
  have lt3 : ∀ x ∈ p3, x.block < W.heap.size := by obtain ⟨m, hm⟩ := k3; exact DataW.trod_lt m _ _ _ hm
  obtain ⟨a3, rfl, rfl, rfl, w3⟩ := open_int Tryd.underlying3 (hval 3 3 v3 rfl rfl) h3
  have k4 := h4
  have lt4 : ∀ x ∈ p4, x.block < W.heap.size := by obtain ⟨m, hm⟩ := k4; exact DataW.trod_lt m _ _ _ hm
  obtain ⟨a4, rfl, rfl, rfl, w4⟩ := open_int Tryd.underlying3 (hval 4 3 v4 rfl rfl) h4
  have k5 := h5
  have lt5 : ∀ x ∈ p5, x.block < W.heap.size := by obtain ⟨m, hm⟩ := k5; exact DataW.trod_lt m _ _ _ hm
  obtain ⟨a5, rfl, rfl, rfl, w5⟩ := open_int Tryd.underlying3 (hval 5 3 v5 rfl rfl) h5
  have k6 := h6
  have lt6 : ∀ x ∈ p6, x.block < W.heap.size := by obtain ⟨m, hm⟩ := k6; exact DataW.trod_lt m _ _ _ hm
  obtain ⟨a6, rfl, rfl, rfl, w6⟩ := open_int Tryd.underlying3 (hval 6 3 v6 rfl rfl) h6
  clear hA0 hval0
  refine (walk a0_0 a0_1 a0_2 a1 a2 a3 a4 a5 a6 W w0_0 w0_1 w0_2 w1 w2 w3 w4 w5 w6 hg).mono fun e W' ⟨he, bel⟩ => ?_
  subst he
  exact ⟨_, rfl, _, _, _, [], _, [], hW', trodAll_mk1 (shut_bool Tryd.underlying4 _), (trodAll_cons_mk (Below.trod laidOut (by kernel_rfl) (of_decide_eq_true (by kernel_rfl)) k0 bel lt0) (trodAll_cons_mk (Below.trod laidOut (by kernel_rfl) (of_decide_eq_true (by kernel_rfl)) k1 bel lt1) (trodAll_cons_mk (Below.trod laidOut (by kernel_rfl) (of_decide_eq_true (by kernel_rfl)) k2 bel lt2) (trodAll_cons_mk (Below.trod laidOut (by kernel_rfl) (of_decide_eq_true (by kernel_rfl)) k3 bel lt3) (trodAll_cons_mk (Below.trod laidOut (by kernel_rfl) (of_decide_eq_true (by kernel_rfl)) k4 bel lt4) (trodAll_cons_mk (Below.trod laidOut (by kernel_rfl) (of_decide_eq_true (by kernel_rfl)) k5 bel lt5) (trodAll_cons_mk (Below.trod laidOut (by kernel_rfl) (of_decide_eq_true (by kernel_rfl)) k6 bel lt6) trodAll_mk0))))))), rfl, bel.frame _, fun h => by cases h⟩

theorem over : Rows.tokenHoldsRow.holds Tryd.pinned (OpenSpec.ofChange Rows.tokenHoldsSpec) :=
  OpenClaim.holds_of_wide 5 Tryd.f5 rfl rfl rfl rfl rfl rfl rfl ⟨rfl, rfl, rfl, rfl, rfl⟩ rfl rfl rfl rfl rfl (by kernel_rfl) Tryd.func5 (by kernel_rfl)
    (of_decide_eq_true (by kernel_rfl)) (by unfold Func.isWrapper; first | (rw [if_pos (by decide +kernel)]; kernel_rfl) | (rw [if_neg (by decide +kernel)]; exact ⟨rfl, rfl⟩))
    (fun os started H enc _ => lifted os started H enc)

theorem card : Rows.TokenHoldsCardSaid :=
  Claim7.holds_tied_plain_at .later [] [.handle] true (true, "ae94f0243eb5a1da57b94b873cf515495c8440656b678c75f24e134e92a066a1") true
    over (fun _ h => by cases h) (by kernel_rfl) (fun _ h => by cases h) tokenHolds_row_tie rfl ⟨rfl, rfl⟩ (by kernel_rfl) rfl
    (fun f fn hf hfn => by
      obtain rfl : f = 5 := Option.some.inj ((show Tryd.prog.funcNamed "tokenfold/foldlaw1.TokenHolds" = some 5 by kernel_rfl).symm.trans hf) |>.symm
      obtain rfl : fn = Tryd.f5 := (Option.some.inj (Tryd.func5.symm.trans hfn)).symm
      exact ⟨by kernel_rfl, fun j t ht => by
        rw [Tryd.params5] at ht
        have hm : t ∈ [23, 3, 3, 3, 3, 3, 3] := by simpa using Array.mem_of_getElem? ht
        have hall : ([23, 3, 3, 3, 3, 3, 3].all fun u => !Tryd.prog.wantsStandIn u) = true := by kernel_rfl
        exact (show Tryd.prog.wantsStandIn t = false by simpa using List.all_eq_true.1 hall t hm)⟩)
    (by kernel_rfl)

end Go.Proofs.YtdbhkfanchjjbabDoor.tokenHolds
namespace Go.Proofs.YtdbhkfanchjjbabDoor
theorem tokenHolds_holds : Rows.TokenHoldsCardSaid := tokenHolds.card
#print axioms tokenHolds_holds
end Go.Proofs.YtdbhkfanchjjbabDoor

