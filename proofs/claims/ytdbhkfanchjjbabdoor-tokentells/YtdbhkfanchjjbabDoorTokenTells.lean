/-
  TokenTells holds for every ring, address, time, token, now and life: Make and Check of package token answer as the reference reckons, errors told by plain.Told. The listed variable errors.errorType starts as the program's text lays it (the card's tie). No other condition.
-/
import Derived.Test.YtdbhkfanchjjbabDoorRefToken
import Derived.Test.YtdbhkfanchjjbabDoorTokenWalks
import Derived.Test.YtdbhkfanchjjbabDoorHeld
import Derived.Test.YtdbhkfanchjjbabDoorTie
import Derived.Test.YtdbhkfanchjjbabDoorCards
import Derived.ProofKit
import Derived.Lib.SmallJoins
import Derived.LaidMore
import Derived.LaidHandle
import Derived.LaidLaws
import Derived.Stop.Joined
import Derived.SevenTiedAt
namespace Go.Proofs.YtdbhkfanchjjbabDoor.tokenTells
open Go.ChangeShapes Go.WideShapes Go.ChangeAt Go.RowKit Go.Joins
set_option linter.unusedVariables false

theorem own : ownKnob Tryd.prog.godebug = none := by kernel_rfl
theorem laidOut : laidOutB Tryd.prog = true := by kernel_rfl
def IsRow (k : IntKind) (w : World) (a : Option Addr) (len cap : Nat) (zs : List Int) : Prop :=
  (a = none ∧ len = 0 ∧ cap = 0 ∧ zs = []) ∨
  ∃ x, a = some x ∧ len ≤ cap ∧ cap ≤ maxLen ∧ zs.length = cap ∧ (∀ i, i < zs.length → w.cell? (x.add i) = some (.int k (zs.getD i 0))) ∧ ∀ n ∈ zs, (Lit.int k n).wf = true

attribute [local go_sem ↓] Go.wp_at_zero Go.wp_at_succ

/-- What a ring's and a token's cells hold, behind a call that leaves what lay below. -/
theorem reg_step {W W1 W2 : World} {c0 c1 c2 d0 d1 d2 d3 : Addr} {r0 r1 r2 t0 t1 t2 t3 : Value}
    (h : Hid (Below W.heap.size W W1) ∧ W1.cell? c0 = some r0 ∧ W1.cell? c1 = some r1 ∧ W1.cell? c2 = some r2 ∧ W1.cell? d0 = some t0 ∧ W1.cell? d1 = some t1 ∧ W1.cell? d2 = some t2 ∧ W1.cell? d3 = some t3) (hb : Below W1.heap.size W1 W2) :
    Hid (Below W.heap.size W W2) ∧ W2.cell? c0 = some r0 ∧ W2.cell? c1 = some r1 ∧ W2.cell? c2 = some r2 ∧ W2.cell? d0 = some t0 ∧ W2.cell? d1 = some t1 ∧ W2.cell? d2 = some t2 ∧ W2.cell? d3 = some t3 := by
  obtain ⟨h0, h1, h2, h3, h4, h5, h6, h7⟩ := h
  exact ⟨hide (Below.trans (unhide h0) (hb.mono (unhide h0).size)), cell_later hb h1, cell_later hb h2, cell_later hb h3, cell_later hb h4, cell_later hb h5, cell_later hb h6, cell_later hb h7⟩

set_option maxHeartbeats 6400000 in
set_option maxRecDepth 8000 in
theorem walk_bad (ep key old a b te ta tt tg now life ce g : Int) (p q : Bool) (w : World) (HG : Hid (ErrType w)) (hg0 : ¬ g = 0) 
    (CR : Hid (∀ w : World, Calls Tryd.prog 12 #[.agg #[.int .i64 ep, .int .i64 key, .int .i64 old]] w fun e w' => e = .returned (.int .i64 g) ∧ Below w.heap.size w w'))
    (CI : Hid (∀ w : World, Calls Tryd.prog 13 #[.int .i64 a] w fun e w' => e = .returned (.bool p) ∧ w' = w))
    (CJ : Hid (∀ w : World, Calls Tryd.prog 14 #[.int .i64 b] w fun e w' => e = .returned (.bool q) ∧ w' = w))
    (CM : Hid (∀ w : World, Calls Tryd.prog 16 #[.agg #[.int .i64 ep, .int .i64 key, .int .i64 old], .int .i64 a, .int .i64 b] w fun e w' => e = .returned (.tuple #[.agg #[.int .i64 0, .int .i64 0, .int .i64 0, .int .i64 0], errV g]) ∧ Below w.heap.size w w'))
    (CC : Hid (∀ w : World, Calls Tryd.prog 17 #[.agg #[.int .i64 ep, .int .i64 key, .int .i64 old], .agg #[.int .i64 te, .int .i64 ta, .int .i64 tt, .int .i64 tg], .int .i64 a, .int .i64 now, .int .i64 life] w fun e w' => e = .returned (errV ce) ∧ Below w.heap.size w w'))
    (CF : Hid (∀ w : World, Calls Tryd.prog 18 #[.agg #[.int .i64 ep, .int .i64 key, .int .i64 old], .agg #[.int .i64 te, .int .i64 ta, .int .i64 tt, .int .i64 tg], .int .i64 a, .int .i64 now, .int .i64 life] w fun e w' => e = .returned (.int .i64 ce) ∧ Below w.heap.size w w')) :
    Calls Tryd.prog 4 #[.agg #[.int .i64 ep, .int .i64 key, .int .i64 old], .int .i64 a, .int .i64 b, .agg #[.int .i64 te, .int .i64 ta, .int .i64 tt, .int .i64 tg], .int .i64 now, .int .i64 life] w fun e w' => e = .returned (.bool true) ∧ Below w.heap.size w w' := by
  have hgb : (g == 0) = false := by simp [hg0]
  clear hg0
  go_enter Tryd.func4, Tryd.ntmps4
  go_wp2_with fail
  refine (unhide CR _).mono ?_
  rintro e w1 ⟨rfl, hb1⟩
  have HR1 : Hid (Held w1 (w.heap.size) (n3 ep key old)) := hide (((Held.fresh (w := w) (n3 ep key old) 23 (by first | rfl | (simp; done))).later (by (repeat' (first | exact Below.refl _ _ | refine Below.alloc ?_ ?_ _ | refine Below.setCell ?_ ?_ _ | refine Below.drew ?_)); all_goals (first | exact Nat.le_refl _ | omega | (simp; done) | (simp; omega)))).later hb1)
  have HT1 : Hid (Held w1 (w.heap.size + 1) (n4 te ta tt tg)) := hide (((Held.fresh (w := w.alloc (.cells (n3 ep key old).toArray 23)) (n4 te ta tt tg) 33 (by first | rfl | (simp; done))).later (by (repeat' (first | exact Below.refl _ _ | refine Below.alloc ?_ ?_ _ | refine Below.setCell ?_ ?_ _ | refine Below.drew ?_)); all_goals (first | exact Nat.le_refl _ | omega | (simp; done) | (simp; omega)))).later hb1)
  have HB1 := hide (show Below w.heap.size w w1 from Below.trans (by (repeat' (first | exact Below.refl _ _ | refine Below.alloc ?_ ?_ _ | refine Below.setCell ?_ ?_ _ | refine Below.drew ?_)); all_goals (first | exact Nat.le_refl _ | omega | (simp; done) | (simp; omega))) (hb1.mono (by first | exact Nat.le_refl _ | (simp; done) | (simp; omega))))
  clear hb1
  go_wp2_with fail
  refine (unhide CI _).mono ?_
  rintro e w' ⟨rfl, hw⟩
  obtain rfl := hw.symm
  clear hw
  go_wp2_with fail
  refine (unhide CJ _).mono ?_
  rintro e w' ⟨rfl, hw⟩
  obtain rfl := hw.symm
  clear hw
  obtain ⟨r0, r1, r2⟩ := (unhide HR1).c3.1
  have rl := (unhide HR1).2
  go_wp2_with fail
  refine (unhide CM _).mono ?_
  rintro e w2 ⟨rfl, hb2⟩
  clear r0 r1 r2 rl
  have HR2 := hide (((unhide HR1).later (by (repeat' (first | exact Below.refl _ _ | refine Below.alloc ?_ ?_ _ | refine Below.setCell ?_ ?_ _ | refine Below.drew ?_)); all_goals (first | exact Nat.le_refl _ | omega | (simp; done) | (simp; omega)))).later hb2)
  have HT2 := hide (((unhide HT1).later (by (repeat' (first | exact Below.refl _ _ | refine Below.alloc ?_ ?_ _ | refine Below.setCell ?_ ?_ _ | refine Below.drew ?_)); all_goals (first | exact Nat.le_refl _ | omega | (simp; done) | (simp; omega)))).later hb2)
  have HV2 : Hid (Held w2 (w1.heap.size) (n4 0 0 0 0)) := hide (((Held.fresh (w := w1) (n4 0 0 0 0) 33 (by first | rfl | (simp; done))).later (by (repeat' (first | exact Below.refl _ _ | refine Below.alloc ?_ ?_ _ | refine Below.setCell ?_ ?_ _ | refine Below.drew ?_)); all_goals (first | exact Nat.le_refl _ | omega | (simp; done) | (simp; omega)))).later hb2)
  have HB2 := hide (show Below w.heap.size w w2 from (by have := (unhide HR1).2; have := (unhide HT1).2; have := (unhide HB1).size; exact Below.trans (by (repeat' (first | exact Below.refl _ _ | refine Below.alloc ?_ ?_ _ | refine Below.setCell ?_ ?_ _ | refine Below.drew ?_ | refine Below.trans ?_ (Below.mono (unhide HB1) ?_))); all_goals (first | exact Nat.le_refl _ | omega | (simp; done) | (simp; omega))) (hb2.mono (by first | omega | (simp; done) | (simp; omega)))))
  clear hb2
  go_wp2_with fail
  refine (same_any _ _ _ ((unhide HG).later (by have := (unhide HB2).size; exact (by (repeat' (first | exact Below.refl _ _ | refine Below.alloc ?_ ?_ _ | refine Below.setCell ?_ ?_ _ | refine Below.drew ?_ | refine Below.trans ?_ (Below.mono (unhide HB2) ?_))); all_goals (first | exact Nat.le_refl _ | omega | (simp; done) | (simp; omega)))))).mono ?_
  rintro e w3 ⟨rfl, hb3⟩
  have HR3 := hide (((unhide HR2).later (by (repeat' (first | exact Below.refl _ _ | refine Below.alloc ?_ ?_ _ | refine Below.setCell ?_ ?_ _ | refine Below.drew ?_)); all_goals (first | exact Nat.le_refl _ | omega | (simp; done) | (simp; omega)))).later hb3)
  have HT3 := hide (((unhide HT2).later (by (repeat' (first | exact Below.refl _ _ | refine Below.alloc ?_ ?_ _ | refine Below.setCell ?_ ?_ _ | refine Below.drew ?_)); all_goals (first | exact Nat.le_refl _ | omega | (simp; done) | (simp; omega)))).later hb3)
  have HV3 := hide (((unhide HV2).later (by (repeat' (first | exact Below.refl _ _ | refine Below.alloc ?_ ?_ _ | refine Below.setCell ?_ ?_ _ | refine Below.drew ?_)); all_goals (first | exact Nat.le_refl _ | omega | (simp; done) | (simp; omega)))).later hb3)
  have HX3 : Hid (Held w3 (w2.heap.size) (n4 0 0 0 0)) := hide ((Held.fresh (n4 0 0 0 0) _ (by first | rfl | (simp; done))).later hb3)
  have HB3 := hide (show Below w.heap.size w w3 from (by have := (unhide HR1).2; have := (unhide HT1).2; have := (unhide HB2).size; exact Below.trans (by (repeat' (first | exact Below.refl _ _ | refine Below.alloc ?_ ?_ _ | refine Below.setCell ?_ ?_ _ | refine Below.drew ?_ | refine Below.trans ?_ (Below.mono (unhide HB2) ?_))); all_goals (first | exact Nat.le_refl _ | omega | (simp; done) | (simp; omega))) (hb3.mono (by first | omega | (simp; done) | (simp; omega)))))
  clear hb3
  obtain ⟨r0, r1, r2⟩ := (unhide HR3).c3.1
  have rl := (unhide HR3).2
  obtain ⟨t0, t1, t2, t3⟩ := (unhide HT3).c4.1
  have tl := (unhide HT3).2
  obtain ⟨v0, v1, v2, v3⟩ := (unhide HV3).c4.1
  have vl := (unhide HV3).2
  obtain ⟨x0, x1, x2, x3⟩ := (unhide HX3).c4.1
  have xl := (unhide HX3).2
  go_wp2
  go_region_held3 (fun w' => Hid (Below w3.heap.size w3 w') ∧ w'.cell? ⟨w.heap.size, 0, none⟩ = some (.int .i64 ep) ∧ w'.cell? ⟨w.heap.size, 1, none⟩ = some (.int .i64 key) ∧ w'.cell? ⟨w.heap.size, 2, none⟩ = some (.int .i64 old) ∧ w'.cell? ⟨w.heap.size + 1, 0, none⟩ = some (.int .i64 te) ∧ w'.cell? ⟨w.heap.size + 1, 1, none⟩ = some (.int .i64 ta) ∧ w'.cell? ⟨w.heap.size + 1, 2, none⟩ = some (.int .i64 tt) ∧ w'.cell? ⟨w.heap.size + 1, 3, none⟩ = some (.int .i64 tg)) (first | exact reg_step (by assumption) hb | exact ⟨hide ((Below.refl _ _).drew), by rw [World.cell?_drew]; exact r0, by rw [World.cell?_drew]; exact r1, by rw [World.cell?_drew]; exact r2, by rw [World.cell?_drew]; exact t0, by rw [World.cell?_drew]; exact t1, by rw [World.cell?_drew]; exact t2, by rw [World.cell?_drew]; exact t3⟩)
    (first | (go_at_call 17; refine (unhide CC _).mono ?_; rintro e w' ⟨rfl, hb⟩) | (go_at_call 18; refine (unhide CF _).mono ?_; rintro e w' ⟨rfl, hb⟩) | (go_at_call 11; refine (same_any _ _ _ ((unhide HG).later (Below.trans (unhide HB3) ((unhide (And.left ‹Hid (Below w3.heap.size w3 _) ∧ _›)).mono (unhide HB3).size)))).mono ?_; rintro e w' ⟨rfl, hb⟩))
  go_wp2
  go_ret
  exact ⟨rfl, Below.trans (unhide HB3) ((unhide (And.left ‹Hid (Below w3.heap.size w3 _) ∧ _›)).mono (unhide HB3).size)⟩

set_option maxHeartbeats 6400000 in
set_option maxRecDepth 8000 in
theorem walk_p (ep key old a b te ta tt tg now life ce : Int) (q : Bool) (w : World) (HG : Hid (ErrType w)) 
    (CR : Hid (∀ w : World, Calls Tryd.prog 12 #[.agg #[.int .i64 ep, .int .i64 key, .int .i64 old]] w fun e w' => e = .returned (.int .i64 0) ∧ Below w.heap.size w w'))
    (CI : Hid (∀ w : World, Calls Tryd.prog 13 #[.int .i64 a] w fun e w' => e = .returned (.bool false) ∧ w' = w))
    (CJ : Hid (∀ w : World, Calls Tryd.prog 14 #[.int .i64 b] w fun e w' => e = .returned (.bool q) ∧ w' = w))
    (CM : Hid (∀ w : World, Calls Tryd.prog 16 #[.agg #[.int .i64 ep, .int .i64 key, .int .i64 old], .int .i64 a, .int .i64 b] w fun e w' => e = .returned (.tuple #[.agg #[.int .i64 0, .int .i64 0, .int .i64 0, .int .i64 0], errV 1]) ∧ Below w.heap.size w w'))
    (CC : Hid (∀ w : World, Calls Tryd.prog 17 #[.agg #[.int .i64 ep, .int .i64 key, .int .i64 old], .agg #[.int .i64 te, .int .i64 ta, .int .i64 tt, .int .i64 tg], .int .i64 a, .int .i64 now, .int .i64 life] w fun e w' => e = .returned (errV ce) ∧ Below w.heap.size w w'))
    (CF : Hid (∀ w : World, Calls Tryd.prog 18 #[.agg #[.int .i64 ep, .int .i64 key, .int .i64 old], .agg #[.int .i64 te, .int .i64 ta, .int .i64 tt, .int .i64 tg], .int .i64 a, .int .i64 now, .int .i64 life] w fun e w' => e = .returned (.int .i64 ce) ∧ Below w.heap.size w w')) :
    Calls Tryd.prog 4 #[.agg #[.int .i64 ep, .int .i64 key, .int .i64 old], .int .i64 a, .int .i64 b, .agg #[.int .i64 te, .int .i64 ta, .int .i64 tt, .int .i64 tg], .int .i64 now, .int .i64 life] w fun e w' => e = .returned (.bool true) ∧ Below w.heap.size w w' := by
  go_enter Tryd.func4, Tryd.ntmps4
  go_wp2_with fail
  refine (unhide CR _).mono ?_
  rintro e w1 ⟨rfl, hb1⟩
  have HR1 : Hid (Held w1 (w.heap.size) (n3 ep key old)) := hide (((Held.fresh (w := w) (n3 ep key old) 23 (by first | rfl | (simp; done))).later (by (repeat' (first | exact Below.refl _ _ | refine Below.alloc ?_ ?_ _ | refine Below.setCell ?_ ?_ _ | refine Below.drew ?_)); all_goals (first | exact Nat.le_refl _ | omega | (simp; done) | (simp; omega)))).later hb1)
  have HT1 : Hid (Held w1 (w.heap.size + 1) (n4 te ta tt tg)) := hide (((Held.fresh (w := w.alloc (.cells (n3 ep key old).toArray 23)) (n4 te ta tt tg) 33 (by first | rfl | (simp; done))).later (by (repeat' (first | exact Below.refl _ _ | refine Below.alloc ?_ ?_ _ | refine Below.setCell ?_ ?_ _ | refine Below.drew ?_)); all_goals (first | exact Nat.le_refl _ | omega | (simp; done) | (simp; omega)))).later hb1)
  have HB1 := hide (show Below w.heap.size w w1 from Below.trans (by (repeat' (first | exact Below.refl _ _ | refine Below.alloc ?_ ?_ _ | refine Below.setCell ?_ ?_ _ | refine Below.drew ?_)); all_goals (first | exact Nat.le_refl _ | omega | (simp; done) | (simp; omega))) (hb1.mono (by first | exact Nat.le_refl _ | (simp; done) | (simp; omega))))
  clear hb1
  go_wp2_with fail
  refine (unhide CI _).mono ?_
  rintro e w' ⟨rfl, hw⟩
  obtain rfl := hw.symm
  clear hw
  go_wp2_with fail
  refine (unhide CJ _).mono ?_
  rintro e w' ⟨rfl, hw⟩
  obtain rfl := hw.symm
  clear hw
  obtain ⟨r0, r1, r2⟩ := (unhide HR1).c3.1
  have rl := (unhide HR1).2
  go_wp2_with fail
  refine (unhide CM _).mono ?_
  rintro e w2 ⟨rfl, hb2⟩
  clear r0 r1 r2 rl
  have HR2 := hide (((unhide HR1).later (by (repeat' (first | exact Below.refl _ _ | refine Below.alloc ?_ ?_ _ | refine Below.setCell ?_ ?_ _ | refine Below.drew ?_)); all_goals (first | exact Nat.le_refl _ | omega | (simp; done) | (simp; omega)))).later hb2)
  have HT2 := hide (((unhide HT1).later (by (repeat' (first | exact Below.refl _ _ | refine Below.alloc ?_ ?_ _ | refine Below.setCell ?_ ?_ _ | refine Below.drew ?_)); all_goals (first | exact Nat.le_refl _ | omega | (simp; done) | (simp; omega)))).later hb2)
  have HV2 : Hid (Held w2 (w1.heap.size) (n4 0 0 0 0)) := hide (((Held.fresh (w := w1) (n4 0 0 0 0) 33 (by first | rfl | (simp; done))).later (by (repeat' (first | exact Below.refl _ _ | refine Below.alloc ?_ ?_ _ | refine Below.setCell ?_ ?_ _ | refine Below.drew ?_)); all_goals (first | exact Nat.le_refl _ | omega | (simp; done) | (simp; omega)))).later hb2)
  have HB2 := hide (show Below w.heap.size w w2 from (by have := (unhide HR1).2; have := (unhide HT1).2; have := (unhide HB1).size; exact Below.trans (by (repeat' (first | exact Below.refl _ _ | refine Below.alloc ?_ ?_ _ | refine Below.setCell ?_ ?_ _ | refine Below.drew ?_ | refine Below.trans ?_ (Below.mono (unhide HB1) ?_))); all_goals (first | exact Nat.le_refl _ | omega | (simp; done) | (simp; omega))) (hb2.mono (by first | omega | (simp; done) | (simp; omega)))))
  clear hb2
  go_wp2_with fail
  refine (same_any _ _ _ ((unhide HG).later (by have := (unhide HB2).size; exact (by (repeat' (first | exact Below.refl _ _ | refine Below.alloc ?_ ?_ _ | refine Below.setCell ?_ ?_ _ | refine Below.drew ?_ | refine Below.trans ?_ (Below.mono (unhide HB2) ?_))); all_goals (first | exact Nat.le_refl _ | omega | (simp; done) | (simp; omega)))))).mono ?_
  rintro e w3 ⟨rfl, hb3⟩
  have HR3 := hide (((unhide HR2).later (by (repeat' (first | exact Below.refl _ _ | refine Below.alloc ?_ ?_ _ | refine Below.setCell ?_ ?_ _ | refine Below.drew ?_)); all_goals (first | exact Nat.le_refl _ | omega | (simp; done) | (simp; omega)))).later hb3)
  have HT3 := hide (((unhide HT2).later (by (repeat' (first | exact Below.refl _ _ | refine Below.alloc ?_ ?_ _ | refine Below.setCell ?_ ?_ _ | refine Below.drew ?_)); all_goals (first | exact Nat.le_refl _ | omega | (simp; done) | (simp; omega)))).later hb3)
  have HV3 := hide (((unhide HV2).later (by (repeat' (first | exact Below.refl _ _ | refine Below.alloc ?_ ?_ _ | refine Below.setCell ?_ ?_ _ | refine Below.drew ?_)); all_goals (first | exact Nat.le_refl _ | omega | (simp; done) | (simp; omega)))).later hb3)
  have HX3 : Hid (Held w3 (w2.heap.size) (n4 0 0 0 0)) := hide ((Held.fresh (n4 0 0 0 0) _ (by first | rfl | (simp; done))).later hb3)
  have HB3 := hide (show Below w.heap.size w w3 from (by have := (unhide HR1).2; have := (unhide HT1).2; have := (unhide HB2).size; exact Below.trans (by (repeat' (first | exact Below.refl _ _ | refine Below.alloc ?_ ?_ _ | refine Below.setCell ?_ ?_ _ | refine Below.drew ?_ | refine Below.trans ?_ (Below.mono (unhide HB2) ?_))); all_goals (first | exact Nat.le_refl _ | omega | (simp; done) | (simp; omega))) (hb3.mono (by first | omega | (simp; done) | (simp; omega)))))
  clear hb3
  obtain ⟨r0, r1, r2⟩ := (unhide HR3).c3.1
  have rl := (unhide HR3).2
  obtain ⟨t0, t1, t2, t3⟩ := (unhide HT3).c4.1
  have tl := (unhide HT3).2
  obtain ⟨v0, v1, v2, v3⟩ := (unhide HV3).c4.1
  have vl := (unhide HV3).2
  obtain ⟨x0, x1, x2, x3⟩ := (unhide HX3).c4.1
  have xl := (unhide HX3).2
  go_wp2
  go_region_held3 (fun w' => Hid (Below w3.heap.size w3 w') ∧ w'.cell? ⟨w.heap.size, 0, none⟩ = some (.int .i64 ep) ∧ w'.cell? ⟨w.heap.size, 1, none⟩ = some (.int .i64 key) ∧ w'.cell? ⟨w.heap.size, 2, none⟩ = some (.int .i64 old) ∧ w'.cell? ⟨w.heap.size + 1, 0, none⟩ = some (.int .i64 te) ∧ w'.cell? ⟨w.heap.size + 1, 1, none⟩ = some (.int .i64 ta) ∧ w'.cell? ⟨w.heap.size + 1, 2, none⟩ = some (.int .i64 tt) ∧ w'.cell? ⟨w.heap.size + 1, 3, none⟩ = some (.int .i64 tg)) (first | exact reg_step (by assumption) hb | exact ⟨hide ((Below.refl _ _).drew), by rw [World.cell?_drew]; exact r0, by rw [World.cell?_drew]; exact r1, by rw [World.cell?_drew]; exact r2, by rw [World.cell?_drew]; exact t0, by rw [World.cell?_drew]; exact t1, by rw [World.cell?_drew]; exact t2, by rw [World.cell?_drew]; exact t3⟩)
    (first | (go_at_call 17; refine (unhide CC _).mono ?_; rintro e w' ⟨rfl, hb⟩) | (go_at_call 18; refine (unhide CF _).mono ?_; rintro e w' ⟨rfl, hb⟩) | (go_at_call 11; refine (same_any _ _ _ ((unhide HG).later (Below.trans (unhide HB3) ((unhide (And.left ‹Hid (Below w3.heap.size w3 _) ∧ _›)).mono (unhide HB3).size)))).mono ?_; rintro e w' ⟨rfl, hb⟩))
  go_wp2
  go_ret
  exact ⟨rfl, Below.trans (unhide HB3) ((unhide (And.left ‹Hid (Below w3.heap.size w3 _) ∧ _›)).mono (unhide HB3).size)⟩

set_option maxHeartbeats 6400000 in
set_option maxRecDepth 8000 in
theorem walk_q (ep key old a b te ta tt tg now life ce : Int) (w : World) (HG : Hid (ErrType w)) 
    (CR : Hid (∀ w : World, Calls Tryd.prog 12 #[.agg #[.int .i64 ep, .int .i64 key, .int .i64 old]] w fun e w' => e = .returned (.int .i64 0) ∧ Below w.heap.size w w'))
    (CI : Hid (∀ w : World, Calls Tryd.prog 13 #[.int .i64 a] w fun e w' => e = .returned (.bool true) ∧ w' = w))
    (CJ : Hid (∀ w : World, Calls Tryd.prog 14 #[.int .i64 b] w fun e w' => e = .returned (.bool false) ∧ w' = w))
    (CM : Hid (∀ w : World, Calls Tryd.prog 16 #[.agg #[.int .i64 ep, .int .i64 key, .int .i64 old], .int .i64 a, .int .i64 b] w fun e w' => e = .returned (.tuple #[.agg #[.int .i64 0, .int .i64 0, .int .i64 0, .int .i64 0], errV 1]) ∧ Below w.heap.size w w'))
    (CC : Hid (∀ w : World, Calls Tryd.prog 17 #[.agg #[.int .i64 ep, .int .i64 key, .int .i64 old], .agg #[.int .i64 te, .int .i64 ta, .int .i64 tt, .int .i64 tg], .int .i64 a, .int .i64 now, .int .i64 life] w fun e w' => e = .returned (errV ce) ∧ Below w.heap.size w w'))
    (CF : Hid (∀ w : World, Calls Tryd.prog 18 #[.agg #[.int .i64 ep, .int .i64 key, .int .i64 old], .agg #[.int .i64 te, .int .i64 ta, .int .i64 tt, .int .i64 tg], .int .i64 a, .int .i64 now, .int .i64 life] w fun e w' => e = .returned (.int .i64 ce) ∧ Below w.heap.size w w')) :
    Calls Tryd.prog 4 #[.agg #[.int .i64 ep, .int .i64 key, .int .i64 old], .int .i64 a, .int .i64 b, .agg #[.int .i64 te, .int .i64 ta, .int .i64 tt, .int .i64 tg], .int .i64 now, .int .i64 life] w fun e w' => e = .returned (.bool true) ∧ Below w.heap.size w w' := by
  go_enter Tryd.func4, Tryd.ntmps4
  go_wp2_with fail
  refine (unhide CR _).mono ?_
  rintro e w1 ⟨rfl, hb1⟩
  have HR1 : Hid (Held w1 (w.heap.size) (n3 ep key old)) := hide (((Held.fresh (w := w) (n3 ep key old) 23 (by first | rfl | (simp; done))).later (by (repeat' (first | exact Below.refl _ _ | refine Below.alloc ?_ ?_ _ | refine Below.setCell ?_ ?_ _ | refine Below.drew ?_)); all_goals (first | exact Nat.le_refl _ | omega | (simp; done) | (simp; omega)))).later hb1)
  have HT1 : Hid (Held w1 (w.heap.size + 1) (n4 te ta tt tg)) := hide (((Held.fresh (w := w.alloc (.cells (n3 ep key old).toArray 23)) (n4 te ta tt tg) 33 (by first | rfl | (simp; done))).later (by (repeat' (first | exact Below.refl _ _ | refine Below.alloc ?_ ?_ _ | refine Below.setCell ?_ ?_ _ | refine Below.drew ?_)); all_goals (first | exact Nat.le_refl _ | omega | (simp; done) | (simp; omega)))).later hb1)
  have HB1 := hide (show Below w.heap.size w w1 from Below.trans (by (repeat' (first | exact Below.refl _ _ | refine Below.alloc ?_ ?_ _ | refine Below.setCell ?_ ?_ _ | refine Below.drew ?_)); all_goals (first | exact Nat.le_refl _ | omega | (simp; done) | (simp; omega))) (hb1.mono (by first | exact Nat.le_refl _ | (simp; done) | (simp; omega))))
  clear hb1
  go_wp2_with fail
  refine (unhide CI _).mono ?_
  rintro e w' ⟨rfl, hw⟩
  obtain rfl := hw.symm
  clear hw
  go_wp2_with fail
  refine (unhide CJ _).mono ?_
  rintro e w' ⟨rfl, hw⟩
  obtain rfl := hw.symm
  clear hw
  obtain ⟨r0, r1, r2⟩ := (unhide HR1).c3.1
  have rl := (unhide HR1).2
  go_wp2_with fail
  refine (unhide CM _).mono ?_
  rintro e w2 ⟨rfl, hb2⟩
  clear r0 r1 r2 rl
  have HR2 := hide (((unhide HR1).later (by (repeat' (first | exact Below.refl _ _ | refine Below.alloc ?_ ?_ _ | refine Below.setCell ?_ ?_ _ | refine Below.drew ?_)); all_goals (first | exact Nat.le_refl _ | omega | (simp; done) | (simp; omega)))).later hb2)
  have HT2 := hide (((unhide HT1).later (by (repeat' (first | exact Below.refl _ _ | refine Below.alloc ?_ ?_ _ | refine Below.setCell ?_ ?_ _ | refine Below.drew ?_)); all_goals (first | exact Nat.le_refl _ | omega | (simp; done) | (simp; omega)))).later hb2)
  have HV2 : Hid (Held w2 (w1.heap.size) (n4 0 0 0 0)) := hide (((Held.fresh (w := w1) (n4 0 0 0 0) 33 (by first | rfl | (simp; done))).later (by (repeat' (first | exact Below.refl _ _ | refine Below.alloc ?_ ?_ _ | refine Below.setCell ?_ ?_ _ | refine Below.drew ?_)); all_goals (first | exact Nat.le_refl _ | omega | (simp; done) | (simp; omega)))).later hb2)
  have HB2 := hide (show Below w.heap.size w w2 from (by have := (unhide HR1).2; have := (unhide HT1).2; have := (unhide HB1).size; exact Below.trans (by (repeat' (first | exact Below.refl _ _ | refine Below.alloc ?_ ?_ _ | refine Below.setCell ?_ ?_ _ | refine Below.drew ?_ | refine Below.trans ?_ (Below.mono (unhide HB1) ?_))); all_goals (first | exact Nat.le_refl _ | omega | (simp; done) | (simp; omega))) (hb2.mono (by first | omega | (simp; done) | (simp; omega)))))
  clear hb2
  go_wp2_with fail
  refine (same_any _ _ _ ((unhide HG).later (by have := (unhide HB2).size; exact (by (repeat' (first | exact Below.refl _ _ | refine Below.alloc ?_ ?_ _ | refine Below.setCell ?_ ?_ _ | refine Below.drew ?_ | refine Below.trans ?_ (Below.mono (unhide HB2) ?_))); all_goals (first | exact Nat.le_refl _ | omega | (simp; done) | (simp; omega)))))).mono ?_
  rintro e w3 ⟨rfl, hb3⟩
  have HR3 := hide (((unhide HR2).later (by (repeat' (first | exact Below.refl _ _ | refine Below.alloc ?_ ?_ _ | refine Below.setCell ?_ ?_ _ | refine Below.drew ?_)); all_goals (first | exact Nat.le_refl _ | omega | (simp; done) | (simp; omega)))).later hb3)
  have HT3 := hide (((unhide HT2).later (by (repeat' (first | exact Below.refl _ _ | refine Below.alloc ?_ ?_ _ | refine Below.setCell ?_ ?_ _ | refine Below.drew ?_)); all_goals (first | exact Nat.le_refl _ | omega | (simp; done) | (simp; omega)))).later hb3)
  have HV3 := hide (((unhide HV2).later (by (repeat' (first | exact Below.refl _ _ | refine Below.alloc ?_ ?_ _ | refine Below.setCell ?_ ?_ _ | refine Below.drew ?_)); all_goals (first | exact Nat.le_refl _ | omega | (simp; done) | (simp; omega)))).later hb3)
  have HX3 : Hid (Held w3 (w2.heap.size) (n4 0 0 0 0)) := hide ((Held.fresh (n4 0 0 0 0) _ (by first | rfl | (simp; done))).later hb3)
  have HB3 := hide (show Below w.heap.size w w3 from (by have := (unhide HR1).2; have := (unhide HT1).2; have := (unhide HB2).size; exact Below.trans (by (repeat' (first | exact Below.refl _ _ | refine Below.alloc ?_ ?_ _ | refine Below.setCell ?_ ?_ _ | refine Below.drew ?_ | refine Below.trans ?_ (Below.mono (unhide HB2) ?_))); all_goals (first | exact Nat.le_refl _ | omega | (simp; done) | (simp; omega))) (hb3.mono (by first | omega | (simp; done) | (simp; omega)))))
  clear hb3
  obtain ⟨r0, r1, r2⟩ := (unhide HR3).c3.1
  have rl := (unhide HR3).2
  obtain ⟨t0, t1, t2, t3⟩ := (unhide HT3).c4.1
  have tl := (unhide HT3).2
  obtain ⟨v0, v1, v2, v3⟩ := (unhide HV3).c4.1
  have vl := (unhide HV3).2
  obtain ⟨x0, x1, x2, x3⟩ := (unhide HX3).c4.1
  have xl := (unhide HX3).2
  go_wp2
  go_region_held3 (fun w' => Hid (Below w3.heap.size w3 w') ∧ w'.cell? ⟨w.heap.size, 0, none⟩ = some (.int .i64 ep) ∧ w'.cell? ⟨w.heap.size, 1, none⟩ = some (.int .i64 key) ∧ w'.cell? ⟨w.heap.size, 2, none⟩ = some (.int .i64 old) ∧ w'.cell? ⟨w.heap.size + 1, 0, none⟩ = some (.int .i64 te) ∧ w'.cell? ⟨w.heap.size + 1, 1, none⟩ = some (.int .i64 ta) ∧ w'.cell? ⟨w.heap.size + 1, 2, none⟩ = some (.int .i64 tt) ∧ w'.cell? ⟨w.heap.size + 1, 3, none⟩ = some (.int .i64 tg)) (first | exact reg_step (by assumption) hb | exact ⟨hide ((Below.refl _ _).drew), by rw [World.cell?_drew]; exact r0, by rw [World.cell?_drew]; exact r1, by rw [World.cell?_drew]; exact r2, by rw [World.cell?_drew]; exact t0, by rw [World.cell?_drew]; exact t1, by rw [World.cell?_drew]; exact t2, by rw [World.cell?_drew]; exact t3⟩)
    (first | (go_at_call 17; refine (unhide CC _).mono ?_; rintro e w' ⟨rfl, hb⟩) | (go_at_call 18; refine (unhide CF _).mono ?_; rintro e w' ⟨rfl, hb⟩) | (go_at_call 11; refine (same_any _ _ _ ((unhide HG).later (Below.trans (unhide HB3) ((unhide (And.left ‹Hid (Below w3.heap.size w3 _) ∧ _›)).mono (unhide HB3).size)))).mono ?_; rintro e w' ⟨rfl, hb⟩))
  go_wp2
  go_ret
  exact ⟨rfl, Below.trans (unhide HB3) ((unhide (And.left ‹Hid (Below w3.heap.size w3 _) ∧ _›)).mono (unhide HB3).size)⟩

set_option maxHeartbeats 6400000 in
set_option maxRecDepth 8000 in
theorem walk_good (ep key old a b te ta tt tg now life ce x : Int) (w : World) (HG : Hid (ErrType w)) 
    (CR : Hid (∀ w : World, Calls Tryd.prog 12 #[.agg #[.int .i64 ep, .int .i64 key, .int .i64 old]] w fun e w' => e = .returned (.int .i64 0) ∧ Below w.heap.size w w'))
    (CI : Hid (∀ w : World, Calls Tryd.prog 13 #[.int .i64 a] w fun e w' => e = .returned (.bool true) ∧ w' = w))
    (CJ : Hid (∀ w : World, Calls Tryd.prog 14 #[.int .i64 b] w fun e w' => e = .returned (.bool true) ∧ w' = w))
    (CM : Hid (∀ w : World, Calls Tryd.prog 16 #[.agg #[.int .i64 ep, .int .i64 key, .int .i64 old], .int .i64 a, .int .i64 b] w fun e w' => e = .returned (.tuple #[.agg #[.int .i64 ep, .int .i64 a, .int .i64 b, .int .i64 x], errV 0]) ∧ Below w.heap.size w w'))
    (CC : Hid (∀ w : World, Calls Tryd.prog 17 #[.agg #[.int .i64 ep, .int .i64 key, .int .i64 old], .agg #[.int .i64 te, .int .i64 ta, .int .i64 tt, .int .i64 tg], .int .i64 a, .int .i64 now, .int .i64 life] w fun e w' => e = .returned (errV ce) ∧ Below w.heap.size w w'))
    (CF : Hid (∀ w : World, Calls Tryd.prog 18 #[.agg #[.int .i64 ep, .int .i64 key, .int .i64 old], .agg #[.int .i64 te, .int .i64 ta, .int .i64 tt, .int .i64 tg], .int .i64 a, .int .i64 now, .int .i64 life] w fun e w' => e = .returned (.int .i64 ce) ∧ Below w.heap.size w w'))
    (CG : Hid (∀ (c : Nat) (w : World), w.cell? ⟨c, 0, none⟩ = some (.int .i64 1) → w.cell? ⟨c, 1, none⟩ = some (.int .i64 a) → w.cell? ⟨c, 2, none⟩ = some (.int .i64 b) → Calls Tryd.prog 15 #[.int .i64 key, .slice (some ⟨c, 0, none⟩) 3 3] w fun e w' => e = .returned (.int .i64 x) ∧ w' = w)) :
    Calls Tryd.prog 4 #[.agg #[.int .i64 ep, .int .i64 key, .int .i64 old], .int .i64 a, .int .i64 b, .agg #[.int .i64 te, .int .i64 ta, .int .i64 tt, .int .i64 tg], .int .i64 now, .int .i64 life] w fun e w' => e = .returned (.bool true) ∧ Below w.heap.size w w' := by
  go_enter Tryd.func4, Tryd.ntmps4
  go_wp2_with fail
  refine (unhide CR _).mono ?_
  rintro e w1 ⟨rfl, hb1⟩
  have HR1 : Hid (Held w1 (w.heap.size) (n3 ep key old)) := hide (((Held.fresh (w := w) (n3 ep key old) 23 (by first | rfl | (simp; done))).later (by (repeat' (first | exact Below.refl _ _ | refine Below.alloc ?_ ?_ _ | refine Below.setCell ?_ ?_ _ | refine Below.drew ?_)); all_goals (first | exact Nat.le_refl _ | omega | (simp; done) | (simp; omega)))).later hb1)
  have HT1 : Hid (Held w1 (w.heap.size + 1) (n4 te ta tt tg)) := hide (((Held.fresh (w := w.alloc (.cells (n3 ep key old).toArray 23)) (n4 te ta tt tg) 33 (by first | rfl | (simp; done))).later (by (repeat' (first | exact Below.refl _ _ | refine Below.alloc ?_ ?_ _ | refine Below.setCell ?_ ?_ _ | refine Below.drew ?_)); all_goals (first | exact Nat.le_refl _ | omega | (simp; done) | (simp; omega)))).later hb1)
  have HB1 := hide (show Below w.heap.size w w1 from Below.trans (by (repeat' (first | exact Below.refl _ _ | refine Below.alloc ?_ ?_ _ | refine Below.setCell ?_ ?_ _ | refine Below.drew ?_)); all_goals (first | exact Nat.le_refl _ | omega | (simp; done) | (simp; omega))) (hb1.mono (by first | exact Nat.le_refl _ | (simp; done) | (simp; omega))))
  clear hb1
  go_wp2_with fail
  refine (unhide CI _).mono ?_
  rintro e w' ⟨rfl, hw⟩
  obtain rfl := hw.symm
  clear hw
  go_wp2_with fail
  refine (unhide CJ _).mono ?_
  rintro e w' ⟨rfl, hw⟩
  obtain rfl := hw.symm
  clear hw
  obtain ⟨r0, r1, r2⟩ := (unhide HR1).c3.1
  have rl := (unhide HR1).2
  have ne1 : ¬ w1.heap.size = w.heap.size := by have := (unhide HR1).2; omega
  go_wp2
  go_region_held3 (fun w' => w'.cell? ⟨w.heap.size, 0, none⟩ = some (.int .i64 ep) ∧ w'.cell? ⟨w.heap.size, 1, none⟩ = some (.int .i64 key)) (go_keep)
    (first | (go_at_call 15; refine (unhide CG _ _ (by first | (rw [World.cell?_alloc_at _ _ _ _ (by simp)]; rfl) | (rw [World.cell?_drew, World.cell?_alloc_at _ _ _ _ (by simp)]; rfl)) (by first | (rw [World.cell?_alloc_at _ _ _ _ (by simp)]; rfl) | (rw [World.cell?_drew, World.cell?_alloc_at _ _ _ _ (by simp)]; rfl)) (by first | (rw [World.cell?_alloc_at _ _ _ _ (by simp)]; rfl) | (rw [World.cell?_drew, World.cell?_alloc_at _ _ _ _ (by simp)]; rfl))).mono ?_; rintro e w' ⟨rfl, rfl⟩))
  clear ne1
  go_wp2_with fail
  refine (unhide CM _).mono ?_
  rintro e w2 ⟨rfl, hb2⟩
  clear r0 r1 r2 rl
  have HR2 := hide (((unhide HR1).later (by (repeat' (first | exact Below.refl _ _ | refine Below.alloc ?_ ?_ _ | refine Below.setCell ?_ ?_ _ | refine Below.drew ?_)); all_goals (first | exact Nat.le_refl _ | omega | (simp; done) | (simp; omega)))).later hb2)
  have HT2 := hide (((unhide HT1).later (by (repeat' (first | exact Below.refl _ _ | refine Below.alloc ?_ ?_ _ | refine Below.setCell ?_ ?_ _ | refine Below.drew ?_)); all_goals (first | exact Nat.le_refl _ | omega | (simp; done) | (simp; omega)))).later hb2)
  have HV2 : Hid (Held w2 (w1.heap.size) (n4 ep a b x)) := hide (((Held.fresh (w := w1) (n4 ep a b x) 33 (by first | rfl | (simp; done))).later (by (repeat' (first | exact Below.refl _ _ | refine Below.alloc ?_ ?_ _ | refine Below.setCell ?_ ?_ _ | refine Below.drew ?_)); all_goals (first | exact Nat.le_refl _ | omega | (simp; done) | (simp; omega)))).later hb2)
  have HB2 := hide (show Below w.heap.size w w2 from (by have := (unhide HR1).2; have := (unhide HT1).2; have := (unhide HB1).size; exact Below.trans (by (repeat' (first | exact Below.refl _ _ | refine Below.alloc ?_ ?_ _ | refine Below.setCell ?_ ?_ _ | refine Below.drew ?_ | refine Below.trans ?_ (Below.mono (unhide HB1) ?_))); all_goals (first | exact Nat.le_refl _ | omega | (simp; done) | (simp; omega))) (hb2.mono (by first | omega | (simp; done) | (simp; omega)))))
  clear hb2
  go_wp2_with fail
  refine (same_any _ _ _ ((unhide HG).later (by have := (unhide HB2).size; exact (by (repeat' (first | exact Below.refl _ _ | refine Below.alloc ?_ ?_ _ | refine Below.setCell ?_ ?_ _ | refine Below.drew ?_ | refine Below.trans ?_ (Below.mono (unhide HB2) ?_))); all_goals (first | exact Nat.le_refl _ | omega | (simp; done) | (simp; omega)))))).mono ?_
  rintro e w3 ⟨rfl, hb3⟩
  have HR3 := hide (((unhide HR2).later (by (repeat' (first | exact Below.refl _ _ | refine Below.alloc ?_ ?_ _ | refine Below.setCell ?_ ?_ _ | refine Below.drew ?_)); all_goals (first | exact Nat.le_refl _ | omega | (simp; done) | (simp; omega)))).later hb3)
  have HT3 := hide (((unhide HT2).later (by (repeat' (first | exact Below.refl _ _ | refine Below.alloc ?_ ?_ _ | refine Below.setCell ?_ ?_ _ | refine Below.drew ?_)); all_goals (first | exact Nat.le_refl _ | omega | (simp; done) | (simp; omega)))).later hb3)
  have HV3 := hide (((unhide HV2).later (by (repeat' (first | exact Below.refl _ _ | refine Below.alloc ?_ ?_ _ | refine Below.setCell ?_ ?_ _ | refine Below.drew ?_)); all_goals (first | exact Nat.le_refl _ | omega | (simp; done) | (simp; omega)))).later hb3)
  have HX3 : Hid (Held w3 (w2.heap.size) (n4 ep a b x)) := hide ((Held.fresh (n4 ep a b x) _ (by first | rfl | (simp; done))).later hb3)
  have HB3 := hide (show Below w.heap.size w w3 from (by have := (unhide HR1).2; have := (unhide HT1).2; have := (unhide HB2).size; exact Below.trans (by (repeat' (first | exact Below.refl _ _ | refine Below.alloc ?_ ?_ _ | refine Below.setCell ?_ ?_ _ | refine Below.drew ?_ | refine Below.trans ?_ (Below.mono (unhide HB2) ?_))); all_goals (first | exact Nat.le_refl _ | omega | (simp; done) | (simp; omega))) (hb3.mono (by first | omega | (simp; done) | (simp; omega)))))
  clear hb3
  obtain ⟨r0, r1, r2⟩ := (unhide HR3).c3.1
  have rl := (unhide HR3).2
  obtain ⟨t0, t1, t2, t3⟩ := (unhide HT3).c4.1
  have tl := (unhide HT3).2
  obtain ⟨v0, v1, v2, v3⟩ := (unhide HV3).c4.1
  have vl := (unhide HV3).2
  obtain ⟨x0, x1, x2, x3⟩ := (unhide HX3).c4.1
  have xl := (unhide HX3).2
  go_wp2
  go_region_held3 (fun w' => Hid (Below w3.heap.size w3 w') ∧ w'.cell? ⟨w.heap.size, 0, none⟩ = some (.int .i64 ep) ∧ w'.cell? ⟨w.heap.size, 1, none⟩ = some (.int .i64 key) ∧ w'.cell? ⟨w.heap.size, 2, none⟩ = some (.int .i64 old) ∧ w'.cell? ⟨w.heap.size + 1, 0, none⟩ = some (.int .i64 te) ∧ w'.cell? ⟨w.heap.size + 1, 1, none⟩ = some (.int .i64 ta) ∧ w'.cell? ⟨w.heap.size + 1, 2, none⟩ = some (.int .i64 tt) ∧ w'.cell? ⟨w.heap.size + 1, 3, none⟩ = some (.int .i64 tg)) (first | exact reg_step (by assumption) hb | exact ⟨hide ((Below.refl _ _).drew), by rw [World.cell?_drew]; exact r0, by rw [World.cell?_drew]; exact r1, by rw [World.cell?_drew]; exact r2, by rw [World.cell?_drew]; exact t0, by rw [World.cell?_drew]; exact t1, by rw [World.cell?_drew]; exact t2, by rw [World.cell?_drew]; exact t3⟩)
    (first | (go_at_call 17; refine (unhide CC _).mono ?_; rintro e w' ⟨rfl, hb⟩) | (go_at_call 18; refine (unhide CF _).mono ?_; rintro e w' ⟨rfl, hb⟩) | (go_at_call 11; refine (same_any _ _ _ ((unhide HG).later (Below.trans (unhide HB3) ((unhide (And.left ‹Hid (Below w3.heap.size w3 _) ∧ _›)).mono (unhide HB3).size)))).mono ?_; rintro e w' ⟨rfl, hb⟩))
  go_wp2
  go_ret
  exact ⟨rfl, Below.trans (unhide HB3) ((unhide (And.left ‹Hid (Below w3.heap.size w3 _) ∧ _›)).mono (unhide HB3).size)⟩

theorem errV_one : errV 1 = .iface 55 (.int .i64 1) := errV_pos (by omega)

theorem walk (ep key old a b te ta tt tg now life : Int) (w : World) (w0_0 : (Lit.int .i64 ep).wf = true) (w0_1 : (Lit.int .i64 key).wf = true) (w0_2 : (Lit.int .i64 old).wf = true) (w1 : (Lit.int .i64 a).wf = true) (w2 : (Lit.int .i64 b).wf = true) (w3_0 : (Lit.int .i64 te).wf = true) (w3_1 : (Lit.int .i64 ta).wf = true) (w3_2 : (Lit.int .i64 tt).wf = true) (w3_3 : (Lit.int .i64 tg).wf = true) (w4 : (Lit.int .i64 now).wf = true) (w5 : (Lit.int .i64 life).wf = true) (hg : ErrType w) :
    Calls Tryd.prog 4 #[.agg #[.int .i64 ep, .int .i64 key, .int .i64 old], .int .i64 a, .int .i64 b, .agg #[.int .i64 te, .int .i64 ta, .int .i64 tt, .int .i64 tg], .int .i64 now, .int .i64 life] w fun e w' => e = .returned (.bool true) ∧ Below w.heap.size w w' := by
  have HG := hide hg
  have CR := hide (fun w => ref_ring ep key old w)
  have CI := hide (in_any a)
  have CJ := hide (rtime_any b)
  have CC := hide (fun w => tcheck_any ep key old te ta tt tg a now life w)
  have CF := hide (fun w => ref_token_any ep key old te ta tt tg a now life w)
  obtain ⟨x0, x1, x2, x3, hM, hM0, hM1⟩ := tmake_any ep key old a b
  have CM := hide hM
  by_cases he : RingM.err ep key old = 0
  · rw [he] at CR
    cases ha : TagM.inB a with
    | false =>
      have hm : TokenM.makeErr ep key old a b = 1 := by unfold TokenM.makeErr; rw [if_pos he, if_neg (by simp [ha])]
      obtain ⟨rfl, rfl, rfl, rfl⟩ := hM1 (by rw [hm]; omega)
      rw [hm] at CM
      rw [ha] at CI
      exact walk_p ep key old a b te ta tt tg now life _ _ w HG CR CI CJ CM CC CF
    | true =>
      cases hb : TokenM.timeB b with
      | false =>
        have hm : TokenM.makeErr ep key old a b = 1 := by unfold TokenM.makeErr; rw [if_pos he, if_pos ha, if_neg (by simp [hb])]
        obtain ⟨rfl, rfl, rfl, rfl⟩ := hM1 (by rw [hm]; omega)
        rw [hm] at CM
        rw [ha] at CI
        rw [hb] at CJ
        exact walk_q ep key old a b te ta tt tg now life _ w HG CR CI CJ CM CC CF
      | true =>
        have hm : TokenM.makeErr ep key old a b = 0 := TokenM.make_zero.2 ⟨he, ha, hb⟩
        obtain ⟨_, hk, _⟩ := RingM.err_zero.1 he
        obtain ⟨e0, e1, e2, e3⟩ := hM0 hm
        rw [hm, e0, e1, e2, e3] at CM
        rw [ha] at CI
        rw [hb] at CJ
        exact walk_good ep key old a b te ta tt tg now life _ _ w HG CR CI CJ CM CC CF (hide (fun c w c0 c1 c2 => tag3 key 1 a b c w c0 c1 c2 hk rfl ha (TokenM.timeB_in hb)))
  · have hm : TokenM.makeErr ep key old a b = RingM.err ep key old := by unfold TokenM.makeErr; rw [if_neg he]
    obtain ⟨rfl, rfl, rfl, rfl⟩ := hM1 (by rw [hm]; exact he)
    rw [hm] at CM
    exact walk_bad ep key old a b te ta tt tg now life _ _ _ _ w HG he CR CI CJ CM CC CF


theorem gErr : Tryd.prog.globalNamed "errors.errorType" = some 0 := by kernel_rfl
theorem rtErr : (Tryd.prog.cutTypes.find? (·.1 == "internal/reflectlite.rtype")).map (·.2) = some 78 := by kernel_rfl
theorem oneRow : ((List.range 121).filter fun t => Tryd.prog.rowNamed t [101, 114, 114, 111, 114]) = [25] := by kernel_rfl
theorem sizeT : Tryd.prog.types.size = 121 := by kernel_rfl
theorem handle_of_laid {W : World} (h : laidMetH Tryd.prog Rows.tokenTellsRow.laid W) : ErrType W := by
  have h' : laidMet Tryd.prog [] W ∧ handlesMet Tryd.prog Rows.tokenTellsRow.laid W := h
  obtain ⟨name, u, ty, e1, e2, e3, e4, e5⟩ := h'.2 _ (List.mem_singleton.2 rfl)
  have en : name = [101, 114, 114, 111, 114] := (Option.some.inj e1).symm
  subst en
  obtain rfl := Option.some.inj (rtErr.symm.trans e2)
  have hm : ty ∈ (List.range 121).filter fun t => Tryd.prog.rowNamed t [101, 114, 114, 111, 114] := List.mem_filter.2 ⟨List.mem_range.2 (by rw [← sizeT]; exact e3), e4⟩
  rw [oneRow] at hm
  obtain rfl := List.mem_singleton.1 hm
  have hh : typeHandle Tryd.prog 25 = .pointer (some ⟨1, 25, none⟩) := by kernel_rfl
  rw [hh] at e5
  unfold ErrType
  simpa using World.var?_cell gErr e5 0
theorem door_met (os : Os) (args : Array Value) : laidMetH Tryd.prog Rows.tokenTellsRow.laid ((World.doorLaid Tryd.prog 400 os).forCall (fun _ _ => 0) ⟨#[], args, []⟩).memory :=
  laidMetH_of_parts (laidMet_nil _ _) (by kernel_rfl)


set_option maxRecDepth 100000 in
theorem lifted (os : Os) (started : os.Started) (H : Type) (enc : TypeId × Value → H) :
    ReturnsInHanded {} Tryd.checked os 4 .any (fun w args => (Rows.tokenTellsSpec.pre enc Tryd.prog Tryd.f4 [] false w args ∧ laidMetH Tryd.prog Rows.tokenTellsRow.laid w) ∧ sizedMet enc Tryd.prog Tryd.f4 (OpenSpec.ofChange Rows.tokenTellsSpec) false w args) (Rows.tokenTellsSpec.post enc Tryd.prog Tryd.f4 false true false false) := by
  refine returnsInHanded_of_change_and (C := Tryd.checked) (X := fun w _ => laidMetH Tryd.prog Rows.tokenTellsRow.laid w) (fun _ _ _ hh h => h.of_heap hh) own started (by kernel_rfl) Tryd.func4
    (ChangeSpec.witness_shaped (enc := enc) (C := Tryd.checked) (os := os) (X := fun w _ => laidMetH Tryd.prog Rows.tokenTellsRow.laid w) false (World.doorLaid Tryd.prog 400 os) #[.agg #[.int .i64 0, .int .i64 0, .int .i64 0], .int .i64 0, .int .i64 0, .agg #[.int .i64 0, .int .i64 0, .int .i64 0, .int .i64 0], .int .i64 0, .int .i64 0] 8 rfl (World.shaped_of_RefB (by kernel_rfl) (by kernel_rfl)) (by kernel_rfl) (by kernel_rfl) (by kernel_rfl) (door_met os _)) ?_
  intro W base args ds gs before hval0 hW _ hsz hL _
  have hg := handle_of_laid hL
  have hval : ∀ (j : Nat) t v, Tryd.f4.params[j]? = some t → args[j]? = some v → Value.okWide Tryd.prog W .any base t v := hval0
  have hW' := hW
  obtain ⟨p, q, hA0, hV, rfl, hfz, hnd⟩ := hW
  have hA : DataW.TrodAll enc Tryd.prog W 0 (fun _ => true) true Tryd.f4.params.toList args.toList ds p := hA0
  rw [Tryd.params4] at hA hval
  obtain ⟨v0, vs0, d0, ds0, p0, q0, hargs, rfl, rfl, h0, r0⟩ := trodAll_cons hA
  obtain ⟨v1, vs1, d1, ds1, p1, q1, rfl, rfl, rfl, h1, r1⟩ := trodAll_cons r0
  obtain ⟨v2, vs2, d2, ds2, p2, q2, rfl, rfl, rfl, h2, r2⟩ := trodAll_cons r1
  obtain ⟨v3, vs3, d3, ds3, p3, q3, rfl, rfl, rfl, h3, r3⟩ := trodAll_cons r2
  obtain ⟨v4, vs4, d4, ds4, p4, q4, rfl, rfl, rfl, h4, r4⟩ := trodAll_cons r3
  obtain ⟨v5, vs5, d5, ds5, p5, q5, rfl, rfl, rfl, h5, r5⟩ := trodAll_cons r4
  obtain ⟨rfl, rfl, rfl⟩ := trodAll_nil r5
  obtain rfl : args = #[v0, v1, v2, v3, v4, v5] := by cases args; simp_all
  obtain ⟨rfl, rfl⟩ := trodVars_none hV
  have k0 := h0
  have lt0 : ∀ x ∈ p0, x.block < W.heap.size := by obtain ⟨m, hm⟩ := k0; exact DataW.trod_lt m _ _ _ hm
  obtain ⟨c0_0, c0_1, c0_2, y0_0, y0_1, y0_2, m0, rfl, rfl, rfl, g0_0, g0_1, g0_2⟩ := open_agg3 Tryd.underlying23 (by kernel_rfl) (by kernel_rfl) (hval 0 23 v0 rfl rfl) h0
  obtain ⟨a0_0, e0_0, rfl, w0_0⟩ := DataW.trod_int Tryd.underlying3 g0_0
  simp at e0_0; subst e0_0
  obtain ⟨a0_1, e0_1, rfl, w0_1⟩ := DataW.trod_int Tryd.underlying3 g0_1
  simp at e0_1; subst e0_1
  obtain ⟨a0_2, e0_2, rfl, w0_2⟩ := DataW.trod_int Tryd.underlying3 g0_2
  simp at e0_2; subst e0_2
  have k1 := h1
  have lt1 : ∀ x ∈ p1, x.block < W.heap.size := by obtain ⟨m, hm⟩ := k1; exact DataW.trod_lt m _ _ _ hm
  obtain ⟨a1, rfl, rfl, rfl, w1⟩ := open_int Tryd.underlying3 (hval 1 3 v1 rfl rfl) h1
  have k2 := h2
  have lt2 : ∀ x ∈ p2, x.block < W.heap.size := by obtain ⟨m, hm⟩ := k2; exact DataW.trod_lt m _ _ _ hm
  obtain ⟨a2, rfl, rfl, rfl, w2⟩ := open_int Tryd.underlying3 (hval 2 3 v2 rfl rfl) h2
  have k3 := h3
  have lt3 : ∀ x ∈ p3, x.block < W.heap.size := by obtain ⟨m, hm⟩ := k3; exact DataW.trod_lt m _ _ _ hm
  obtain ⟨c3_0, c3_1, c3_2, c3_3, y3_0, y3_1, y3_2, y3_3, m3, rfl, rfl, rfl, g3_0, g3_1, g3_2, g3_3⟩ := open_agg4 Tryd.underlying33 (by kernel_rfl) (by kernel_rfl) (hval 3 33 v3 rfl rfl) h3
  obtain ⟨a3_0, e3_0, rfl, w3_0⟩ := DataW.trod_int Tryd.underlying3 g3_0
  simp at e3_0; subst e3_0
  obtain ⟨a3_1, e3_1, rfl, w3_1⟩ := DataW.trod_int Tryd.underlying3 g3_1
  simp at e3_1; subst e3_1
  obtain ⟨a3_2, e3_2, rfl, w3_2⟩ := DataW.trod_int Tryd.underlying3 g3_2
  simp at e3_2; subst e3_2
  obtain ⟨a3_3, e3_3, rfl, w3_3⟩ := DataW.trod_int Tryd.underlying3 g3_3
  simp at e3_3; subst e3_3
  have k4 := h4
  have lt4 : ∀ x ∈ p4, x.block < W.heap.size := by obtain ⟨m, hm⟩ := k4; exact DataW.trod_lt m _ _ _ hm
  obtain ⟨a4, rfl, rfl, rfl, w4⟩ := open_int Tryd.underlying3 (hval 4 3 v4 rfl rfl) h4
  have k5 := h5
  have lt5 : ∀ x ∈ p5, x.block < W.heap.size := by obtain ⟨m, hm⟩ := k5; exact DataW.trod_lt m _ _ _ hm
  obtain ⟨a5, rfl, rfl, rfl, w5⟩ := open_int Tryd.underlying3 (hval 5 3 v5 rfl rfl) h5
  clear hA0 hval0
  refine (walk a0_0 a0_1 a0_2 a1 a2 a3_0 a3_1 a3_2 a3_3 a4 a5 W w0_0 w0_1 w0_2 w1 w2 w3_0 w3_1 w3_2 w3_3 w4 w5 hg).mono fun e W' ⟨he, bel⟩ => ?_
  subst he
  exact ⟨_, rfl, _, _, _, [], _, [], hW', trodAll_mk1 (shut_bool Tryd.underlying4 _), (trodAll_cons_mk (Below.trod laidOut (by kernel_rfl) (of_decide_eq_true (by kernel_rfl)) k0 bel lt0) (trodAll_cons_mk (Below.trod laidOut (by kernel_rfl) (of_decide_eq_true (by kernel_rfl)) k1 bel lt1) (trodAll_cons_mk (Below.trod laidOut (by kernel_rfl) (of_decide_eq_true (by kernel_rfl)) k2 bel lt2) (trodAll_cons_mk (Below.trod laidOut (by kernel_rfl) (of_decide_eq_true (by kernel_rfl)) k3 bel lt3) (trodAll_cons_mk (Below.trod laidOut (by kernel_rfl) (of_decide_eq_true (by kernel_rfl)) k4 bel lt4) (trodAll_cons_mk (Below.trod laidOut (by kernel_rfl) (of_decide_eq_true (by kernel_rfl)) k5 bel lt5) trodAll_mk0)))))), rfl, bel.frame _, fun h => by cases h⟩

theorem over : Rows.tokenTellsRow.holds Tryd.pinned (OpenSpec.ofChange Rows.tokenTellsSpec) :=
  OpenClaim.holds_of_wide 4 Tryd.f4 rfl rfl rfl rfl rfl rfl rfl ⟨rfl, rfl, rfl, rfl, rfl⟩ rfl rfl rfl rfl rfl (by kernel_rfl) Tryd.func4 (by kernel_rfl)
    (of_decide_eq_true (by kernel_rfl)) (by unfold Func.isWrapper; first | (rw [if_pos (by decide +kernel)]; kernel_rfl) | (rw [if_neg (by decide +kernel)]; exact ⟨rfl, rfl⟩))
    (fun os started H enc _ => lifted os started H enc)

theorem card : Rows.TokenTellsCardSaid :=
  Claim7.holds_tied_plain_at .later [] [.handle] true (true, "ae94f0243eb5a1da57b94b873cf515495c8440656b678c75f24e134e92a066a1") true
    over (fun _ h => by cases h) (by kernel_rfl) (fun _ h => by cases h) tokenTells_row_tie rfl ⟨rfl, rfl⟩ (by kernel_rfl) rfl
    (fun f fn hf hfn => by
      obtain rfl : f = 4 := Option.some.inj ((show Tryd.prog.funcNamed "tokenfold/foldlaw1.TokenTells" = some 4 by kernel_rfl).symm.trans hf) |>.symm
      obtain rfl : fn = Tryd.f4 := (Option.some.inj (Tryd.func4.symm.trans hfn)).symm
      exact ⟨by kernel_rfl, fun j t ht => by
        rw [Tryd.params4] at ht
        have hm : t ∈ [23, 3, 3, 33, 3, 3] := by simpa using Array.mem_of_getElem? ht
        have hall : ([23, 3, 3, 33, 3, 3].all fun u => !Tryd.prog.wantsStandIn u) = true := by kernel_rfl
        exact (show Tryd.prog.wantsStandIn t = false by simpa using List.all_eq_true.1 hall t hm)⟩)
    (by kernel_rfl)

end Go.Proofs.YtdbhkfanchjjbabDoor.tokenTells
namespace Go.Proofs.YtdbhkfanchjjbabDoor
theorem tokenTells_holds : Rows.TokenTellsCardSaid := tokenTells.card
#print axioms tokenTells_holds
end Go.Proofs.YtdbhkfanchjjbabDoor

