/-
  WindowTells holds for every window and every number: Check, Take and New of package window answer as the reference reckons, errors told by plain.Told. The listed variable errors.errorType starts as the program's text lays it (the card's tie). No other condition.
-/
import Derived.Test.YtbacjhdghepckacDoorRefWindow
import Derived.Test.YtbacjhdghepckacDoorWindowWalks
import Derived.Test.YtbacjhdghepckacDoorHeld
import Derived.Test.YtbacjhdghepckacDoorTie
import Derived.Test.YtbacjhdghepckacDoorCards
import Derived.ProofKit
import Derived.Lib.SmallJoins
import Derived.LaidMore
import Derived.LaidHandle
import Derived.LaidLaws
import Derived.Stop.Joined
import Derived.SevenTiedAt
namespace Go.Proofs.YtbacjhdghepckacDoor.windowTells
open Go.ChangeShapes Go.WideShapes Go.ChangeAt Go.RowKit Go.Joins
set_option linter.unusedVariables false

theorem own : ownKnob Tryd.prog.godebug = none := by kernel_rfl
theorem laidOut : laidOutB Tryd.prog = true := by kernel_rfl
def IsRow (k : IntKind) (w : World) (a : Option Addr) (len cap : Nat) (zs : List Int) : Prop :=
  (a = none ∧ len = 0 ∧ cap = 0 ∧ zs = []) ∨
  ∃ x, a = some x ∧ len ≤ cap ∧ cap ≤ maxLen ∧ zs.length = cap ∧ (∀ i, i < zs.length → w.cell? (x.add i) = some (.int k (zs.getD i 0))) ∧ ∀ n ∈ zs, (Lit.int k n).wf = true
def IsPairs (w : World) (a : Option Addr) (len cap : Nat) (zs : List (Int × Int)) : Prop :=
  (a = none ∧ len = 0 ∧ cap = 0 ∧ zs = []) ∨
  ∃ x, a = some x ∧ len ≤ cap ∧ cap ≤ maxLen ∧ zs.length = cap ∧ ∀ i, i < cap → w.cell? (x.add (i * 2)) = some (.int .i64 (zs.getD i (0, 0)).1) ∧ w.cell? (x.add (i * 2 + 1)) = some (.int .i64 (zs.getD i (0, 0)).2)
def IsRows (w : World) (a : Option Addr) (len cap : Nat) (A : Nat → Option Addr) (L C : Nat → Nat) (Z : Nat → List Int) : Prop :=
  (a = none ∧ len = 0 ∧ cap = 0) ∨
  ∃ x, a = some x ∧ len ≤ cap ∧ cap ≤ maxLen ∧ ∀ r, r < cap → w.cell? (x.add r) = some (.slice (A r) (L r) (C r)) ∧ L r ≤ C r ∧ C r ≤ maxLen ∧ (Z r).length = C r ∧ (∀ n ∈ Z r, (Lit.int .i64 n).wf = true) ∧ (A r = none → C r = 0) ∧
    ∀ a', A r = some a' → ∀ c, c < C r → w.cell? (a'.add c) = some (.int .i64 ((Z r).getD c 0))


theorem same_same (n : Int) (w : World) (hg : ErrType w) : Calls Tryd.prog 9 #[errV n, .int .i64 n] w fun e w' => e = .returned (.bool true) ∧ Below w.heap.size w w' := by
  have h := same_any n n w hg
  rwa [show (n == n) = true by simp] at h

set_option maxHeartbeats 6400000 in
set_option maxRecDepth 8000 in
theorem walk_bad (t B n g : Int) (w : World) (HG : Hid (ErrType w)) (hg0 : ¬ g = 0) 
    (C1 : Hid (∀ w : World, Calls Tryd.prog 20 #[.agg #[.int .i64 t, .int .i64 B]] w fun e w' => e = .returned (.int .i64 g) ∧ Below w.heap.size w w'))
    (C2 : Hid (∀ w : World, Calls Tryd.prog 21 #[.agg #[.int .i64 t, .int .i64 B]] w fun e w' => e = .returned (errV g) ∧ Below w.heap.size w w'))
    (C4 : Hid (∀ w : World, Calls Tryd.prog 23 #[.agg #[.int .i64 t, .int .i64 B], .int .i64 n] w fun e w' => e = .returned (.tuple #[.agg #[.int .i64 0, .int .i64 0], errV g]) ∧ Below w.heap.size w w')) :
    Calls Tryd.prog 6 #[.agg #[.int .i64 t, .int .i64 B], .int .i64 n] w fun e w' => e = .returned (.bool true) ∧ Below w.heap.size w w' := by
  have hgb : (g == 0) = false := by simp [hg0]
  go_enter Tryd.func6, Tryd.ntmps6
  go_wp2_with fail
  refine (unhide C1 _).mono ?_
  rintro e w1 ⟨rfl, hb1⟩
  have HP1 : Hid (Held w1 (w.heap.size) (n2 t B)) := hide (((Held.fresh (w := w) (n2 t B) 46 (by first | rfl | (simp; done))).later (by (repeat' (first | exact Below.refl _ _ | refine Below.alloc ?_ ?_ _ | refine Below.setCell ?_ ?_ _ | refine Below.drew ?_)); all_goals (first | exact Nat.le_refl _ | omega | (simp; done) | (simp; omega)))).later hb1)
  have HB1 := hide (show Below w.heap.size w w1 from Below.trans (by (repeat' (first | exact Below.refl _ _ | refine Below.alloc ?_ ?_ _ | refine Below.setCell ?_ ?_ _ | refine Below.drew ?_)); all_goals (first | exact Nat.le_refl _ | omega | (simp; done) | (simp; omega))) (hb1.mono (by first | exact Nat.le_refl _ | (simp; done) | (simp; omega))))
  clear hb1
  obtain ⟨p0, p1⟩ := (unhide HP1).c2.1
  have pl := (unhide HP1).2
  go_wp2_with fail
  refine (unhide C2 _).mono ?_
  rintro e w2 ⟨rfl, hb2⟩
  clear p0 p1 pl
  have HP2 := hide (((unhide HP1).later (by (repeat' (first | exact Below.refl _ _ | refine Below.alloc ?_ ?_ _ | refine Below.setCell ?_ ?_ _ | refine Below.drew ?_)); all_goals (first | exact Nat.le_refl _ | omega | (simp; done) | (simp; omega)))).later hb2)
  have HB2 := hide (show Below w.heap.size w w2 from (by have := (unhide HP1).2; have := (unhide HB1).size; exact Below.trans (by (repeat' (first | exact Below.refl _ _ | refine Below.alloc ?_ ?_ _ | refine Below.setCell ?_ ?_ _ | refine Below.drew ?_ | refine Below.trans ?_ (Below.mono (unhide HB1) ?_))); all_goals (first | exact Nat.le_refl _ | omega | (simp; done) | (simp; omega))) (hb2.mono (by first | omega | (simp; done) | (simp; omega)))))
  clear hb2
  go_wp2_with fail
  refine (same_same _ _ ((unhide HG).later (by have := (unhide HB2).size; exact (by (repeat' (first | exact Below.refl _ _ | refine Below.alloc ?_ ?_ _ | refine Below.setCell ?_ ?_ _ | refine Below.drew ?_ | refine Below.trans ?_ (Below.mono (unhide HB2) ?_))); all_goals (first | exact Nat.le_refl _ | omega | (simp; done) | (simp; omega)))))).mono ?_
  rintro e w3 ⟨rfl, hb3⟩
  have HP3 := hide (((unhide HP2).later (by (repeat' (first | exact Below.refl _ _ | refine Below.alloc ?_ ?_ _ | refine Below.setCell ?_ ?_ _ | refine Below.drew ?_)); all_goals (first | exact Nat.le_refl _ | omega | (simp; done) | (simp; omega)))).later hb3)
  have HB3 := hide (show Below w.heap.size w w3 from (by have := (unhide HP2).2; have := (unhide HB2).size; exact Below.trans (by (repeat' (first | exact Below.refl _ _ | refine Below.alloc ?_ ?_ _ | refine Below.setCell ?_ ?_ _ | refine Below.drew ?_ | refine Below.trans ?_ (Below.mono (unhide HB2) ?_))); all_goals (first | exact Nat.le_refl _ | omega | (simp; done) | (simp; omega))) (hb3.mono (by first | omega | (simp; done) | (simp; omega)))))
  clear hb3
  obtain ⟨p0, p1⟩ := (unhide HP3).c2.1
  have pl := (unhide HP3).2
  have ne1 : ¬ w3.heap.size = w.heap.size := by have := (unhide HP3).2; omega
  go_wp2_with fail
  refine (unhide C4 _).mono ?_
  rintro e w4 ⟨rfl, hb4⟩
  clear p0 p1 pl
  have HP4 := hide (((unhide HP3).later (by (repeat' (first | exact Below.refl _ _ | refine Below.alloc ?_ ?_ _ | refine Below.setCell ?_ ?_ _ | refine Below.drew ?_)); all_goals (first | exact Nat.le_refl _ | omega | (simp; done) | (simp; omega)))).later hb4)
  have HV4 : Hid (Held w4 (w3.heap.size) (n2 0 0)) := hide (((Held.fresh (w := w3) (n2 0 0) 46 (by first | rfl | (simp; done))).later (by (repeat' (first | exact Below.refl _ _ | refine Below.alloc ?_ ?_ _ | refine Below.setCell ?_ ?_ _ | refine Below.drew ?_)); all_goals (first | exact Nat.le_refl _ | omega | (simp; done) | (simp; omega)))).later hb4)
  have HB4 := hide (show Below w.heap.size w w4 from (by have := (unhide HP3).2; have := (unhide HB3).size; exact Below.trans (by (repeat' (first | exact Below.refl _ _ | refine Below.alloc ?_ ?_ _ | refine Below.setCell ?_ ?_ _ | refine Below.drew ?_ | refine Below.trans ?_ (Below.mono (unhide HB3) ?_))); all_goals (first | exact Nat.le_refl _ | omega | (simp; done) | (simp; omega))) (hb4.mono (by first | omega | (simp; done) | (simp; omega)))))
  clear hb4
  go_wp2_with fail
  refine (same_same _ _ ((unhide HG).later (by have := (unhide HB4).size; exact (by (repeat' (first | exact Below.refl _ _ | refine Below.alloc ?_ ?_ _ | refine Below.setCell ?_ ?_ _ | refine Below.drew ?_ | refine Below.trans ?_ (Below.mono (unhide HB4) ?_))); all_goals (first | exact Nat.le_refl _ | omega | (simp; done) | (simp; omega)))))).mono ?_
  rintro e w5 ⟨rfl, hb5⟩
  have HP5 := hide (((unhide HP4).later (by (repeat' (first | exact Below.refl _ _ | refine Below.alloc ?_ ?_ _ | refine Below.setCell ?_ ?_ _ | refine Below.drew ?_)); all_goals (first | exact Nat.le_refl _ | omega | (simp; done) | (simp; omega)))).later hb5)
  have HV5 := hide (((unhide HV4).later (by (repeat' (first | exact Below.refl _ _ | refine Below.alloc ?_ ?_ _ | refine Below.setCell ?_ ?_ _ | refine Below.drew ?_)); all_goals (first | exact Nat.le_refl _ | omega | (simp; done) | (simp; omega)))).later hb5)
  have HX5 : Hid (Held w5 (w4.heap.size) (n2 0 0)) := hide ((Held.fresh (n2 0 0) _ (by first | rfl | (simp; done))).later hb5)
  have HB5 := hide (show Below w.heap.size w w5 from (by have := (unhide HP4).2; have := (unhide HV4).2; have := (unhide HB4).size; exact Below.trans (by (repeat' (first | exact Below.refl _ _ | refine Below.alloc ?_ ?_ _ | refine Below.setCell ?_ ?_ _ | refine Below.drew ?_ | refine Below.trans ?_ (Below.mono (unhide HB4) ?_))); all_goals (first | exact Nat.le_refl _ | omega | (simp; done) | (simp; omega))) (hb5.mono (by first | omega | (simp; done) | (simp; omega)))))
  clear hb5
  obtain ⟨v0, v1⟩ := (unhide HV5).c2.1
  have vl := (unhide HV5).2
  obtain ⟨x0, x1⟩ := (unhide HX5).c2.1
  have xl := (unhide HX5).2
  go_wp2_with fail
  refine (wnew_any _).mono ?_
  rintro e w6 ⟨rfl, hb6⟩
  clear v0 v1 vl x0 x1 xl
  have HV6 := hide (((unhide HV5).later (by (repeat' (first | exact Below.refl _ _ | refine Below.alloc ?_ ?_ _ | refine Below.setCell ?_ ?_ _ | refine Below.drew ?_)); all_goals (first | exact Nat.le_refl _ | omega | (simp; done) | (simp; omega)))).later hb6)
  have HX6 := hide (((unhide HX5).later (by (repeat' (first | exact Below.refl _ _ | refine Below.alloc ?_ ?_ _ | refine Below.setCell ?_ ?_ _ | refine Below.drew ?_)); all_goals (first | exact Nat.le_refl _ | omega | (simp; done) | (simp; omega)))).later hb6)
  have HB6 := hide (show Below w.heap.size w w6 from (by have := (unhide HV5).2; have := (unhide HX5).2; have := (unhide HB5).size; exact Below.trans (by (repeat' (first | exact Below.refl _ _ | refine Below.alloc ?_ ?_ _ | refine Below.setCell ?_ ?_ _ | refine Below.drew ?_ | refine Below.trans ?_ (Below.mono (unhide HB5) ?_))); all_goals (first | exact Nat.le_refl _ | omega | (simp; done) | (simp; omega))) (hb6.mono (by first | omega | (simp; done) | (simp; omega)))))
  clear hb6
  go_wp2
  go_ret
  exact ⟨rfl, (by have := (unhide HV5).2; have := (unhide HX5).2; have := (unhide HB6).size; exact (by (repeat' (first | exact Below.refl _ _ | refine Below.alloc ?_ ?_ _ | refine Below.setCell ?_ ?_ _ | refine Below.drew ?_ | refine Below.trans ?_ (Below.mono (unhide HB6) ?_))); all_goals (first | exact Nat.le_refl _ | omega | (simp; done) | (simp; omega))))⟩

set_option maxHeartbeats 6400000 in
set_option maxRecDepth 8000 in
theorem walk_good (t B n T X r : Int) (w : World) (HG : Hid (ErrType w)) 
    (C1 : Hid (∀ w : World, Calls Tryd.prog 20 #[.agg #[.int .i64 t, .int .i64 B]] w fun e w' => e = .returned (.int .i64 0) ∧ Below w.heap.size w w'))
    (C2 : Hid (∀ w : World, Calls Tryd.prog 21 #[.agg #[.int .i64 t, .int .i64 B]] w fun e w' => e = .returned (errV 0) ∧ Below w.heap.size w w'))
    (C3 : Hid (∀ w : World, Calls Tryd.prog 22 #[.agg #[.int .i64 t, .int .i64 B], .int .i64 n] w fun e w' => e = .returned (.tuple #[.agg #[.int .i64 T, .int .i64 X], .int .i64 r]) ∧ Below w.heap.size w w'))
    (C4 : Hid (∀ w : World, Calls Tryd.prog 23 #[.agg #[.int .i64 t, .int .i64 B], .int .i64 n] w fun e w' => e = .returned (.tuple #[.agg #[.int .i64 T, .int .i64 X], errV r]) ∧ Below w.heap.size w w')) :
    Calls Tryd.prog 6 #[.agg #[.int .i64 t, .int .i64 B], .int .i64 n] w fun e w' => e = .returned (.bool true) ∧ Below w.heap.size w w' := by
  go_enter Tryd.func6, Tryd.ntmps6
  go_wp2_with fail
  refine (unhide C1 _).mono ?_
  rintro e w1 ⟨rfl, hb1⟩
  have HP1 : Hid (Held w1 (w.heap.size) (n2 t B)) := hide (((Held.fresh (w := w) (n2 t B) 46 (by first | rfl | (simp; done))).later (by (repeat' (first | exact Below.refl _ _ | refine Below.alloc ?_ ?_ _ | refine Below.setCell ?_ ?_ _ | refine Below.drew ?_)); all_goals (first | exact Nat.le_refl _ | omega | (simp; done) | (simp; omega)))).later hb1)
  have HB1 := hide (show Below w.heap.size w w1 from Below.trans (by (repeat' (first | exact Below.refl _ _ | refine Below.alloc ?_ ?_ _ | refine Below.setCell ?_ ?_ _ | refine Below.drew ?_)); all_goals (first | exact Nat.le_refl _ | omega | (simp; done) | (simp; omega))) (hb1.mono (by first | exact Nat.le_refl _ | (simp; done) | (simp; omega))))
  clear hb1
  obtain ⟨p0, p1⟩ := (unhide HP1).c2.1
  have pl := (unhide HP1).2
  go_wp2_with fail
  refine (unhide C2 _).mono ?_
  rintro e w2 ⟨rfl, hb2⟩
  clear p0 p1 pl
  have HP2 := hide (((unhide HP1).later (by (repeat' (first | exact Below.refl _ _ | refine Below.alloc ?_ ?_ _ | refine Below.setCell ?_ ?_ _ | refine Below.drew ?_)); all_goals (first | exact Nat.le_refl _ | omega | (simp; done) | (simp; omega)))).later hb2)
  have HB2 := hide (show Below w.heap.size w w2 from (by have := (unhide HP1).2; have := (unhide HB1).size; exact Below.trans (by (repeat' (first | exact Below.refl _ _ | refine Below.alloc ?_ ?_ _ | refine Below.setCell ?_ ?_ _ | refine Below.drew ?_ | refine Below.trans ?_ (Below.mono (unhide HB1) ?_))); all_goals (first | exact Nat.le_refl _ | omega | (simp; done) | (simp; omega))) (hb2.mono (by first | omega | (simp; done) | (simp; omega)))))
  clear hb2
  go_wp2_with fail
  refine (same_same _ _ ((unhide HG).later (by have := (unhide HB2).size; exact (by (repeat' (first | exact Below.refl _ _ | refine Below.alloc ?_ ?_ _ | refine Below.setCell ?_ ?_ _ | refine Below.drew ?_ | refine Below.trans ?_ (Below.mono (unhide HB2) ?_))); all_goals (first | exact Nat.le_refl _ | omega | (simp; done) | (simp; omega)))))).mono ?_
  rintro e w3 ⟨rfl, hb3⟩
  have HP3 := hide (((unhide HP2).later (by (repeat' (first | exact Below.refl _ _ | refine Below.alloc ?_ ?_ _ | refine Below.setCell ?_ ?_ _ | refine Below.drew ?_)); all_goals (first | exact Nat.le_refl _ | omega | (simp; done) | (simp; omega)))).later hb3)
  have HB3 := hide (show Below w.heap.size w w3 from (by have := (unhide HP2).2; have := (unhide HB2).size; exact Below.trans (by (repeat' (first | exact Below.refl _ _ | refine Below.alloc ?_ ?_ _ | refine Below.setCell ?_ ?_ _ | refine Below.drew ?_ | refine Below.trans ?_ (Below.mono (unhide HB2) ?_))); all_goals (first | exact Nat.le_refl _ | omega | (simp; done) | (simp; omega))) (hb3.mono (by first | omega | (simp; done) | (simp; omega)))))
  clear hb3
  obtain ⟨p0, p1⟩ := (unhide HP3).c2.1
  have pl := (unhide HP3).2
  have ne1 : ¬ w3.heap.size = w.heap.size := by have := (unhide HP3).2; omega
  go_wp2_with fail
  refine (unhide C3 _).mono ?_
  rintro e w4 ⟨rfl, hb4⟩
  clear p0 p1 pl
  have HP4 := hide (((unhide HP3).later (by (repeat' (first | exact Below.refl _ _ | refine Below.alloc ?_ ?_ _ | refine Below.setCell ?_ ?_ _ | refine Below.drew ?_)); all_goals (first | exact Nat.le_refl _ | omega | (simp; done) | (simp; omega)))).later hb4)
  have HV4 : Hid (Held w4 (w3.heap.size) (n2 0 0)) := hide (((Held.fresh (w := w3) (n2 0 0) 46 (by first | rfl | (simp; done))).later (by (repeat' (first | exact Below.refl _ _ | refine Below.alloc ?_ ?_ _ | refine Below.setCell ?_ ?_ _ | refine Below.drew ?_)); all_goals (first | exact Nat.le_refl _ | omega | (simp; done) | (simp; omega)))).later hb4)
  have HB4 := hide (show Below w.heap.size w w4 from (by have := (unhide HP3).2; have := (unhide HB3).size; exact Below.trans (by (repeat' (first | exact Below.refl _ _ | refine Below.alloc ?_ ?_ _ | refine Below.setCell ?_ ?_ _ | refine Below.drew ?_ | refine Below.trans ?_ (Below.mono (unhide HB3) ?_))); all_goals (first | exact Nat.le_refl _ | omega | (simp; done) | (simp; omega))) (hb4.mono (by first | omega | (simp; done) | (simp; omega)))))
  clear hb4
  obtain ⟨p0, p1⟩ := (unhide HP4).c2.1
  have pl := (unhide HP4).2
  obtain ⟨v0, v1⟩ := (unhide HV4).c2.1
  obtain ⟨vf0, vf1⟩ := (unhide HV4).c2.2
  have vl := (unhide HV4).2
  go_wp2_with fail
  refine (unhide C4 _).mono ?_
  rintro e w5 ⟨rfl, hb5⟩
  clear p0 p1 pl v0 v1 vf0 vf1 vl
  have HP5 := hide ((((((unhide HP4).later (by (repeat' (first | exact Below.refl _ _ | refine Below.alloc ?_ ?_ _ | refine Below.setCell ?_ ?_ _ | refine Below.drew ?_)); all_goals (first | exact Nat.le_refl _ | omega | (simp; done) | (simp; omega)))).far (c := w3.heap.size) (by have := (unhide HP4).2; have := (unhide HV4).2; have := (unhide HP3).2; have := (unhide HB4).size; omega) 0 (.int .i64 T)).far (c := w3.heap.size) (by have := (unhide HP4).2; have := (unhide HV4).2; have := (unhide HP3).2; have := (unhide HB4).size; omega) 1 (.int .i64 X)).later (by (repeat' (first | exact Below.refl _ _ | refine Below.alloc ?_ ?_ _ | refine Below.setCell ?_ ?_ _ | refine Below.drew ?_)); all_goals (first | exact Nat.le_refl _ | omega | (simp; done) | (simp; omega)))).later hb5)
  have HV5 : Hid (Held w5 (w3.heap.size) (n2 T X)) := hide (((((unhide HV4).put 0 (.int .i64 T)).put 1 (.int .i64 X)).later (by (repeat' (first | exact Below.refl _ _ | refine Below.alloc ?_ ?_ _ | refine Below.setCell ?_ ?_ _ | refine Below.drew ?_)); all_goals (first | exact Nat.le_refl _ | omega | (simp; done) | (simp; omega)))).later hb5)
  have HB5 := hide (show Below w.heap.size w w5 from (by have := (unhide HP4).2; have := (unhide HV4).2; have := (unhide HP3).2; have := (unhide HB4).size; exact Below.trans (by (repeat' (first | exact Below.refl _ _ | refine Below.alloc ?_ ?_ _ | refine Below.setCell ?_ ?_ _ | refine Below.drew ?_ | refine Below.trans ?_ (Below.mono (unhide HB4) ?_))); all_goals (first | exact Nat.le_refl _ | omega | (simp; done) | (simp; omega))) (hb5.mono (by first | omega | (simp; done) | (simp; omega)))))
  clear hb5
  go_wp2_with fail
  refine (same_same _ _ ((unhide HG).later (by have := (unhide HB5).size; exact (by (repeat' (first | exact Below.refl _ _ | refine Below.alloc ?_ ?_ _ | refine Below.setCell ?_ ?_ _ | refine Below.drew ?_ | refine Below.trans ?_ (Below.mono (unhide HB5) ?_))); all_goals (first | exact Nat.le_refl _ | omega | (simp; done) | (simp; omega)))))).mono ?_
  rintro e w6 ⟨rfl, hb6⟩
  have HP6 := hide (((unhide HP5).later (by (repeat' (first | exact Below.refl _ _ | refine Below.alloc ?_ ?_ _ | refine Below.setCell ?_ ?_ _ | refine Below.drew ?_)); all_goals (first | exact Nat.le_refl _ | omega | (simp; done) | (simp; omega)))).later hb6)
  have HV6 := hide (((unhide HV5).later (by (repeat' (first | exact Below.refl _ _ | refine Below.alloc ?_ ?_ _ | refine Below.setCell ?_ ?_ _ | refine Below.drew ?_)); all_goals (first | exact Nat.le_refl _ | omega | (simp; done) | (simp; omega)))).later hb6)
  have HX6 : Hid (Held w6 (w5.heap.size) (n2 T X)) := hide ((Held.fresh (n2 T X) _ (by first | rfl | (simp; done))).later hb6)
  have HB6 := hide (show Below w.heap.size w w6 from (by have := (unhide HP5).2; have := (unhide HV5).2; have := (unhide HB5).size; exact Below.trans (by (repeat' (first | exact Below.refl _ _ | refine Below.alloc ?_ ?_ _ | refine Below.setCell ?_ ?_ _ | refine Below.drew ?_ | refine Below.trans ?_ (Below.mono (unhide HB5) ?_))); all_goals (first | exact Nat.le_refl _ | omega | (simp; done) | (simp; omega))) (hb6.mono (by first | omega | (simp; done) | (simp; omega)))))
  clear hb6
  obtain ⟨v0, v1⟩ := (unhide HV6).c2.1
  have vl := (unhide HV6).2
  obtain ⟨x0, x1⟩ := (unhide HX6).c2.1
  have xl := (unhide HX6).2
  go_wp2_with fail
  refine (wnew_any _).mono ?_
  rintro e w7 ⟨rfl, hb7⟩
  clear v0 v1 vl x0 x1 xl
  have HV7 := hide (((unhide HV6).later (by (repeat' (first | exact Below.refl _ _ | refine Below.alloc ?_ ?_ _ | refine Below.setCell ?_ ?_ _ | refine Below.drew ?_)); all_goals (first | exact Nat.le_refl _ | omega | (simp; done) | (simp; omega)))).later hb7)
  have HX7 := hide (((unhide HX6).later (by (repeat' (first | exact Below.refl _ _ | refine Below.alloc ?_ ?_ _ | refine Below.setCell ?_ ?_ _ | refine Below.drew ?_)); all_goals (first | exact Nat.le_refl _ | omega | (simp; done) | (simp; omega)))).later hb7)
  have HB7 := hide (show Below w.heap.size w w7 from (by have := (unhide HV6).2; have := (unhide HX6).2; have := (unhide HB6).size; exact Below.trans (by (repeat' (first | exact Below.refl _ _ | refine Below.alloc ?_ ?_ _ | refine Below.setCell ?_ ?_ _ | refine Below.drew ?_ | refine Below.trans ?_ (Below.mono (unhide HB6) ?_))); all_goals (first | exact Nat.le_refl _ | omega | (simp; done) | (simp; omega))) (hb7.mono (by first | omega | (simp; done) | (simp; omega)))))
  clear hb7
  go_wp2
  go_ret
  exact ⟨rfl, (by have := (unhide HV6).2; have := (unhide HX6).2; have := (unhide HB7).size; exact (by (repeat' (first | exact Below.refl _ _ | refine Below.alloc ?_ ?_ _ | refine Below.setCell ?_ ?_ _ | refine Below.drew ?_ | refine Below.trans ?_ (Below.mono (unhide HB7) ?_))); all_goals (first | exact Nat.le_refl _ | omega | (simp; done) | (simp; omega))))⟩

theorem walk (t B n : Int) (w : World) (_w0_0 : (Lit.int .i64 t).wf = true) (_w0_1 : (Lit.int .i64 B).wf = true) (_w1 : (Lit.int .i64 n).wf = true) (hg : ErrType w) :
    Calls Tryd.prog 6 #[.agg #[.int .i64 t, .int .i64 B], .int .i64 n] w fun e w' => e = .returned (.bool true) ∧ Below w.heap.size w w' := by
  by_cases h : WinM.fault t B = 0
  · have C1 := hide (fun w => rwindow_any t B w)
    have C2 := hide (fun w => wcheck_any t B w)
    rw [h] at C1 C2
    have C3 := hide (fun w => rtake_any (t := t) (B := B) n w (WinM.fault_zero.1 h))
    have C4 := hide (fun w => wtake_any t B n w)
    rw [WinM.take_rest n h] at C4
    exact walk_good t B n _ _ _ w (hide hg) C1 C2 C3 C4
  · have C4 := hide (fun w => wtake_any t B n w)
    rw [WinM.taken_no (by rw [WinM.take_bad n h]; exact h), WinM.take_bad n h] at C4
    exact walk_bad t B n _ w (hide hg) h (hide (fun w => rwindow_any t B w)) (hide (fun w => wcheck_any t B w)) C4


theorem gErr : Tryd.prog.globalNamed "errors.errorType" = some 0 := by kernel_rfl
theorem rtErr : (Tryd.prog.cutTypes.find? (·.1 == "internal/reflectlite.rtype")).map (·.2) = some 80 := by kernel_rfl
theorem oneRow : ((List.range 123).filter fun t => Tryd.prog.rowNamed t [101, 114, 114, 111, 114]) = [26] := by kernel_rfl
theorem sizeT : Tryd.prog.types.size = 123 := by kernel_rfl
theorem handle_of_laid {W : World} (h : laidMetH Tryd.prog Rows.windowTellsRow.laid W) : ErrType W := by
  have h' : laidMet Tryd.prog [] W ∧ handlesMet Tryd.prog Rows.windowTellsRow.laid W := h
  obtain ⟨name, u, ty, e1, e2, e3, e4, e5⟩ := h'.2 _ (List.mem_singleton.2 rfl)
  have en : name = [101, 114, 114, 111, 114] := (Option.some.inj e1).symm
  subst en
  obtain rfl := Option.some.inj (rtErr.symm.trans e2)
  have hm : ty ∈ (List.range 123).filter fun t => Tryd.prog.rowNamed t [101, 114, 114, 111, 114] := List.mem_filter.2 ⟨List.mem_range.2 (by rw [← sizeT]; exact e3), e4⟩
  rw [oneRow] at hm
  obtain rfl := List.mem_singleton.1 hm
  have hh : typeHandle Tryd.prog 26 = .pointer (some ⟨1, 26, none⟩) := by kernel_rfl
  rw [hh] at e5
  unfold ErrType
  simpa using World.var?_cell gErr e5 0
theorem door_met (os : Os) (args : Array Value) : laidMetH Tryd.prog Rows.windowTellsRow.laid ((World.doorLaid Tryd.prog 400 os).forCall (fun _ _ => 0) ⟨#[], args, []⟩).memory :=
  laidMetH_of_parts (laidMet_nil _ _) (by kernel_rfl)


set_option maxRecDepth 100000 in
theorem lifted (os : Os) (started : os.Started) (H : Type) (enc : TypeId × Value → H) :
    ReturnsInHanded {} Tryd.checked os 6 .any (fun w args => (Rows.windowTellsSpec.pre enc Tryd.prog Tryd.f6 [] false w args ∧ laidMetH Tryd.prog Rows.windowTellsRow.laid w) ∧ sizedMet enc Tryd.prog Tryd.f6 (OpenSpec.ofChange Rows.windowTellsSpec) false w args) (Rows.windowTellsSpec.post enc Tryd.prog Tryd.f6 false true false false) := by
  refine returnsInHanded_of_change_and (C := Tryd.checked) (X := fun w _ => laidMetH Tryd.prog Rows.windowTellsRow.laid w) (fun _ _ _ hh h => h.of_heap hh) own started (by kernel_rfl) Tryd.func6
    (ChangeSpec.witness_shaped (enc := enc) (C := Tryd.checked) (os := os) (X := fun w _ => laidMetH Tryd.prog Rows.windowTellsRow.laid w) false (World.doorLaid Tryd.prog 400 os) #[.agg #[.int .i64 0, .int .i64 0], .int .i64 0] 8 rfl (World.shaped_of_RefB (by kernel_rfl) (by kernel_rfl)) (by kernel_rfl) (by kernel_rfl) (by kernel_rfl) (door_met os _)) ?_
  intro W base args ds gs before hval0 hW _ hsz hL _
  have hg := handle_of_laid hL
  have hval : ∀ (j : Nat) t v, Tryd.f6.params[j]? = some t → args[j]? = some v → Value.okWide Tryd.prog W .any base t v := hval0
  have hW' := hW
  obtain ⟨p, q, hA0, hV, rfl, hfz, hnd⟩ := hW
  have hA : DataW.TrodAll enc Tryd.prog W 0 (fun _ => true) true Tryd.f6.params.toList args.toList ds p := hA0
  rw [Tryd.params6] at hA hval
  obtain ⟨v0, vs0, d0, ds0, p0, q0, hargs, rfl, rfl, h0, r0⟩ := trodAll_cons hA
  obtain ⟨v1, vs1, d1, ds1, p1, q1, rfl, rfl, rfl, h1, r1⟩ := trodAll_cons r0
  obtain ⟨rfl, rfl, rfl⟩ := trodAll_nil r1
  obtain rfl : args = #[v0, v1] := by cases args; simp_all
  obtain ⟨rfl, rfl⟩ := trodVars_none hV
  have k0 := h0
  have lt0 : ∀ x ∈ p0, x.block < W.heap.size := by obtain ⟨m, hm⟩ := k0; exact DataW.trod_lt m _ _ _ hm
  obtain ⟨c0_0, c0_1, y0_0, y0_1, m0, rfl, rfl, rfl, g0_0, g0_1⟩ := open_agg2 Tryd.underlying46 (by kernel_rfl) (by kernel_rfl) (hval 0 46 v0 rfl rfl) h0
  obtain ⟨a0_0, e0_0, rfl, w0_0⟩ := DataW.trod_int Tryd.underlying3 g0_0
  simp at e0_0; subst e0_0
  obtain ⟨a0_1, e0_1, rfl, w0_1⟩ := DataW.trod_int Tryd.underlying3 g0_1
  simp at e0_1; subst e0_1
  have k1 := h1
  have lt1 : ∀ x ∈ p1, x.block < W.heap.size := by obtain ⟨m, hm⟩ := k1; exact DataW.trod_lt m _ _ _ hm
  obtain ⟨a1, rfl, rfl, rfl, w1⟩ := open_int Tryd.underlying3 (hval 1 3 v1 rfl rfl) h1
  clear hA0 hval0
  refine (walk a0_0 a0_1 a1 W w0_0 w0_1 w1 hg).mono fun e W' ⟨he, bel⟩ => ?_
  subst he
  exact ⟨_, rfl, _, _, _, [], _, [], hW', trodAll_mk1 (shut_bool Tryd.underlying4 _), (trodAll_cons_mk (Below.trod laidOut (by kernel_rfl) (of_decide_eq_true (by kernel_rfl)) k0 bel lt0) (trodAll_cons_mk (Below.trod laidOut (by kernel_rfl) (of_decide_eq_true (by kernel_rfl)) k1 bel lt1) trodAll_mk0)), rfl, bel.frame _, fun h => by cases h⟩

theorem over : Rows.windowTellsRow.holds Tryd.pinned (OpenSpec.ofChange Rows.windowTellsSpec) :=
  OpenClaim.holds_of_wide 6 Tryd.f6 rfl rfl rfl rfl rfl rfl rfl ⟨rfl, rfl, rfl, rfl, rfl⟩ rfl rfl rfl rfl rfl (by kernel_rfl) Tryd.func6 (by kernel_rfl)
    (of_decide_eq_true (by kernel_rfl)) (by unfold Func.isWrapper; first | (rw [if_pos (by decide +kernel)]; kernel_rfl) | (rw [if_neg (by decide +kernel)]; exact ⟨rfl, rfl⟩))
    (fun os started H enc _ => lifted os started H enc)

theorem card : Rows.WindowTellsCardSaid :=
  Claim7.holds_tied_plain_at .later [] [.handle] true (true, "e8cbe923d7c0575d3f6fe6fc2d6ded02667df0b32199b21acacc92ab6a77b1b7") true
    over (fun _ h => by cases h) (by kernel_rfl) (fun _ h => by cases h) windowTells_row_tie rfl ⟨rfl, rfl⟩ (by kernel_rfl) rfl
    (fun f fn hf hfn => by
      obtain rfl : f = 6 := Option.some.inj ((show Tryd.prog.funcNamed "tokenfold/foldlaw1.WindowTells" = some 6 by kernel_rfl).symm.trans hf) |>.symm
      obtain rfl : fn = Tryd.f6 := (Option.some.inj (Tryd.func6.symm.trans hfn)).symm
      exact ⟨by kernel_rfl, fun j t ht => by
        rw [Tryd.params6] at ht
        have hm : t ∈ [46, 3] := by simpa using Array.mem_of_getElem? ht
        have hall : ([46, 3].all fun u => !Tryd.prog.wantsStandIn u) = true := by kernel_rfl
        exact (show Tryd.prog.wantsStandIn t = false by simpa using List.all_eq_true.1 hall t hm)⟩)
    (by kernel_rfl)

end Go.Proofs.YtbacjhdghepckacDoor.windowTells
namespace Go.Proofs.YtbacjhdghepckacDoor
theorem windowTells_holds : Rows.WindowTellsCardSaid := windowTells.card
#print axioms windowTells_holds
end Go.Proofs.YtbacjhdghepckacDoor

