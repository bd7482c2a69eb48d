/-
  ConnTells holds for every conn, number and number of shards: Number, Of and Route of package conn answer as the reference reckons, errors told by plain.Told. The listed variable errors.errorType starts as the program's text lays it (the card's tie). No other condition.
-/
import Derived.Test.YtholccdkmgpjladDoorRefConn
import Derived.Test.YtholccdkmgpjladDoorConnWalks
import Derived.Test.YtholccdkmgpjladDoorHeld
import Derived.Test.YtholccdkmgpjladDoorTie
import Derived.Test.YtholccdkmgpjladDoorCards
import Derived.ProofKit
import Derived.Lib.SmallJoins
import Derived.LaidMore
import Derived.LaidHandle
import Derived.LaidLaws
import Derived.Stop.Joined
import Derived.SevenTiedAt
import Derived.Deep.RegionHeld3
import Derived.Deep.Cut
namespace Go.Proofs.YtholccdkmgpjladDoor.connTells
open Go.ChangeShapes Go.WideShapes Go.ChangeAt Go.RowKit Go.Joins
set_option linter.unusedVariables false

theorem own : ownKnob Tryd.prog.godebug = none := by kernel_rfl
theorem laidOut : laidOutB Tryd.prog = true := by kernel_rfl
def IsRow (k : IntKind) (w : World) (a : Option Addr) (len cap : Nat) (zs : List Int) : Prop :=
  (a = none ∧ len = 0 ∧ cap = 0 ∧ zs = []) ∨
  ∃ x, a = some x ∧ len ≤ cap ∧ cap ≤ maxLen ∧ zs.length = cap ∧ (∀ i, i < zs.length → w.cell? (x.add i) = some (.int k (zs.getD i 0))) ∧ ∀ n ∈ zs, (Lit.int k n).wf = true
def IsPairs (w : World) (a : Option Addr) (len cap : Nat) (zs : List (Int × Int)) : Prop :=
  (a = none ∧ len = 0 ∧ cap = 0 ∧ zs = []) ∨
  ∃ x, a = some x ∧ len ≤ cap ∧ cap ≤ maxLen ∧ zs.length = cap ∧ ∀ i, i < cap → w.cell? (x.add (i * 2)) = some (.int .i64 (zs.getD i (0, 0)).1) ∧ w.cell? (x.add (i * 2 + 1)) = some (.int .i64 (zs.getD i (0, 0)).2)
def IsRows (w : World) (a : Option Addr) (len cap : Nat) (A : Nat → Option Addr) (L C : Nat → Nat) (Z : Nat → List Int) : Prop :=
  (a = none ∧ len = 0 ∧ cap = 0) ∨
  ∃ x, a = some x ∧ len ≤ cap ∧ cap ≤ maxLen ∧ ∀ r, r < cap → w.cell? (x.add r) = some (.slice (A r) (L r) (C r)) ∧ L r ≤ C r ∧ C r ≤ maxLen ∧ (Z r).length = C r ∧ (∀ n ∈ Z r, (Lit.int .i64 n).wf = true) ∧ (A r = none → C r = 0) ∧
    ∀ a', A r = some a' → ∀ c, c < C r → w.cell? (a'.add c) = some (.int .i64 ((Z r).getD c 0))


theorem same_same (n : Int) (w : World) (hg : ErrType w) : Calls Tryd.prog 8 #[errV n, .int .i64 n] w fun e w' => e = .returned (.bool true) ∧ Below w.heap.size w w' := by
  have h := same_any n n w hg
  rwa [show (n == n) = true by simp] at h

set_option maxHeartbeats 6400000 in
set_option maxRecDepth 8000 in
theorem walk_ok_nlow (s m n k x : Int) (w : World) (HG : Hid (ErrType w)) (hn : n < 0) 
    (CO : Hid (∀ w : World, Calls Tryd.prog 14 #[.agg #[.int .i64 s, .int .i64 m]] w fun e w' => e = .returned (.bool true) ∧ Below w.heap.size w w'))
    (CR : Hid (∀ w : World, Calls Tryd.prog 15 #[.agg #[.int .i64 s, .int .i64 m]] w fun e w' => e = .returned (.int .i64 x) ∧ Below w.heap.size w w'))
    (CN : Hid (∀ w : World, Calls Tryd.prog 16 #[.agg #[.int .i64 s, .int .i64 m]] w fun e w' => e = .returned (.tuple #[.int .i64 x, errV 0]) ∧ Below w.heap.size w w'))
    (CF : Hid (∀ w : World, Calls Tryd.prog 18 #[.int .i64 n] w fun e w' => e = .returned (.tuple #[.agg #[.int .i64 0, .int .i64 0], errV 1]) ∧ Below w.heap.size w w'))
    (CZ : Hid (∀ w : World, Calls Tryd.prog 19 #[.int .i64 n, .int .i64 k] w fun e w' => e = .returned (.tuple #[.int .i64 0, errV 1]) ∧ Below w.heap.size w w')) :
    Calls Tryd.prog 5 #[.agg #[.int .i64 s, .int .i64 m], .int .i64 n, .int .i64 k] w fun e w' => e = .returned (.bool true) ∧ Below w.heap.size w w' := by
  go_enter Tryd.func5, Tryd.ntmps5
  go_wp2_with fail
  refine (unhide CO _).mono ?_
  rintro e w1 ⟨rfl, hb1⟩
  have HP1 : Hid (Held w1 (w.heap.size) (n2 s m)) := hide (((Held.fresh (w := w) (n2 s m) 42 (by first | rfl | (simp; done))).later (by (repeat' (first | exact Below.refl _ _ | refine Below.alloc ?_ ?_ _ | refine Below.setCell ?_ ?_ _ | refine Below.drew ?_)); all_goals (first | exact Nat.le_refl _ | omega | (simp; done) | (simp; omega)))).later hb1)
  have HB1 := hide (show Below w.heap.size w w1 from Below.trans (by (repeat' (first | exact Below.refl _ _ | refine Below.alloc ?_ ?_ _ | refine Below.setCell ?_ ?_ _ | refine Below.drew ?_)); all_goals (first | exact Nat.le_refl _ | omega | (simp; done) | (simp; omega))) (hb1.mono (by first | exact Nat.le_refl _ | (simp; done) | (simp; omega))))
  clear hb1
  obtain ⟨p0, p1⟩ := (unhide HP1).c2.1
  have pl := (unhide HP1).2
  go_wp2_with fail
  refine (unhide CR _).mono ?_
  rintro e w2 ⟨rfl, hb2⟩
  clear p0 p1 pl
  have HP2 := hide (((unhide HP1).later (by (repeat' (first | exact Below.refl _ _ | refine Below.alloc ?_ ?_ _ | refine Below.setCell ?_ ?_ _ | refine Below.drew ?_)); all_goals (first | exact Nat.le_refl _ | omega | (simp; done) | (simp; omega)))).later hb2)
  have HB2 := hide (show Below w.heap.size w w2 from (by have := (unhide HP1).2; have := (unhide HB1).size; exact Below.trans (by (repeat' (first | exact Below.refl _ _ | refine Below.alloc ?_ ?_ _ | refine Below.setCell ?_ ?_ _ | refine Below.drew ?_ | refine Below.trans ?_ (Below.mono (unhide HB1) ?_))); all_goals (first | exact Nat.le_refl _ | omega | (simp; done) | (simp; omega))) (hb2.mono (by first | omega | (simp; done) | (simp; omega)))))
  clear hb2
  obtain ⟨p0, p1⟩ := (unhide HP2).c2.1
  have pl := (unhide HP2).2
  go_wp2_with fail
  refine (unhide CN _).mono ?_
  rintro e w3 ⟨rfl, hb3⟩
  clear p0 p1 pl
  have HP3 := hide (((unhide HP2).later (by (repeat' (first | exact Below.refl _ _ | refine Below.alloc ?_ ?_ _ | refine Below.setCell ?_ ?_ _ | refine Below.drew ?_)); all_goals (first | exact Nat.le_refl _ | omega | (simp; done) | (simp; omega)))).later hb3)
  have HB3 := hide (show Below w.heap.size w w3 from (by have := (unhide HP2).2; have := (unhide HB2).size; exact Below.trans (by (repeat' (first | exact Below.refl _ _ | refine Below.alloc ?_ ?_ _ | refine Below.setCell ?_ ?_ _ | refine Below.drew ?_ | refine Below.trans ?_ (Below.mono (unhide HB2) ?_))); all_goals (first | exact Nat.le_refl _ | omega | (simp; done) | (simp; omega))) (hb3.mono (by first | omega | (simp; done) | (simp; omega)))))
  clear hb3
  go_wp2_with fail
  refine (same_same 0 _ ((unhide HG).later (by have := (unhide HP3).2; have := (unhide HB3).size; exact (by (repeat' (first | exact Below.refl _ _ | refine Below.alloc ?_ ?_ _ | refine Below.setCell ?_ ?_ _ | refine Below.drew ?_ | refine Below.trans ?_ (Below.mono (unhide HB3) ?_))); all_goals (first | exact Nat.le_refl _ | omega | (simp; done) | (simp; omega)))))).mono ?_
  rintro e w4 ⟨rfl, hb4⟩
  have HP4 := hide (((unhide HP3).later (by (repeat' (first | exact Below.refl _ _ | refine Below.alloc ?_ ?_ _ | refine Below.setCell ?_ ?_ _ | refine Below.drew ?_)); all_goals (first | exact Nat.le_refl _ | omega | (simp; done) | (simp; omega)))).later hb4)
  have HB4 := hide (show Below w.heap.size w w4 from (by have := (unhide HP3).2; have := (unhide HB3).size; exact Below.trans (by (repeat' (first | exact Below.refl _ _ | refine Below.alloc ?_ ?_ _ | refine Below.setCell ?_ ?_ _ | refine Below.drew ?_ | refine Below.trans ?_ (Below.mono (unhide HB3) ?_))); all_goals (first | exact Nat.le_refl _ | omega | (simp; done) | (simp; omega))) (hb4.mono (by first | omega | (simp; done) | (simp; omega)))))
  clear hb4
  go_wp2_with fail
  refine (unhide CF _).mono ?_
  rintro e w5 ⟨rfl, hb5⟩
  have HQ5 : Hid (Held w5 (w4.heap.size) (n2 0 0)) := hide (((Held.fresh (w := w4) (n2 0 0) 42 (by first | rfl | (simp; done))).later (by (repeat' (first | exact Below.refl _ _ | refine Below.alloc ?_ ?_ _ | refine Below.setCell ?_ ?_ _ | refine Below.drew ?_)); all_goals (first | exact Nat.le_refl _ | omega | (simp; done) | (simp; omega)))).later hb5)
  have HB5 := hide (show Below w.heap.size w w5 from (by have := (unhide HB4).size; exact Below.trans (by (repeat' (first | exact Below.refl _ _ | refine Below.alloc ?_ ?_ _ | refine Below.setCell ?_ ?_ _ | refine Below.drew ?_ | refine Below.trans ?_ (Below.mono (unhide HB4) ?_))); all_goals (first | exact Nat.le_refl _ | omega | (simp; done) | (simp; omega))) (hb5.mono (by first | omega | (simp; done) | (simp; omega)))))
  clear hb5
  go_wp2_with fail
  refine (same_same 1 _ ((unhide HG).later (by have := (unhide HQ5).2; have := (unhide HB5).size; exact (by (repeat' (first | exact Below.refl _ _ | refine Below.alloc ?_ ?_ _ | refine Below.setCell ?_ ?_ _ | refine Below.drew ?_ | refine Below.trans ?_ (Below.mono (unhide HB5) ?_))); all_goals (first | exact Nat.le_refl _ | omega | (simp; done) | (simp; omega)))))).mono ?_
  rintro e w6 ⟨rfl, hb6⟩
  have HQ6 := hide (((unhide HQ5).later (by (repeat' (first | exact Below.refl _ _ | refine Below.alloc ?_ ?_ _ | refine Below.setCell ?_ ?_ _ | refine Below.drew ?_)); all_goals (first | exact Nat.le_refl _ | omega | (simp; done) | (simp; omega)))).later hb6)
  have HY6 : Hid (Held w6 (w5.heap.size) (n2 0 0)) := hide ((Held.fresh (n2 0 0) _ (by first | rfl | (simp; done))).later hb6)
  have HB6 := hide (show Below w.heap.size w w6 from (by have := (unhide HQ5).2; have := (unhide HB5).size; exact Below.trans (by (repeat' (first | exact Below.refl _ _ | refine Below.alloc ?_ ?_ _ | refine Below.setCell ?_ ?_ _ | refine Below.drew ?_ | refine Below.trans ?_ (Below.mono (unhide HB5) ?_))); all_goals (first | exact Nat.le_refl _ | omega | (simp; done) | (simp; omega))) (hb6.mono (by first | omega | (simp; done) | (simp; omega)))))
  clear hb6
  obtain ⟨q0, q1⟩ := (unhide HQ6).c2.1
  have ql := (unhide HQ6).2
  obtain ⟨y0, y1⟩ := (unhide HY6).c2.1
  have yl := (unhide HY6).2
  go_wp2_with fail
  refine (unhide CZ _).mono ?_
  rintro e w7 ⟨rfl, hb7⟩
  clear q0 q1 ql y0 y1 yl
  have HQ7 := hide (((unhide HQ6).later (by (repeat' (first | exact Below.refl _ _ | refine Below.alloc ?_ ?_ _ | refine Below.setCell ?_ ?_ _ | refine Below.drew ?_)); all_goals (first | exact Nat.le_refl _ | omega | (simp; done) | (simp; omega)))).later hb7)
  have HY7 := hide (((unhide HY6).later (by (repeat' (first | exact Below.refl _ _ | refine Below.alloc ?_ ?_ _ | refine Below.setCell ?_ ?_ _ | refine Below.drew ?_)); all_goals (first | exact Nat.le_refl _ | omega | (simp; done) | (simp; omega)))).later hb7)
  have HB7 := hide (show Below w.heap.size w w7 from (by have := (unhide HQ6).2; have := (unhide HY6).2; have := (unhide HB6).size; exact Below.trans (by (repeat' (first | exact Below.refl _ _ | refine Below.alloc ?_ ?_ _ | refine Below.setCell ?_ ?_ _ | refine Below.drew ?_ | refine Below.trans ?_ (Below.mono (unhide HB6) ?_))); all_goals (first | exact Nat.le_refl _ | omega | (simp; done) | (simp; omega))) (hb7.mono (by first | omega | (simp; done) | (simp; omega)))))
  clear hb7
  go_wp2_with fail
  refine (same_same 1 _ ((unhide HG).later (by have := (unhide HQ7).2; have := (unhide HY7).2; have := (unhide HB7).size; exact (by (repeat' (first | exact Below.refl _ _ | refine Below.alloc ?_ ?_ _ | refine Below.setCell ?_ ?_ _ | refine Below.drew ?_ | refine Below.trans ?_ (Below.mono (unhide HB7) ?_))); all_goals (first | exact Nat.le_refl _ | omega | (simp; done) | (simp; omega)))))).mono ?_
  rintro e w8 ⟨rfl, hb8⟩
  have HQ8 := hide (((unhide HQ7).later (by (repeat' (first | exact Below.refl _ _ | refine Below.alloc ?_ ?_ _ | refine Below.setCell ?_ ?_ _ | refine Below.drew ?_)); all_goals (first | exact Nat.le_refl _ | omega | (simp; done) | (simp; omega)))).later hb8)
  have HY8 := hide (((unhide HY7).later (by (repeat' (first | exact Below.refl _ _ | refine Below.alloc ?_ ?_ _ | refine Below.setCell ?_ ?_ _ | refine Below.drew ?_)); all_goals (first | exact Nat.le_refl _ | omega | (simp; done) | (simp; omega)))).later hb8)
  have HB8 := hide (show Below w.heap.size w w8 from (by have := (unhide HQ7).2; have := (unhide HY7).2; have := (unhide HB7).size; exact Below.trans (by (repeat' (first | exact Below.refl _ _ | refine Below.alloc ?_ ?_ _ | refine Below.setCell ?_ ?_ _ | refine Below.drew ?_ | refine Below.trans ?_ (Below.mono (unhide HB7) ?_))); all_goals (first | exact Nat.le_refl _ | omega | (simp; done) | (simp; omega))) (hb8.mono (by first | omega | (simp; done) | (simp; omega)))))
  clear hb8
  go_wp2
  go_ret
  exact ⟨rfl, (by have := (unhide HQ8).2; have := (unhide HY8).2; have := (unhide HB8).size; exact (by (repeat' (first | exact Below.refl _ _ | refine Below.alloc ?_ ?_ _ | refine Below.setCell ?_ ?_ _ | refine Below.drew ?_ | refine Below.trans ?_ (Below.mono (unhide HB8) ?_))); all_goals (first | exact Nat.le_refl _ | omega | (simp; done) | (simp; omega))))⟩

set_option maxHeartbeats 6400000 in
set_option maxRecDepth 8000 in
theorem walk_ok_nhigh (s m n k x : Int) (w : World) (HG : Hid (ErrType w)) (hn0 : 0 ≤ n) (hn : 65535 < n) 
    (CO : Hid (∀ w : World, Calls Tryd.prog 14 #[.agg #[.int .i64 s, .int .i64 m]] w fun e w' => e = .returned (.bool true) ∧ Below w.heap.size w w'))
    (CR : Hid (∀ w : World, Calls Tryd.prog 15 #[.agg #[.int .i64 s, .int .i64 m]] w fun e w' => e = .returned (.int .i64 x) ∧ Below w.heap.size w w'))
    (CN : Hid (∀ w : World, Calls Tryd.prog 16 #[.agg #[.int .i64 s, .int .i64 m]] w fun e w' => e = .returned (.tuple #[.int .i64 x, errV 0]) ∧ Below w.heap.size w w'))
    (CF : Hid (∀ w : World, Calls Tryd.prog 18 #[.int .i64 n] w fun e w' => e = .returned (.tuple #[.agg #[.int .i64 0, .int .i64 0], errV 1]) ∧ Below w.heap.size w w'))
    (CZ : Hid (∀ w : World, Calls Tryd.prog 19 #[.int .i64 n, .int .i64 k] w fun e w' => e = .returned (.tuple #[.int .i64 0, errV 1]) ∧ Below w.heap.size w w')) :
    Calls Tryd.prog 5 #[.agg #[.int .i64 s, .int .i64 m], .int .i64 n, .int .i64 k] w fun e w' => e = .returned (.bool true) ∧ Below w.heap.size w w' := by
  go_enter Tryd.func5, Tryd.ntmps5
  go_wp2_with fail
  refine (unhide CO _).mono ?_
  rintro e w1 ⟨rfl, hb1⟩
  have HP1 : Hid (Held w1 (w.heap.size) (n2 s m)) := hide (((Held.fresh (w := w) (n2 s m) 42 (by first | rfl | (simp; done))).later (by (repeat' (first | exact Below.refl _ _ | refine Below.alloc ?_ ?_ _ | refine Below.setCell ?_ ?_ _ | refine Below.drew ?_)); all_goals (first | exact Nat.le_refl _ | omega | (simp; done) | (simp; omega)))).later hb1)
  have HB1 := hide (show Below w.heap.size w w1 from Below.trans (by (repeat' (first | exact Below.refl _ _ | refine Below.alloc ?_ ?_ _ | refine Below.setCell ?_ ?_ _ | refine Below.drew ?_)); all_goals (first | exact Nat.le_refl _ | omega | (simp; done) | (simp; omega))) (hb1.mono (by first | exact Nat.le_refl _ | (simp; done) | (simp; omega))))
  clear hb1
  obtain ⟨p0, p1⟩ := (unhide HP1).c2.1
  have pl := (unhide HP1).2
  go_wp2_with fail
  refine (unhide CR _).mono ?_
  rintro e w2 ⟨rfl, hb2⟩
  clear p0 p1 pl
  have HP2 := hide (((unhide HP1).later (by (repeat' (first | exact Below.refl _ _ | refine Below.alloc ?_ ?_ _ | refine Below.setCell ?_ ?_ _ | refine Below.drew ?_)); all_goals (first | exact Nat.le_refl _ | omega | (simp; done) | (simp; omega)))).later hb2)
  have HB2 := hide (show Below w.heap.size w w2 from (by have := (unhide HP1).2; have := (unhide HB1).size; exact Below.trans (by (repeat' (first | exact Below.refl _ _ | refine Below.alloc ?_ ?_ _ | refine Below.setCell ?_ ?_ _ | refine Below.drew ?_ | refine Below.trans ?_ (Below.mono (unhide HB1) ?_))); all_goals (first | exact Nat.le_refl _ | omega | (simp; done) | (simp; omega))) (hb2.mono (by first | omega | (simp; done) | (simp; omega)))))
  clear hb2
  obtain ⟨p0, p1⟩ := (unhide HP2).c2.1
  have pl := (unhide HP2).2
  go_wp2_with fail
  refine (unhide CN _).mono ?_
  rintro e w3 ⟨rfl, hb3⟩
  clear p0 p1 pl
  have HP3 := hide (((unhide HP2).later (by (repeat' (first | exact Below.refl _ _ | refine Below.alloc ?_ ?_ _ | refine Below.setCell ?_ ?_ _ | refine Below.drew ?_)); all_goals (first | exact Nat.le_refl _ | omega | (simp; done) | (simp; omega)))).later hb3)
  have HB3 := hide (show Below w.heap.size w w3 from (by have := (unhide HP2).2; have := (unhide HB2).size; exact Below.trans (by (repeat' (first | exact Below.refl _ _ | refine Below.alloc ?_ ?_ _ | refine Below.setCell ?_ ?_ _ | refine Below.drew ?_ | refine Below.trans ?_ (Below.mono (unhide HB2) ?_))); all_goals (first | exact Nat.le_refl _ | omega | (simp; done) | (simp; omega))) (hb3.mono (by first | omega | (simp; done) | (simp; omega)))))
  clear hb3
  go_wp2_with fail
  refine (same_same 0 _ ((unhide HG).later (by have := (unhide HP3).2; have := (unhide HB3).size; exact (by (repeat' (first | exact Below.refl _ _ | refine Below.alloc ?_ ?_ _ | refine Below.setCell ?_ ?_ _ | refine Below.drew ?_ | refine Below.trans ?_ (Below.mono (unhide HB3) ?_))); all_goals (first | exact Nat.le_refl _ | omega | (simp; done) | (simp; omega)))))).mono ?_
  rintro e w4 ⟨rfl, hb4⟩
  have HP4 := hide (((unhide HP3).later (by (repeat' (first | exact Below.refl _ _ | refine Below.alloc ?_ ?_ _ | refine Below.setCell ?_ ?_ _ | refine Below.drew ?_)); all_goals (first | exact Nat.le_refl _ | omega | (simp; done) | (simp; omega)))).later hb4)
  have HB4 := hide (show Below w.heap.size w w4 from (by have := (unhide HP3).2; have := (unhide HB3).size; exact Below.trans (by (repeat' (first | exact Below.refl _ _ | refine Below.alloc ?_ ?_ _ | refine Below.setCell ?_ ?_ _ | refine Below.drew ?_ | refine Below.trans ?_ (Below.mono (unhide HB3) ?_))); all_goals (first | exact Nat.le_refl _ | omega | (simp; done) | (simp; omega))) (hb4.mono (by first | omega | (simp; done) | (simp; omega)))))
  clear hb4
  go_wp2_with fail
  refine (unhide CF _).mono ?_
  rintro e w5 ⟨rfl, hb5⟩
  have HQ5 : Hid (Held w5 (w4.heap.size) (n2 0 0)) := hide (((Held.fresh (w := w4) (n2 0 0) 42 (by first | rfl | (simp; done))).later (by (repeat' (first | exact Below.refl _ _ | refine Below.alloc ?_ ?_ _ | refine Below.setCell ?_ ?_ _ | refine Below.drew ?_)); all_goals (first | exact Nat.le_refl _ | omega | (simp; done) | (simp; omega)))).later hb5)
  have HB5 := hide (show Below w.heap.size w w5 from (by have := (unhide HB4).size; exact Below.trans (by (repeat' (first | exact Below.refl _ _ | refine Below.alloc ?_ ?_ _ | refine Below.setCell ?_ ?_ _ | refine Below.drew ?_ | refine Below.trans ?_ (Below.mono (unhide HB4) ?_))); all_goals (first | exact Nat.le_refl _ | omega | (simp; done) | (simp; omega))) (hb5.mono (by first | omega | (simp; done) | (simp; omega)))))
  clear hb5
  go_wp2_with fail
  refine (same_same 1 _ ((unhide HG).later (by have := (unhide HQ5).2; have := (unhide HB5).size; exact (by (repeat' (first | exact Below.refl _ _ | refine Below.alloc ?_ ?_ _ | refine Below.setCell ?_ ?_ _ | refine Below.drew ?_ | refine Below.trans ?_ (Below.mono (unhide HB5) ?_))); all_goals (first | exact Nat.le_refl _ | omega | (simp; done) | (simp; omega)))))).mono ?_
  rintro e w6 ⟨rfl, hb6⟩
  have HQ6 := hide (((unhide HQ5).later (by (repeat' (first | exact Below.refl _ _ | refine Below.alloc ?_ ?_ _ | refine Below.setCell ?_ ?_ _ | refine Below.drew ?_)); all_goals (first | exact Nat.le_refl _ | omega | (simp; done) | (simp; omega)))).later hb6)
  have HY6 : Hid (Held w6 (w5.heap.size) (n2 0 0)) := hide ((Held.fresh (n2 0 0) _ (by first | rfl | (simp; done))).later hb6)
  have HB6 := hide (show Below w.heap.size w w6 from (by have := (unhide HQ5).2; have := (unhide HB5).size; exact Below.trans (by (repeat' (first | exact Below.refl _ _ | refine Below.alloc ?_ ?_ _ | refine Below.setCell ?_ ?_ _ | refine Below.drew ?_ | refine Below.trans ?_ (Below.mono (unhide HB5) ?_))); all_goals (first | exact Nat.le_refl _ | omega | (simp; done) | (simp; omega))) (hb6.mono (by first | omega | (simp; done) | (simp; omega)))))
  clear hb6
  obtain ⟨q0, q1⟩ := (unhide HQ6).c2.1
  have ql := (unhide HQ6).2
  obtain ⟨y0, y1⟩ := (unhide HY6).c2.1
  have yl := (unhide HY6).2
  go_wp2_with fail
  refine (unhide CZ _).mono ?_
  rintro e w7 ⟨rfl, hb7⟩
  clear q0 q1 ql y0 y1 yl
  have HQ7 := hide (((unhide HQ6).later (by (repeat' (first | exact Below.refl _ _ | refine Below.alloc ?_ ?_ _ | refine Below.setCell ?_ ?_ _ | refine Below.drew ?_)); all_goals (first | exact Nat.le_refl _ | omega | (simp; done) | (simp; omega)))).later hb7)
  have HY7 := hide (((unhide HY6).later (by (repeat' (first | exact Below.refl _ _ | refine Below.alloc ?_ ?_ _ | refine Below.setCell ?_ ?_ _ | refine Below.drew ?_)); all_goals (first | exact Nat.le_refl _ | omega | (simp; done) | (simp; omega)))).later hb7)
  have HB7 := hide (show Below w.heap.size w w7 from (by have := (unhide HQ6).2; have := (unhide HY6).2; have := (unhide HB6).size; exact Below.trans (by (repeat' (first | exact Below.refl _ _ | refine Below.alloc ?_ ?_ _ | refine Below.setCell ?_ ?_ _ | refine Below.drew ?_ | refine Below.trans ?_ (Below.mono (unhide HB6) ?_))); all_goals (first | exact Nat.le_refl _ | omega | (simp; done) | (simp; omega))) (hb7.mono (by first | omega | (simp; done) | (simp; omega)))))
  clear hb7
  go_wp2_with fail
  refine (same_same 1 _ ((unhide HG).later (by have := (unhide HQ7).2; have := (unhide HY7).2; have := (unhide HB7).size; exact (by (repeat' (first | exact Below.refl _ _ | refine Below.alloc ?_ ?_ _ | refine Below.setCell ?_ ?_ _ | refine Below.drew ?_ | refine Below.trans ?_ (Below.mono (unhide HB7) ?_))); all_goals (first | exact Nat.le_refl _ | omega | (simp; done) | (simp; omega)))))).mono ?_
  rintro e w8 ⟨rfl, hb8⟩
  have HQ8 := hide (((unhide HQ7).later (by (repeat' (first | exact Below.refl _ _ | refine Below.alloc ?_ ?_ _ | refine Below.setCell ?_ ?_ _ | refine Below.drew ?_)); all_goals (first | exact Nat.le_refl _ | omega | (simp; done) | (simp; omega)))).later hb8)
  have HY8 := hide (((unhide HY7).later (by (repeat' (first | exact Below.refl _ _ | refine Below.alloc ?_ ?_ _ | refine Below.setCell ?_ ?_ _ | refine Below.drew ?_)); all_goals (first | exact Nat.le_refl _ | omega | (simp; done) | (simp; omega)))).later hb8)
  have HB8 := hide (show Below w.heap.size w w8 from (by have := (unhide HQ7).2; have := (unhide HY7).2; have := (unhide HB7).size; exact Below.trans (by (repeat' (first | exact Below.refl _ _ | refine Below.alloc ?_ ?_ _ | refine Below.setCell ?_ ?_ _ | refine Below.drew ?_ | refine Below.trans ?_ (Below.mono (unhide HB7) ?_))); all_goals (first | exact Nat.le_refl _ | omega | (simp; done) | (simp; omega))) (hb8.mono (by first | omega | (simp; done) | (simp; omega)))))
  clear hb8
  go_wp2
  go_ret
  exact ⟨rfl, (by have := (unhide HQ8).2; have := (unhide HY8).2; have := (unhide HB8).size; exact (by (repeat' (first | exact Below.refl _ _ | refine Below.alloc ?_ ?_ _ | refine Below.setCell ?_ ?_ _ | refine Below.drew ?_ | refine Below.trans ?_ (Below.mono (unhide HB8) ?_))); all_goals (first | exact Nat.le_refl _ | omega | (simp; done) | (simp; omega))))⟩

set_option maxHeartbeats 6400000 in
set_option maxRecDepth 8000 in
theorem walk_ok_klow (s m n k x t : Int) (w : World) (HG : Hid (ErrType w)) (hn0 : 0 ≤ n) (hn1 : n ≤ 65535) (hk : k < 1) (t0 : 0 ≤ t) (t1 : t ≤ 65535)
    (CO : Hid (∀ w : World, Calls Tryd.prog 14 #[.agg #[.int .i64 s, .int .i64 m]] w fun e w' => e = .returned (.bool true) ∧ Below w.heap.size w w'))
    (CR : Hid (∀ w : World, Calls Tryd.prog 15 #[.agg #[.int .i64 s, .int .i64 m]] w fun e w' => e = .returned (.int .i64 x) ∧ Below w.heap.size w w'))
    (CN : Hid (∀ w : World, Calls Tryd.prog 16 #[.agg #[.int .i64 s, .int .i64 m]] w fun e w' => e = .returned (.tuple #[.int .i64 x, errV 0]) ∧ Below w.heap.size w w'))
    (CT : Hid (∀ w : World, Calls Tryd.prog 17 #[.int .i64 n] w fun e w' => e = .returned (.int .i64 t) ∧ w' = w))
    (CF : Hid (∀ w : World, Calls Tryd.prog 18 #[.int .i64 n] w fun e w' => e = .returned (.tuple #[.agg #[.int .i64 (t / 4096), .int .i64 (t % 4096)], errV 0]) ∧ Below w.heap.size w w'))
    (CZ : Hid (∀ w : World, Calls Tryd.prog 19 #[.int .i64 n, .int .i64 k] w fun e w' => e = .returned (.tuple #[.int .i64 0, errV 1]) ∧ Below w.heap.size w w')) :
    Calls Tryd.prog 5 #[.agg #[.int .i64 s, .int .i64 m], .int .i64 n, .int .i64 k] w fun e w' => e = .returned (.bool true) ∧ Below w.heap.size w w' := by
  have d0 : 0 ≤ t / 4096 := by omega
  have d1 : t / 4096 ≤ 15 := by omega
  go_enter Tryd.func5, Tryd.ntmps5
  go_wp2_with fail
  refine (unhide CO _).mono ?_
  rintro e w1 ⟨rfl, hb1⟩
  have HP1 : Hid (Held w1 (w.heap.size) (n2 s m)) := hide (((Held.fresh (w := w) (n2 s m) 42 (by first | rfl | (simp; done))).later (by (repeat' (first | exact Below.refl _ _ | refine Below.alloc ?_ ?_ _ | refine Below.setCell ?_ ?_ _ | refine Below.drew ?_)); all_goals (first | exact Nat.le_refl _ | omega | (simp; done) | (simp; omega)))).later hb1)
  have HB1 := hide (show Below w.heap.size w w1 from Below.trans (by (repeat' (first | exact Below.refl _ _ | refine Below.alloc ?_ ?_ _ | refine Below.setCell ?_ ?_ _ | refine Below.drew ?_)); all_goals (first | exact Nat.le_refl _ | omega | (simp; done) | (simp; omega))) (hb1.mono (by first | exact Nat.le_refl _ | (simp; done) | (simp; omega))))
  clear hb1
  obtain ⟨p0, p1⟩ := (unhide HP1).c2.1
  have pl := (unhide HP1).2
  go_wp2_with fail
  refine (unhide CR _).mono ?_
  rintro e w2 ⟨rfl, hb2⟩
  clear p0 p1 pl
  have HP2 := hide (((unhide HP1).later (by (repeat' (first | exact Below.refl _ _ | refine Below.alloc ?_ ?_ _ | refine Below.setCell ?_ ?_ _ | refine Below.drew ?_)); all_goals (first | exact Nat.le_refl _ | omega | (simp; done) | (simp; omega)))).later hb2)
  have HB2 := hide (show Below w.heap.size w w2 from (by have := (unhide HP1).2; have := (unhide HB1).size; exact Below.trans (by (repeat' (first | exact Below.refl _ _ | refine Below.alloc ?_ ?_ _ | refine Below.setCell ?_ ?_ _ | refine Below.drew ?_ | refine Below.trans ?_ (Below.mono (unhide HB1) ?_))); all_goals (first | exact Nat.le_refl _ | omega | (simp; done) | (simp; omega))) (hb2.mono (by first | omega | (simp; done) | (simp; omega)))))
  clear hb2
  obtain ⟨p0, p1⟩ := (unhide HP2).c2.1
  have pl := (unhide HP2).2
  go_wp2_with fail
  refine (unhide CN _).mono ?_
  rintro e w3 ⟨rfl, hb3⟩
  clear p0 p1 pl
  have HP3 := hide (((unhide HP2).later (by (repeat' (first | exact Below.refl _ _ | refine Below.alloc ?_ ?_ _ | refine Below.setCell ?_ ?_ _ | refine Below.drew ?_)); all_goals (first | exact Nat.le_refl _ | omega | (simp; done) | (simp; omega)))).later hb3)
  have HB3 := hide (show Below w.heap.size w w3 from (by have := (unhide HP2).2; have := (unhide HB2).size; exact Below.trans (by (repeat' (first | exact Below.refl _ _ | refine Below.alloc ?_ ?_ _ | refine Below.setCell ?_ ?_ _ | refine Below.drew ?_ | refine Below.trans ?_ (Below.mono (unhide HB2) ?_))); all_goals (first | exact Nat.le_refl _ | omega | (simp; done) | (simp; omega))) (hb3.mono (by first | omega | (simp; done) | (simp; omega)))))
  clear hb3
  go_wp2_with fail
  refine (same_same 0 _ ((unhide HG).later (by have := (unhide HP3).2; have := (unhide HB3).size; exact (by (repeat' (first | exact Below.refl _ _ | refine Below.alloc ?_ ?_ _ | refine Below.setCell ?_ ?_ _ | refine Below.drew ?_ | refine Below.trans ?_ (Below.mono (unhide HB3) ?_))); all_goals (first | exact Nat.le_refl _ | omega | (simp; done) | (simp; omega)))))).mono ?_
  rintro e w4 ⟨rfl, hb4⟩
  have HP4 := hide (((unhide HP3).later (by (repeat' (first | exact Below.refl _ _ | refine Below.alloc ?_ ?_ _ | refine Below.setCell ?_ ?_ _ | refine Below.drew ?_)); all_goals (first | exact Nat.le_refl _ | omega | (simp; done) | (simp; omega)))).later hb4)
  have HB4 := hide (show Below w.heap.size w w4 from (by have := (unhide HP3).2; have := (unhide HB3).size; exact Below.trans (by (repeat' (first | exact Below.refl _ _ | refine Below.alloc ?_ ?_ _ | refine Below.setCell ?_ ?_ _ | refine Below.drew ?_ | refine Below.trans ?_ (Below.mono (unhide HB3) ?_))); all_goals (first | exact Nat.le_refl _ | omega | (simp; done) | (simp; omega))) (hb4.mono (by first | omega | (simp; done) | (simp; omega)))))
  clear hb4
  go_wp2_with fail
  refine (unhide CT _).mono ?_
  rintro e w' ⟨rfl, hw⟩
  obtain rfl := hw.symm
  clear hw
  go_wp2_with fail
  refine (unhide CF _).mono ?_
  rintro e w5 ⟨rfl, hb5⟩
  have HQ5 : Hid (Held w5 (w4.heap.size) (n2 (t / 4096) (t % 4096))) := hide (((Held.fresh (w := w4) (n2 (t / 4096) (t % 4096)) 42 (by first | rfl | (simp; done))).later (by (repeat' (first | exact Below.refl _ _ | refine Below.alloc ?_ ?_ _ | refine Below.setCell ?_ ?_ _ | refine Below.drew ?_)); all_goals (first | exact Nat.le_refl _ | omega | (simp; done) | (simp; omega)))).later hb5)
  have HB5 := hide (show Below w.heap.size w w5 from (by have := (unhide HB4).size; exact Below.trans (by (repeat' (first | exact Below.refl _ _ | refine Below.alloc ?_ ?_ _ | refine Below.setCell ?_ ?_ _ | refine Below.drew ?_ | refine Below.trans ?_ (Below.mono (unhide HB4) ?_))); all_goals (first | exact Nat.le_refl _ | omega | (simp; done) | (simp; omega))) (hb5.mono (by first | omega | (simp; done) | (simp; omega)))))
  clear hb5
  go_wp2_with fail
  refine (same_same 0 _ ((unhide HG).later (by have := (unhide HQ5).2; have := (unhide HB5).size; exact (by (repeat' (first | exact Below.refl _ _ | refine Below.alloc ?_ ?_ _ | refine Below.setCell ?_ ?_ _ | refine Below.drew ?_ | refine Below.trans ?_ (Below.mono (unhide HB5) ?_))); all_goals (first | exact Nat.le_refl _ | omega | (simp; done) | (simp; omega)))))).mono ?_
  rintro e w6 ⟨rfl, hb6⟩
  have HQ6 := hide (((unhide HQ5).later (by (repeat' (first | exact Below.refl _ _ | refine Below.alloc ?_ ?_ _ | refine Below.setCell ?_ ?_ _ | refine Below.drew ?_)); all_goals (first | exact Nat.le_refl _ | omega | (simp; done) | (simp; omega)))).later hb6)
  have HY6 : Hid (Held w6 (w5.heap.size) (n2 (t / 4096) (t % 4096))) := hide ((Held.fresh (n2 (t / 4096) (t % 4096)) _ (by first | rfl | (simp; done))).later hb6)
  have HB6 := hide (show Below w.heap.size w w6 from (by have := (unhide HQ5).2; have := (unhide HB5).size; exact Below.trans (by (repeat' (first | exact Below.refl _ _ | refine Below.alloc ?_ ?_ _ | refine Below.setCell ?_ ?_ _ | refine Below.drew ?_ | refine Below.trans ?_ (Below.mono (unhide HB5) ?_))); all_goals (first | exact Nat.le_refl _ | omega | (simp; done) | (simp; omega))) (hb6.mono (by first | omega | (simp; done) | (simp; omega)))))
  clear hb6
  obtain ⟨q0, q1⟩ := (unhide HQ6).c2.1
  have ql := (unhide HQ6).2
  obtain ⟨y0, y1⟩ := (unhide HY6).c2.1
  have yl := (unhide HY6).2
  go_wp2_with fail
  refine (unhide CZ _).mono ?_
  rintro e w7 ⟨rfl, hb7⟩
  clear q0 q1 ql y0 y1 yl
  have HQ7 := hide (((unhide HQ6).later (by (repeat' (first | exact Below.refl _ _ | refine Below.alloc ?_ ?_ _ | refine Below.setCell ?_ ?_ _ | refine Below.drew ?_)); all_goals (first | exact Nat.le_refl _ | omega | (simp; done) | (simp; omega)))).later hb7)
  have HY7 := hide (((unhide HY6).later (by (repeat' (first | exact Below.refl _ _ | refine Below.alloc ?_ ?_ _ | refine Below.setCell ?_ ?_ _ | refine Below.drew ?_)); all_goals (first | exact Nat.le_refl _ | omega | (simp; done) | (simp; omega)))).later hb7)
  have HB7 := hide (show Below w.heap.size w w7 from (by have := (unhide HQ6).2; have := (unhide HY6).2; have := (unhide HB6).size; exact Below.trans (by (repeat' (first | exact Below.refl _ _ | refine Below.alloc ?_ ?_ _ | refine Below.setCell ?_ ?_ _ | refine Below.drew ?_ | refine Below.trans ?_ (Below.mono (unhide HB6) ?_))); all_goals (first | exact Nat.le_refl _ | omega | (simp; done) | (simp; omega))) (hb7.mono (by first | omega | (simp; done) | (simp; omega)))))
  clear hb7
  go_wp2_with fail
  refine (same_same 1 _ ((unhide HG).later (by have := (unhide HQ7).2; have := (unhide HY7).2; have := (unhide HB7).size; exact (by (repeat' (first | exact Below.refl _ _ | refine Below.alloc ?_ ?_ _ | refine Below.setCell ?_ ?_ _ | refine Below.drew ?_ | refine Below.trans ?_ (Below.mono (unhide HB7) ?_))); all_goals (first | exact Nat.le_refl _ | omega | (simp; done) | (simp; omega)))))).mono ?_
  rintro e w8 ⟨rfl, hb8⟩
  have HQ8 := hide (((unhide HQ7).later (by (repeat' (first | exact Below.refl _ _ | refine Below.alloc ?_ ?_ _ | refine Below.setCell ?_ ?_ _ | refine Below.drew ?_)); all_goals (first | exact Nat.le_refl _ | omega | (simp; done) | (simp; omega)))).later hb8)
  have HY8 := hide (((unhide HY7).later (by (repeat' (first | exact Below.refl _ _ | refine Below.alloc ?_ ?_ _ | refine Below.setCell ?_ ?_ _ | refine Below.drew ?_)); all_goals (first | exact Nat.le_refl _ | omega | (simp; done) | (simp; omega)))).later hb8)
  have HB8 := hide (show Below w.heap.size w w8 from (by have := (unhide HQ7).2; have := (unhide HY7).2; have := (unhide HB7).size; exact Below.trans (by (repeat' (first | exact Below.refl _ _ | refine Below.alloc ?_ ?_ _ | refine Below.setCell ?_ ?_ _ | refine Below.drew ?_ | refine Below.trans ?_ (Below.mono (unhide HB7) ?_))); all_goals (first | exact Nat.le_refl _ | omega | (simp; done) | (simp; omega))) (hb8.mono (by first | omega | (simp; done) | (simp; omega)))))
  clear hb8
  go_wp2
  go_ret
  exact ⟨rfl, (by have := (unhide HQ8).2; have := (unhide HY8).2; have := (unhide HB8).size; exact (by (repeat' (first | exact Below.refl _ _ | refine Below.alloc ?_ ?_ _ | refine Below.setCell ?_ ?_ _ | refine Below.drew ?_ | refine Below.trans ?_ (Below.mono (unhide HB8) ?_))); all_goals (first | exact Nat.le_refl _ | omega | (simp; done) | (simp; omega))))⟩

set_option maxHeartbeats 6400000 in
set_option maxRecDepth 8000 in
theorem walk_ok_khigh (s m n k x t : Int) (w : World) (HG : Hid (ErrType w)) (hn0 : 0 ≤ n) (hn1 : n ≤ 65535) (hk0 : 1 ≤ k) (hk : 16 < k) (t0 : 0 ≤ t) (t1 : t ≤ 65535)
    (CO : Hid (∀ w : World, Calls Tryd.prog 14 #[.agg #[.int .i64 s, .int .i64 m]] w fun e w' => e = .returned (.bool true) ∧ Below w.heap.size w w'))
    (CR : Hid (∀ w : World, Calls Tryd.prog 15 #[.agg #[.int .i64 s, .int .i64 m]] w fun e w' => e = .returned (.int .i64 x) ∧ Below w.heap.size w w'))
    (CN : Hid (∀ w : World, Calls Tryd.prog 16 #[.agg #[.int .i64 s, .int .i64 m]] w fun e w' => e = .returned (.tuple #[.int .i64 x, errV 0]) ∧ Below w.heap.size w w'))
    (CT : Hid (∀ w : World, Calls Tryd.prog 17 #[.int .i64 n] w fun e w' => e = .returned (.int .i64 t) ∧ w' = w))
    (CF : Hid (∀ w : World, Calls Tryd.prog 18 #[.int .i64 n] w fun e w' => e = .returned (.tuple #[.agg #[.int .i64 (t / 4096), .int .i64 (t % 4096)], errV 0]) ∧ Below w.heap.size w w'))
    (CZ : Hid (∀ w : World, Calls Tryd.prog 19 #[.int .i64 n, .int .i64 k] w fun e w' => e = .returned (.tuple #[.int .i64 0, errV 1]) ∧ Below w.heap.size w w')) :
    Calls Tryd.prog 5 #[.agg #[.int .i64 s, .int .i64 m], .int .i64 n, .int .i64 k] w fun e w' => e = .returned (.bool true) ∧ Below w.heap.size w w' := by
  have d0 : 0 ≤ t / 4096 := by omega
  have d1 : t / 4096 ≤ 15 := by omega
  go_enter Tryd.func5, Tryd.ntmps5
  go_wp2_with fail
  refine (unhide CO _).mono ?_
  rintro e w1 ⟨rfl, hb1⟩
  have HP1 : Hid (Held w1 (w.heap.size) (n2 s m)) := hide (((Held.fresh (w := w) (n2 s m) 42 (by first | rfl | (simp; done))).later (by (repeat' (first | exact Below.refl _ _ | refine Below.alloc ?_ ?_ _ | refine Below.setCell ?_ ?_ _ | refine Below.drew ?_)); all_goals (first | exact Nat.le_refl _ | omega | (simp; done) | (simp; omega)))).later hb1)
  have HB1 := hide (show Below w.heap.size w w1 from Below.trans (by (repeat' (first | exact Below.refl _ _ | refine Below.alloc ?_ ?_ _ | refine Below.setCell ?_ ?_ _ | refine Below.drew ?_)); all_goals (first | exact Nat.le_refl _ | omega | (simp; done) | (simp; omega))) (hb1.mono (by first | exact Nat.le_refl _ | (simp; done) | (simp; omega))))
  clear hb1
  obtain ⟨p0, p1⟩ := (unhide HP1).c2.1
  have pl := (unhide HP1).2
  go_wp2_with fail
  refine (unhide CR _).mono ?_
  rintro e w2 ⟨rfl, hb2⟩
  clear p0 p1 pl
  have HP2 := hide (((unhide HP1).later (by (repeat' (first | exact Below.refl _ _ | refine Below.alloc ?_ ?_ _ | refine Below.setCell ?_ ?_ _ | refine Below.drew ?_)); all_goals (first | exact Nat.le_refl _ | omega | (simp; done) | (simp; omega)))).later hb2)
  have HB2 := hide (show Below w.heap.size w w2 from (by have := (unhide HP1).2; have := (unhide HB1).size; exact Below.trans (by (repeat' (first | exact Below.refl _ _ | refine Below.alloc ?_ ?_ _ | refine Below.setCell ?_ ?_ _ | refine Below.drew ?_ | refine Below.trans ?_ (Below.mono (unhide HB1) ?_))); all_goals (first | exact Nat.le_refl _ | omega | (simp; done) | (simp; omega))) (hb2.mono (by first | omega | (simp; done) | (simp; omega)))))
  clear hb2
  obtain ⟨p0, p1⟩ := (unhide HP2).c2.1
  have pl := (unhide HP2).2
  go_wp2_with fail
  refine (unhide CN _).mono ?_
  rintro e w3 ⟨rfl, hb3⟩
  clear p0 p1 pl
  have HP3 := hide (((unhide HP2).later (by (repeat' (first | exact Below.refl _ _ | refine Below.alloc ?_ ?_ _ | refine Below.setCell ?_ ?_ _ | refine Below.drew ?_)); all_goals (first | exact Nat.le_refl _ | omega | (simp; done) | (simp; omega)))).later hb3)
  have HB3 := hide (show Below w.heap.size w w3 from (by have := (unhide HP2).2; have := (unhide HB2).size; exact Below.trans (by (repeat' (first | exact Below.refl _ _ | refine Below.alloc ?_ ?_ _ | refine Below.setCell ?_ ?_ _ | refine Below.drew ?_ | refine Below.trans ?_ (Below.mono (unhide HB2) ?_))); all_goals (first | exact Nat.le_refl _ | omega | (simp; done) | (simp; omega))) (hb3.mono (by first | omega | (simp; done) | (simp; omega)))))
  clear hb3
  go_wp2_with fail
  refine (same_same 0 _ ((unhide HG).later (by have := (unhide HP3).2; have := (unhide HB3).size; exact (by (repeat' (first | exact Below.refl _ _ | refine Below.alloc ?_ ?_ _ | refine Below.setCell ?_ ?_ _ | refine Below.drew ?_ | refine Below.trans ?_ (Below.mono (unhide HB3) ?_))); all_goals (first | exact Nat.le_refl _ | omega | (simp; done) | (simp; omega)))))).mono ?_
  rintro e w4 ⟨rfl, hb4⟩
  have HP4 := hide (((unhide HP3).later (by (repeat' (first | exact Below.refl _ _ | refine Below.alloc ?_ ?_ _ | refine Below.setCell ?_ ?_ _ | refine Below.drew ?_)); all_goals (first | exact Nat.le_refl _ | omega | (simp; done) | (simp; omega)))).later hb4)
  have HB4 := hide (show Below w.heap.size w w4 from (by have := (unhide HP3).2; have := (unhide HB3).size; exact Below.trans (by (repeat' (first | exact Below.refl _ _ | refine Below.alloc ?_ ?_ _ | refine Below.setCell ?_ ?_ _ | refine Below.drew ?_ | refine Below.trans ?_ (Below.mono (unhide HB3) ?_))); all_goals (first | exact Nat.le_refl _ | omega | (simp; done) | (simp; omega))) (hb4.mono (by first | omega | (simp; done) | (simp; omega)))))
  clear hb4
  go_wp2_with fail
  refine (unhide CT _).mono ?_
  rintro e w' ⟨rfl, hw⟩
  obtain rfl := hw.symm
  clear hw
  go_wp2_with fail
  refine (unhide CF _).mono ?_
  rintro e w5 ⟨rfl, hb5⟩
  have HQ5 : Hid (Held w5 (w4.heap.size) (n2 (t / 4096) (t % 4096))) := hide (((Held.fresh (w := w4) (n2 (t / 4096) (t % 4096)) 42 (by first | rfl | (simp; done))).later (by (repeat' (first | exact Below.refl _ _ | refine Below.alloc ?_ ?_ _ | refine Below.setCell ?_ ?_ _ | refine Below.drew ?_)); all_goals (first | exact Nat.le_refl _ | omega | (simp; done) | (simp; omega)))).later hb5)
  have HB5 := hide (show Below w.heap.size w w5 from (by have := (unhide HB4).size; exact Below.trans (by (repeat' (first | exact Below.refl _ _ | refine Below.alloc ?_ ?_ _ | refine Below.setCell ?_ ?_ _ | refine Below.drew ?_ | refine Below.trans ?_ (Below.mono (unhide HB4) ?_))); all_goals (first | exact Nat.le_refl _ | omega | (simp; done) | (simp; omega))) (hb5.mono (by first | omega | (simp; done) | (simp; omega)))))
  clear hb5
  go_wp2_with fail
  refine (same_same 0 _ ((unhide HG).later (by have := (unhide HQ5).2; have := (unhide HB5).size; exact (by (repeat' (first | exact Below.refl _ _ | refine Below.alloc ?_ ?_ _ | refine Below.setCell ?_ ?_ _ | refine Below.drew ?_ | refine Below.trans ?_ (Below.mono (unhide HB5) ?_))); all_goals (first | exact Nat.le_refl _ | omega | (simp; done) | (simp; omega)))))).mono ?_
  rintro e w6 ⟨rfl, hb6⟩
  have HQ6 := hide (((unhide HQ5).later (by (repeat' (first | exact Below.refl _ _ | refine Below.alloc ?_ ?_ _ | refine Below.setCell ?_ ?_ _ | refine Below.drew ?_)); all_goals (first | exact Nat.le_refl _ | omega | (simp; done) | (simp; omega)))).later hb6)
  have HY6 : Hid (Held w6 (w5.heap.size) (n2 (t / 4096) (t % 4096))) := hide ((Held.fresh (n2 (t / 4096) (t % 4096)) _ (by first | rfl | (simp; done))).later hb6)
  have HB6 := hide (show Below w.heap.size w w6 from (by have := (unhide HQ5).2; have := (unhide HB5).size; exact Below.trans (by (repeat' (first | exact Below.refl _ _ | refine Below.alloc ?_ ?_ _ | refine Below.setCell ?_ ?_ _ | refine Below.drew ?_ | refine Below.trans ?_ (Below.mono (unhide HB5) ?_))); all_goals (first | exact Nat.le_refl _ | omega | (simp; done) | (simp; omega))) (hb6.mono (by first | omega | (simp; done) | (simp; omega)))))
  clear hb6
  obtain ⟨q0, q1⟩ := (unhide HQ6).c2.1
  have ql := (unhide HQ6).2
  obtain ⟨y0, y1⟩ := (unhide HY6).c2.1
  have yl := (unhide HY6).2
  go_wp2_with fail
  refine (unhide CZ _).mono ?_
  rintro e w7 ⟨rfl, hb7⟩
  clear q0 q1 ql y0 y1 yl
  have HQ7 := hide (((unhide HQ6).later (by (repeat' (first | exact Below.refl _ _ | refine Below.alloc ?_ ?_ _ | refine Below.setCell ?_ ?_ _ | refine Below.drew ?_)); all_goals (first | exact Nat.le_refl _ | omega | (simp; done) | (simp; omega)))).later hb7)
  have HY7 := hide (((unhide HY6).later (by (repeat' (first | exact Below.refl _ _ | refine Below.alloc ?_ ?_ _ | refine Below.setCell ?_ ?_ _ | refine Below.drew ?_)); all_goals (first | exact Nat.le_refl _ | omega | (simp; done) | (simp; omega)))).later hb7)
  have HB7 := hide (show Below w.heap.size w w7 from (by have := (unhide HQ6).2; have := (unhide HY6).2; have := (unhide HB6).size; exact Below.trans (by (repeat' (first | exact Below.refl _ _ | refine Below.alloc ?_ ?_ _ | refine Below.setCell ?_ ?_ _ | refine Below.drew ?_ | refine Below.trans ?_ (Below.mono (unhide HB6) ?_))); all_goals (first | exact Nat.le_refl _ | omega | (simp; done) | (simp; omega))) (hb7.mono (by first | omega | (simp; done) | (simp; omega)))))
  clear hb7
  go_wp2_with fail
  refine (same_same 1 _ ((unhide HG).later (by have := (unhide HQ7).2; have := (unhide HY7).2; have := (unhide HB7).size; exact (by (repeat' (first | exact Below.refl _ _ | refine Below.alloc ?_ ?_ _ | refine Below.setCell ?_ ?_ _ | refine Below.drew ?_ | refine Below.trans ?_ (Below.mono (unhide HB7) ?_))); all_goals (first | exact Nat.le_refl _ | omega | (simp; done) | (simp; omega)))))).mono ?_
  rintro e w8 ⟨rfl, hb8⟩
  have HQ8 := hide (((unhide HQ7).later (by (repeat' (first | exact Below.refl _ _ | refine Below.alloc ?_ ?_ _ | refine Below.setCell ?_ ?_ _ | refine Below.drew ?_)); all_goals (first | exact Nat.le_refl _ | omega | (simp; done) | (simp; omega)))).later hb8)
  have HY8 := hide (((unhide HY7).later (by (repeat' (first | exact Below.refl _ _ | refine Below.alloc ?_ ?_ _ | refine Below.setCell ?_ ?_ _ | refine Below.drew ?_)); all_goals (first | exact Nat.le_refl _ | omega | (simp; done) | (simp; omega)))).later hb8)
  have HB8 := hide (show Below w.heap.size w w8 from (by have := (unhide HQ7).2; have := (unhide HY7).2; have := (unhide HB7).size; exact Below.trans (by (repeat' (first | exact Below.refl _ _ | refine Below.alloc ?_ ?_ _ | refine Below.setCell ?_ ?_ _ | refine Below.drew ?_ | refine Below.trans ?_ (Below.mono (unhide HB7) ?_))); all_goals (first | exact Nat.le_refl _ | omega | (simp; done) | (simp; omega))) (hb8.mono (by first | omega | (simp; done) | (simp; omega)))))
  clear hb8
  go_wp2
  go_ret
  exact ⟨rfl, (by have := (unhide HQ8).2; have := (unhide HY8).2; have := (unhide HB8).size; exact (by (repeat' (first | exact Below.refl _ _ | refine Below.alloc ?_ ?_ _ | refine Below.setCell ?_ ?_ _ | refine Below.drew ?_ | refine Below.trans ?_ (Below.mono (unhide HB8) ?_))); all_goals (first | exact Nat.le_refl _ | omega | (simp; done) | (simp; omega))))⟩

set_option maxHeartbeats 6400000 in
set_option maxRecDepth 8000 in
theorem walk_ok_good (s m n k x t : Int) (w : World) (HG : Hid (ErrType w)) (hn0 : 0 ≤ n) (hn1 : n ≤ 65535) (hk0 : 1 ≤ k) (hk : k ≤ 16) (t0 : 0 ≤ t) (t1 : t ≤ 65535)
    (CO : Hid (∀ w : World, Calls Tryd.prog 14 #[.agg #[.int .i64 s, .int .i64 m]] w fun e w' => e = .returned (.bool true) ∧ Below w.heap.size w w'))
    (CR : Hid (∀ w : World, Calls Tryd.prog 15 #[.agg #[.int .i64 s, .int .i64 m]] w fun e w' => e = .returned (.int .i64 x) ∧ Below w.heap.size w w'))
    (CN : Hid (∀ w : World, Calls Tryd.prog 16 #[.agg #[.int .i64 s, .int .i64 m]] w fun e w' => e = .returned (.tuple #[.int .i64 x, errV 0]) ∧ Below w.heap.size w w'))
    (CT : Hid (∀ w : World, Calls Tryd.prog 17 #[.int .i64 n] w fun e w' => e = .returned (.int .i64 t) ∧ w' = w))
    (CF : Hid (∀ w : World, Calls Tryd.prog 18 #[.int .i64 n] w fun e w' => e = .returned (.tuple #[.agg #[.int .i64 (t / 4096), .int .i64 (t % 4096)], errV 0]) ∧ Below w.heap.size w w'))
    (CZ : Hid (∀ w : World, Calls Tryd.prog 19 #[.int .i64 n, .int .i64 k] w fun e w' => e = .returned (.tuple #[.int .i64 (t / 4096 % k), errV 0]) ∧ Below w.heap.size w w')) :
    Calls Tryd.prog 5 #[.agg #[.int .i64 s, .int .i64 m], .int .i64 n, .int .i64 k] w fun e w' => e = .returned (.bool true) ∧ Below w.heap.size w w' := by
  have d0 : 0 ≤ t / 4096 := by omega
  have d1 : t / 4096 ≤ 15 := by omega
  have kz : ¬ k = 0 := by omega
  go_enter Tryd.func5, Tryd.ntmps5
  go_wp2_with fail
  refine (unhide CO _).mono ?_
  rintro e w1 ⟨rfl, hb1⟩
  have HP1 : Hid (Held w1 (w.heap.size) (n2 s m)) := hide (((Held.fresh (w := w) (n2 s m) 42 (by first | rfl | (simp; done))).later (by (repeat' (first | exact Below.refl _ _ | refine Below.alloc ?_ ?_ _ | refine Below.setCell ?_ ?_ _ | refine Below.drew ?_)); all_goals (first | exact Nat.le_refl _ | omega | (simp; done) | (simp; omega)))).later hb1)
  have HB1 := hide (show Below w.heap.size w w1 from Below.trans (by (repeat' (first | exact Below.refl _ _ | refine Below.alloc ?_ ?_ _ | refine Below.setCell ?_ ?_ _ | refine Below.drew ?_)); all_goals (first | exact Nat.le_refl _ | omega | (simp; done) | (simp; omega))) (hb1.mono (by first | exact Nat.le_refl _ | (simp; done) | (simp; omega))))
  clear hb1
  obtain ⟨p0, p1⟩ := (unhide HP1).c2.1
  have pl := (unhide HP1).2
  go_wp2_with fail
  refine (unhide CR _).mono ?_
  rintro e w2 ⟨rfl, hb2⟩
  clear p0 p1 pl
  have HP2 := hide (((unhide HP1).later (by (repeat' (first | exact Below.refl _ _ | refine Below.alloc ?_ ?_ _ | refine Below.setCell ?_ ?_ _ | refine Below.drew ?_)); all_goals (first | exact Nat.le_refl _ | omega | (simp; done) | (simp; omega)))).later hb2)
  have HB2 := hide (show Below w.heap.size w w2 from (by have := (unhide HP1).2; have := (unhide HB1).size; exact Below.trans (by (repeat' (first | exact Below.refl _ _ | refine Below.alloc ?_ ?_ _ | refine Below.setCell ?_ ?_ _ | refine Below.drew ?_ | refine Below.trans ?_ (Below.mono (unhide HB1) ?_))); all_goals (first | exact Nat.le_refl _ | omega | (simp; done) | (simp; omega))) (hb2.mono (by first | omega | (simp; done) | (simp; omega)))))
  clear hb2
  obtain ⟨p0, p1⟩ := (unhide HP2).c2.1
  have pl := (unhide HP2).2
  go_wp2_with fail
  refine (unhide CN _).mono ?_
  rintro e w3 ⟨rfl, hb3⟩
  clear p0 p1 pl
  have HP3 := hide (((unhide HP2).later (by (repeat' (first | exact Below.refl _ _ | refine Below.alloc ?_ ?_ _ | refine Below.setCell ?_ ?_ _ | refine Below.drew ?_)); all_goals (first | exact Nat.le_refl _ | omega | (simp; done) | (simp; omega)))).later hb3)
  have HB3 := hide (show Below w.heap.size w w3 from (by have := (unhide HP2).2; have := (unhide HB2).size; exact Below.trans (by (repeat' (first | exact Below.refl _ _ | refine Below.alloc ?_ ?_ _ | refine Below.setCell ?_ ?_ _ | refine Below.drew ?_ | refine Below.trans ?_ (Below.mono (unhide HB2) ?_))); all_goals (first | exact Nat.le_refl _ | omega | (simp; done) | (simp; omega))) (hb3.mono (by first | omega | (simp; done) | (simp; omega)))))
  clear hb3
  go_wp2_with fail
  refine (same_same 0 _ ((unhide HG).later (by have := (unhide HP3).2; have := (unhide HB3).size; exact (by (repeat' (first | exact Below.refl _ _ | refine Below.alloc ?_ ?_ _ | refine Below.setCell ?_ ?_ _ | refine Below.drew ?_ | refine Below.trans ?_ (Below.mono (unhide HB3) ?_))); all_goals (first | exact Nat.le_refl _ | omega | (simp; done) | (simp; omega)))))).mono ?_
  rintro e w4 ⟨rfl, hb4⟩
  have HP4 := hide (((unhide HP3).later (by (repeat' (first | exact Below.refl _ _ | refine Below.alloc ?_ ?_ _ | refine Below.setCell ?_ ?_ _ | refine Below.drew ?_)); all_goals (first | exact Nat.le_refl _ | omega | (simp; done) | (simp; omega)))).later hb4)
  have HB4 := hide (show Below w.heap.size w w4 from (by have := (unhide HP3).2; have := (unhide HB3).size; exact Below.trans (by (repeat' (first | exact Below.refl _ _ | refine Below.alloc ?_ ?_ _ | refine Below.setCell ?_ ?_ _ | refine Below.drew ?_ | refine Below.trans ?_ (Below.mono (unhide HB3) ?_))); all_goals (first | exact Nat.le_refl _ | omega | (simp; done) | (simp; omega))) (hb4.mono (by first | omega | (simp; done) | (simp; omega)))))
  clear hb4
  go_wp2_with fail
  refine (unhide CT _).mono ?_
  rintro e w' ⟨rfl, hw⟩
  obtain rfl := hw.symm
  clear hw
  go_wp2_with fail
  refine (unhide CF _).mono ?_
  rintro e w5 ⟨rfl, hb5⟩
  have HQ5 : Hid (Held w5 (w4.heap.size) (n2 (t / 4096) (t % 4096))) := hide (((Held.fresh (w := w4) (n2 (t / 4096) (t % 4096)) 42 (by first | rfl | (simp; done))).later (by (repeat' (first | exact Below.refl _ _ | refine Below.alloc ?_ ?_ _ | refine Below.setCell ?_ ?_ _ | refine Below.drew ?_)); all_goals (first | exact Nat.le_refl _ | omega | (simp; done) | (simp; omega)))).later hb5)
  have HB5 := hide (show Below w.heap.size w w5 from (by have := (unhide HB4).size; exact Below.trans (by (repeat' (first | exact Below.refl _ _ | refine Below.alloc ?_ ?_ _ | refine Below.setCell ?_ ?_ _ | refine Below.drew ?_ | refine Below.trans ?_ (Below.mono (unhide HB4) ?_))); all_goals (first | exact Nat.le_refl _ | omega | (simp; done) | (simp; omega))) (hb5.mono (by first | omega | (simp; done) | (simp; omega)))))
  clear hb5
  go_wp2_with fail
  refine (same_same 0 _ ((unhide HG).later (by have := (unhide HQ5).2; have := (unhide HB5).size; exact (by (repeat' (first | exact Below.refl _ _ | refine Below.alloc ?_ ?_ _ | refine Below.setCell ?_ ?_ _ | refine Below.drew ?_ | refine Below.trans ?_ (Below.mono (unhide HB5) ?_))); all_goals (first | exact Nat.le_refl _ | omega | (simp; done) | (simp; omega)))))).mono ?_
  rintro e w6 ⟨rfl, hb6⟩
  have HQ6 := hide (((unhide HQ5).later (by (repeat' (first | exact Below.refl _ _ | refine Below.alloc ?_ ?_ _ | refine Below.setCell ?_ ?_ _ | refine Below.drew ?_)); all_goals (first | exact Nat.le_refl _ | omega | (simp; done) | (simp; omega)))).later hb6)
  have HY6 : Hid (Held w6 (w5.heap.size) (n2 (t / 4096) (t % 4096))) := hide ((Held.fresh (n2 (t / 4096) (t % 4096)) _ (by first | rfl | (simp; done))).later hb6)
  have HB6 := hide (show Below w.heap.size w w6 from (by have := (unhide HQ5).2; have := (unhide HB5).size; exact Below.trans (by (repeat' (first | exact Below.refl _ _ | refine Below.alloc ?_ ?_ _ | refine Below.setCell ?_ ?_ _ | refine Below.drew ?_ | refine Below.trans ?_ (Below.mono (unhide HB5) ?_))); all_goals (first | exact Nat.le_refl _ | omega | (simp; done) | (simp; omega))) (hb6.mono (by first | omega | (simp; done) | (simp; omega)))))
  clear hb6
  obtain ⟨q0, q1⟩ := (unhide HQ6).c2.1
  have ql := (unhide HQ6).2
  obtain ⟨y0, y1⟩ := (unhide HY6).c2.1
  have yl := (unhide HY6).2
  go_wp2_with fail
  refine (unhide CZ _).mono ?_
  rintro e w7 ⟨rfl, hb7⟩
  clear q0 q1 ql y0 y1 yl
  have HQ7 := hide (((unhide HQ6).later (by (repeat' (first | exact Below.refl _ _ | refine Below.alloc ?_ ?_ _ | refine Below.setCell ?_ ?_ _ | refine Below.drew ?_)); all_goals (first | exact Nat.le_refl _ | omega | (simp; done) | (simp; omega)))).later hb7)
  have HY7 := hide (((unhide HY6).later (by (repeat' (first | exact Below.refl _ _ | refine Below.alloc ?_ ?_ _ | refine Below.setCell ?_ ?_ _ | refine Below.drew ?_)); all_goals (first | exact Nat.le_refl _ | omega | (simp; done) | (simp; omega)))).later hb7)
  have HB7 := hide (show Below w.heap.size w w7 from (by have := (unhide HQ6).2; have := (unhide HY6).2; have := (unhide HB6).size; exact Below.trans (by (repeat' (first | exact Below.refl _ _ | refine Below.alloc ?_ ?_ _ | refine Below.setCell ?_ ?_ _ | refine Below.drew ?_ | refine Below.trans ?_ (Below.mono (unhide HB6) ?_))); all_goals (first | exact Nat.le_refl _ | omega | (simp; done) | (simp; omega))) (hb7.mono (by first | omega | (simp; done) | (simp; omega)))))
  clear hb7
  go_wp2_with fail
  refine (same_same 0 _ ((unhide HG).later (by have := (unhide HQ7).2; have := (unhide HY7).2; have := (unhide HB7).size; exact (by (repeat' (first | exact Below.refl _ _ | refine Below.alloc ?_ ?_ _ | refine Below.setCell ?_ ?_ _ | refine Below.drew ?_ | refine Below.trans ?_ (Below.mono (unhide HB7) ?_))); all_goals (first | exact Nat.le_refl _ | omega | (simp; done) | (simp; omega)))))).mono ?_
  rintro e w8 ⟨rfl, hb8⟩
  have HQ8 := hide (((unhide HQ7).later (by (repeat' (first | exact Below.refl _ _ | refine Below.alloc ?_ ?_ _ | refine Below.setCell ?_ ?_ _ | refine Below.drew ?_)); all_goals (first | exact Nat.le_refl _ | omega | (simp; done) | (simp; omega)))).later hb8)
  have HY8 := hide (((unhide HY7).later (by (repeat' (first | exact Below.refl _ _ | refine Below.alloc ?_ ?_ _ | refine Below.setCell ?_ ?_ _ | refine Below.drew ?_)); all_goals (first | exact Nat.le_refl _ | omega | (simp; done) | (simp; omega)))).later hb8)
  have HB8 := hide (show Below w.heap.size w w8 from (by have := (unhide HQ7).2; have := (unhide HY7).2; have := (unhide HB7).size; exact Below.trans (by (repeat' (first | exact Below.refl _ _ | refine Below.alloc ?_ ?_ _ | refine Below.setCell ?_ ?_ _ | refine Below.drew ?_ | refine Below.trans ?_ (Below.mono (unhide HB7) ?_))); all_goals (first | exact Nat.le_refl _ | omega | (simp; done) | (simp; omega))) (hb8.mono (by first | omega | (simp; done) | (simp; omega)))))
  clear hb8
  go_wp2
  go_ret
  exact ⟨rfl, (by have := (unhide HQ8).2; have := (unhide HY8).2; have := (unhide HB8).size; exact (by (repeat' (first | exact Below.refl _ _ | refine Below.alloc ?_ ?_ _ | refine Below.setCell ?_ ?_ _ | refine Below.drew ?_ | refine Below.trans ?_ (Below.mono (unhide HB8) ?_))); all_goals (first | exact Nat.le_refl _ | omega | (simp; done) | (simp; omega))))⟩

set_option maxHeartbeats 6400000 in
set_option maxRecDepth 8000 in
theorem walk_no_nlow (s m n k : Int) (w : World) (HG : Hid (ErrType w)) (hn : n < 0) 
    (CO : Hid (∀ w : World, Calls Tryd.prog 14 #[.agg #[.int .i64 s, .int .i64 m]] w fun e w' => e = .returned (.bool false) ∧ Below w.heap.size w w'))
    (CN : Hid (∀ w : World, Calls Tryd.prog 16 #[.agg #[.int .i64 s, .int .i64 m]] w fun e w' => e = .returned (.tuple #[.int .i64 0, errV 1]) ∧ Below w.heap.size w w'))
    (CF : Hid (∀ w : World, Calls Tryd.prog 18 #[.int .i64 n] w fun e w' => e = .returned (.tuple #[.agg #[.int .i64 0, .int .i64 0], errV 1]) ∧ Below w.heap.size w w'))
    (CZ : Hid (∀ w : World, Calls Tryd.prog 19 #[.int .i64 n, .int .i64 k] w fun e w' => e = .returned (.tuple #[.int .i64 0, errV 1]) ∧ Below w.heap.size w w')) :
    Calls Tryd.prog 5 #[.agg #[.int .i64 s, .int .i64 m], .int .i64 n, .int .i64 k] w fun e w' => e = .returned (.bool true) ∧ Below w.heap.size w w' := by
  go_enter Tryd.func5, Tryd.ntmps5
  go_wp2_with fail
  refine (unhide CO _).mono ?_
  rintro e w1 ⟨rfl, hb1⟩
  have HP1 : Hid (Held w1 (w.heap.size) (n2 s m)) := hide (((Held.fresh (w := w) (n2 s m) 42 (by first | rfl | (simp; done))).later (by (repeat' (first | exact Below.refl _ _ | refine Below.alloc ?_ ?_ _ | refine Below.setCell ?_ ?_ _ | refine Below.drew ?_)); all_goals (first | exact Nat.le_refl _ | omega | (simp; done) | (simp; omega)))).later hb1)
  have HB1 := hide (show Below w.heap.size w w1 from Below.trans (by (repeat' (first | exact Below.refl _ _ | refine Below.alloc ?_ ?_ _ | refine Below.setCell ?_ ?_ _ | refine Below.drew ?_)); all_goals (first | exact Nat.le_refl _ | omega | (simp; done) | (simp; omega))) (hb1.mono (by first | exact Nat.le_refl _ | (simp; done) | (simp; omega))))
  clear hb1
  obtain ⟨p0, p1⟩ := (unhide HP1).c2.1
  have pl := (unhide HP1).2
  go_wp2_with fail
  refine (unhide CN _).mono ?_
  rintro e w2 ⟨rfl, hb2⟩
  clear p0 p1 pl
  have HP2 := hide (((unhide HP1).later (by (repeat' (first | exact Below.refl _ _ | refine Below.alloc ?_ ?_ _ | refine Below.setCell ?_ ?_ _ | refine Below.drew ?_)); all_goals (first | exact Nat.le_refl _ | omega | (simp; done) | (simp; omega)))).later hb2)
  have HB2 := hide (show Below w.heap.size w w2 from (by have := (unhide HP1).2; have := (unhide HB1).size; exact Below.trans (by (repeat' (first | exact Below.refl _ _ | refine Below.alloc ?_ ?_ _ | refine Below.setCell ?_ ?_ _ | refine Below.drew ?_ | refine Below.trans ?_ (Below.mono (unhide HB1) ?_))); all_goals (first | exact Nat.le_refl _ | omega | (simp; done) | (simp; omega))) (hb2.mono (by first | omega | (simp; done) | (simp; omega)))))
  clear hb2
  go_wp2_with fail
  refine (same_same 1 _ ((unhide HG).later (by have := (unhide HP2).2; have := (unhide HB2).size; exact (by (repeat' (first | exact Below.refl _ _ | refine Below.alloc ?_ ?_ _ | refine Below.setCell ?_ ?_ _ | refine Below.drew ?_ | refine Below.trans ?_ (Below.mono (unhide HB2) ?_))); all_goals (first | exact Nat.le_refl _ | omega | (simp; done) | (simp; omega)))))).mono ?_
  rintro e w3 ⟨rfl, hb3⟩
  have HP3 := hide (((unhide HP2).later (by (repeat' (first | exact Below.refl _ _ | refine Below.alloc ?_ ?_ _ | refine Below.setCell ?_ ?_ _ | refine Below.drew ?_)); all_goals (first | exact Nat.le_refl _ | omega | (simp; done) | (simp; omega)))).later hb3)
  have HB3 := hide (show Below w.heap.size w w3 from (by have := (unhide HP2).2; have := (unhide HB2).size; exact Below.trans (by (repeat' (first | exact Below.refl _ _ | refine Below.alloc ?_ ?_ _ | refine Below.setCell ?_ ?_ _ | refine Below.drew ?_ | refine Below.trans ?_ (Below.mono (unhide HB2) ?_))); all_goals (first | exact Nat.le_refl _ | omega | (simp; done) | (simp; omega))) (hb3.mono (by first | omega | (simp; done) | (simp; omega)))))
  clear hb3
  go_wp2_with fail
  refine (unhide CF _).mono ?_
  rintro e w4 ⟨rfl, hb4⟩
  have HQ4 : Hid (Held w4 (w3.heap.size) (n2 0 0)) := hide (((Held.fresh (w := w3) (n2 0 0) 42 (by first | rfl | (simp; done))).later (by (repeat' (first | exact Below.refl _ _ | refine Below.alloc ?_ ?_ _ | refine Below.setCell ?_ ?_ _ | refine Below.drew ?_)); all_goals (first | exact Nat.le_refl _ | omega | (simp; done) | (simp; omega)))).later hb4)
  have HB4 := hide (show Below w.heap.size w w4 from (by have := (unhide HB3).size; exact Below.trans (by (repeat' (first | exact Below.refl _ _ | refine Below.alloc ?_ ?_ _ | refine Below.setCell ?_ ?_ _ | refine Below.drew ?_ | refine Below.trans ?_ (Below.mono (unhide HB3) ?_))); all_goals (first | exact Nat.le_refl _ | omega | (simp; done) | (simp; omega))) (hb4.mono (by first | omega | (simp; done) | (simp; omega)))))
  clear hb4
  go_wp2_with fail
  refine (same_same 1 _ ((unhide HG).later (by have := (unhide HQ4).2; have := (unhide HB4).size; exact (by (repeat' (first | exact Below.refl _ _ | refine Below.alloc ?_ ?_ _ | refine Below.setCell ?_ ?_ _ | refine Below.drew ?_ | refine Below.trans ?_ (Below.mono (unhide HB4) ?_))); all_goals (first | exact Nat.le_refl _ | omega | (simp; done) | (simp; omega)))))).mono ?_
  rintro e w5 ⟨rfl, hb5⟩
  have HQ5 := hide (((unhide HQ4).later (by (repeat' (first | exact Below.refl _ _ | refine Below.alloc ?_ ?_ _ | refine Below.setCell ?_ ?_ _ | refine Below.drew ?_)); all_goals (first | exact Nat.le_refl _ | omega | (simp; done) | (simp; omega)))).later hb5)
  have HY5 : Hid (Held w5 (w4.heap.size) (n2 0 0)) := hide ((Held.fresh (n2 0 0) _ (by first | rfl | (simp; done))).later hb5)
  have HB5 := hide (show Below w.heap.size w w5 from (by have := (unhide HQ4).2; have := (unhide HB4).size; exact Below.trans (by (repeat' (first | exact Below.refl _ _ | refine Below.alloc ?_ ?_ _ | refine Below.setCell ?_ ?_ _ | refine Below.drew ?_ | refine Below.trans ?_ (Below.mono (unhide HB4) ?_))); all_goals (first | exact Nat.le_refl _ | omega | (simp; done) | (simp; omega))) (hb5.mono (by first | omega | (simp; done) | (simp; omega)))))
  clear hb5
  obtain ⟨q0, q1⟩ := (unhide HQ5).c2.1
  have ql := (unhide HQ5).2
  obtain ⟨y0, y1⟩ := (unhide HY5).c2.1
  have yl := (unhide HY5).2
  go_wp2_with fail
  refine (unhide CZ _).mono ?_
  rintro e w6 ⟨rfl, hb6⟩
  clear q0 q1 ql y0 y1 yl
  have HQ6 := hide (((unhide HQ5).later (by (repeat' (first | exact Below.refl _ _ | refine Below.alloc ?_ ?_ _ | refine Below.setCell ?_ ?_ _ | refine Below.drew ?_)); all_goals (first | exact Nat.le_refl _ | omega | (simp; done) | (simp; omega)))).later hb6)
  have HY6 := hide (((unhide HY5).later (by (repeat' (first | exact Below.refl _ _ | refine Below.alloc ?_ ?_ _ | refine Below.setCell ?_ ?_ _ | refine Below.drew ?_)); all_goals (first | exact Nat.le_refl _ | omega | (simp; done) | (simp; omega)))).later hb6)
  have HB6 := hide (show Below w.heap.size w w6 from (by have := (unhide HQ5).2; have := (unhide HY5).2; have := (unhide HB5).size; exact Below.trans (by (repeat' (first | exact Below.refl _ _ | refine Below.alloc ?_ ?_ _ | refine Below.setCell ?_ ?_ _ | refine Below.drew ?_ | refine Below.trans ?_ (Below.mono (unhide HB5) ?_))); all_goals (first | exact Nat.le_refl _ | omega | (simp; done) | (simp; omega))) (hb6.mono (by first | omega | (simp; done) | (simp; omega)))))
  clear hb6
  go_wp2_with fail
  refine (same_same 1 _ ((unhide HG).later (by have := (unhide HQ6).2; have := (unhide HY6).2; have := (unhide HB6).size; exact (by (repeat' (first | exact Below.refl _ _ | refine Below.alloc ?_ ?_ _ | refine Below.setCell ?_ ?_ _ | refine Below.drew ?_ | refine Below.trans ?_ (Below.mono (unhide HB6) ?_))); all_goals (first | exact Nat.le_refl _ | omega | (simp; done) | (simp; omega)))))).mono ?_
  rintro e w7 ⟨rfl, hb7⟩
  have HQ7 := hide (((unhide HQ6).later (by (repeat' (first | exact Below.refl _ _ | refine Below.alloc ?_ ?_ _ | refine Below.setCell ?_ ?_ _ | refine Below.drew ?_)); all_goals (first | exact Nat.le_refl _ | omega | (simp; done) | (simp; omega)))).later hb7)
  have HY7 := hide (((unhide HY6).later (by (repeat' (first | exact Below.refl _ _ | refine Below.alloc ?_ ?_ _ | refine Below.setCell ?_ ?_ _ | refine Below.drew ?_)); all_goals (first | exact Nat.le_refl _ | omega | (simp; done) | (simp; omega)))).later hb7)
  have HB7 := hide (show Below w.heap.size w w7 from (by have := (unhide HQ6).2; have := (unhide HY6).2; have := (unhide HB6).size; exact Below.trans (by (repeat' (first | exact Below.refl _ _ | refine Below.alloc ?_ ?_ _ | refine Below.setCell ?_ ?_ _ | refine Below.drew ?_ | refine Below.trans ?_ (Below.mono (unhide HB6) ?_))); all_goals (first | exact Nat.le_refl _ | omega | (simp; done) | (simp; omega))) (hb7.mono (by first | omega | (simp; done) | (simp; omega)))))
  clear hb7
  go_wp2
  go_ret
  exact ⟨rfl, (by have := (unhide HQ7).2; have := (unhide HY7).2; have := (unhide HB7).size; exact (by (repeat' (first | exact Below.refl _ _ | refine Below.alloc ?_ ?_ _ | refine Below.setCell ?_ ?_ _ | refine Below.drew ?_ | refine Below.trans ?_ (Below.mono (unhide HB7) ?_))); all_goals (first | exact Nat.le_refl _ | omega | (simp; done) | (simp; omega))))⟩

set_option maxHeartbeats 6400000 in
set_option maxRecDepth 8000 in
theorem walk_no_nhigh (s m n k : Int) (w : World) (HG : Hid (ErrType w)) (hn0 : 0 ≤ n) (hn : 65535 < n) 
    (CO : Hid (∀ w : World, Calls Tryd.prog 14 #[.agg #[.int .i64 s, .int .i64 m]] w fun e w' => e = .returned (.bool false) ∧ Below w.heap.size w w'))
    (CN : Hid (∀ w : World, Calls Tryd.prog 16 #[.agg #[.int .i64 s, .int .i64 m]] w fun e w' => e = .returned (.tuple #[.int .i64 0, errV 1]) ∧ Below w.heap.size w w'))
    (CF : Hid (∀ w : World, Calls Tryd.prog 18 #[.int .i64 n] w fun e w' => e = .returned (.tuple #[.agg #[.int .i64 0, .int .i64 0], errV 1]) ∧ Below w.heap.size w w'))
    (CZ : Hid (∀ w : World, Calls Tryd.prog 19 #[.int .i64 n, .int .i64 k] w fun e w' => e = .returned (.tuple #[.int .i64 0, errV 1]) ∧ Below w.heap.size w w')) :
    Calls Tryd.prog 5 #[.agg #[.int .i64 s, .int .i64 m], .int .i64 n, .int .i64 k] w fun e w' => e = .returned (.bool true) ∧ Below w.heap.size w w' := by
  go_enter Tryd.func5, Tryd.ntmps5
  go_wp2_with fail
  refine (unhide CO _).mono ?_
  rintro e w1 ⟨rfl, hb1⟩
  have HP1 : Hid (Held w1 (w.heap.size) (n2 s m)) := hide (((Held.fresh (w := w) (n2 s m) 42 (by first | rfl | (simp; done))).later (by (repeat' (first | exact Below.refl _ _ | refine Below.alloc ?_ ?_ _ | refine Below.setCell ?_ ?_ _ | refine Below.drew ?_)); all_goals (first | exact Nat.le_refl _ | omega | (simp; done) | (simp; omega)))).later hb1)
  have HB1 := hide (show Below w.heap.size w w1 from Below.trans (by (repeat' (first | exact Below.refl _ _ | refine Below.alloc ?_ ?_ _ | refine Below.setCell ?_ ?_ _ | refine Below.drew ?_)); all_goals (first | exact Nat.le_refl _ | omega | (simp; done) | (simp; omega))) (hb1.mono (by first | exact Nat.le_refl _ | (simp; done) | (simp; omega))))
  clear hb1
  obtain ⟨p0, p1⟩ := (unhide HP1).c2.1
  have pl := (unhide HP1).2
  go_wp2_with fail
  refine (unhide CN _).mono ?_
  rintro e w2 ⟨rfl, hb2⟩
  clear p0 p1 pl
  have HP2 := hide (((unhide HP1).later (by (repeat' (first | exact Below.refl _ _ | refine Below.alloc ?_ ?_ _ | refine Below.setCell ?_ ?_ _ | refine Below.drew ?_)); all_goals (first | exact Nat.le_refl _ | omega | (simp; done) | (simp; omega)))).later hb2)
  have HB2 := hide (show Below w.heap.size w w2 from (by have := (unhide HP1).2; have := (unhide HB1).size; exact Below.trans (by (repeat' (first | exact Below.refl _ _ | refine Below.alloc ?_ ?_ _ | refine Below.setCell ?_ ?_ _ | refine Below.drew ?_ | refine Below.trans ?_ (Below.mono (unhide HB1) ?_))); all_goals (first | exact Nat.le_refl _ | omega | (simp; done) | (simp; omega))) (hb2.mono (by first | omega | (simp; done) | (simp; omega)))))
  clear hb2
  go_wp2_with fail
  refine (same_same 1 _ ((unhide HG).later (by have := (unhide HP2).2; have := (unhide HB2).size; exact (by (repeat' (first | exact Below.refl _ _ | refine Below.alloc ?_ ?_ _ | refine Below.setCell ?_ ?_ _ | refine Below.drew ?_ | refine Below.trans ?_ (Below.mono (unhide HB2) ?_))); all_goals (first | exact Nat.le_refl _ | omega | (simp; done) | (simp; omega)))))).mono ?_
  rintro e w3 ⟨rfl, hb3⟩
  have HP3 := hide (((unhide HP2).later (by (repeat' (first | exact Below.refl _ _ | refine Below.alloc ?_ ?_ _ | refine Below.setCell ?_ ?_ _ | refine Below.drew ?_)); all_goals (first | exact Nat.le_refl _ | omega | (simp; done) | (simp; omega)))).later hb3)
  have HB3 := hide (show Below w.heap.size w w3 from (by have := (unhide HP2).2; have := (unhide HB2).size; exact Below.trans (by (repeat' (first | exact Below.refl _ _ | refine Below.alloc ?_ ?_ _ | refine Below.setCell ?_ ?_ _ | refine Below.drew ?_ | refine Below.trans ?_ (Below.mono (unhide HB2) ?_))); all_goals (first | exact Nat.le_refl _ | omega | (simp; done) | (simp; omega))) (hb3.mono (by first | omega | (simp; done) | (simp; omega)))))
  clear hb3
  go_wp2_with fail
  refine (unhide CF _).mono ?_
  rintro e w4 ⟨rfl, hb4⟩
  have HQ4 : Hid (Held w4 (w3.heap.size) (n2 0 0)) := hide (((Held.fresh (w := w3) (n2 0 0) 42 (by first | rfl | (simp; done))).later (by (repeat' (first | exact Below.refl _ _ | refine Below.alloc ?_ ?_ _ | refine Below.setCell ?_ ?_ _ | refine Below.drew ?_)); all_goals (first | exact Nat.le_refl _ | omega | (simp; done) | (simp; omega)))).later hb4)
  have HB4 := hide (show Below w.heap.size w w4 from (by have := (unhide HB3).size; exact Below.trans (by (repeat' (first | exact Below.refl _ _ | refine Below.alloc ?_ ?_ _ | refine Below.setCell ?_ ?_ _ | refine Below.drew ?_ | refine Below.trans ?_ (Below.mono (unhide HB3) ?_))); all_goals (first | exact Nat.le_refl _ | omega | (simp; done) | (simp; omega))) (hb4.mono (by first | omega | (simp; done) | (simp; omega)))))
  clear hb4
  go_wp2_with fail
  refine (same_same 1 _ ((unhide HG).later (by have := (unhide HQ4).2; have := (unhide HB4).size; exact (by (repeat' (first | exact Below.refl _ _ | refine Below.alloc ?_ ?_ _ | refine Below.setCell ?_ ?_ _ | refine Below.drew ?_ | refine Below.trans ?_ (Below.mono (unhide HB4) ?_))); all_goals (first | exact Nat.le_refl _ | omega | (simp; done) | (simp; omega)))))).mono ?_
  rintro e w5 ⟨rfl, hb5⟩
  have HQ5 := hide (((unhide HQ4).later (by (repeat' (first | exact Below.refl _ _ | refine Below.alloc ?_ ?_ _ | refine Below.setCell ?_ ?_ _ | refine Below.drew ?_)); all_goals (first | exact Nat.le_refl _ | omega | (simp; done) | (simp; omega)))).later hb5)
  have HY5 : Hid (Held w5 (w4.heap.size) (n2 0 0)) := hide ((Held.fresh (n2 0 0) _ (by first | rfl | (simp; done))).later hb5)
  have HB5 := hide (show Below w.heap.size w w5 from (by have := (unhide HQ4).2; have := (unhide HB4).size; exact Below.trans (by (repeat' (first | exact Below.refl _ _ | refine Below.alloc ?_ ?_ _ | refine Below.setCell ?_ ?_ _ | refine Below.drew ?_ | refine Below.trans ?_ (Below.mono (unhide HB4) ?_))); all_goals (first | exact Nat.le_refl _ | omega | (simp; done) | (simp; omega))) (hb5.mono (by first | omega | (simp; done) | (simp; omega)))))
  clear hb5
  obtain ⟨q0, q1⟩ := (unhide HQ5).c2.1
  have ql := (unhide HQ5).2
  obtain ⟨y0, y1⟩ := (unhide HY5).c2.1
  have yl := (unhide HY5).2
  go_wp2_with fail
  refine (unhide CZ _).mono ?_
  rintro e w6 ⟨rfl, hb6⟩
  clear q0 q1 ql y0 y1 yl
  have HQ6 := hide (((unhide HQ5).later (by (repeat' (first | exact Below.refl _ _ | refine Below.alloc ?_ ?_ _ | refine Below.setCell ?_ ?_ _ | refine Below.drew ?_)); all_goals (first | exact Nat.le_refl _ | omega | (simp; done) | (simp; omega)))).later hb6)
  have HY6 := hide (((unhide HY5).later (by (repeat' (first | exact Below.refl _ _ | refine Below.alloc ?_ ?_ _ | refine Below.setCell ?_ ?_ _ | refine Below.drew ?_)); all_goals (first | exact Nat.le_refl _ | omega | (simp; done) | (simp; omega)))).later hb6)
  have HB6 := hide (show Below w.heap.size w w6 from (by have := (unhide HQ5).2; have := (unhide HY5).2; have := (unhide HB5).size; exact Below.trans (by (repeat' (first | exact Below.refl _ _ | refine Below.alloc ?_ ?_ _ | refine Below.setCell ?_ ?_ _ | refine Below.drew ?_ | refine Below.trans ?_ (Below.mono (unhide HB5) ?_))); all_goals (first | exact Nat.le_refl _ | omega | (simp; done) | (simp; omega))) (hb6.mono (by first | omega | (simp; done) | (simp; omega)))))
  clear hb6
  go_wp2_with fail
  refine (same_same 1 _ ((unhide HG).later (by have := (unhide HQ6).2; have := (unhide HY6).2; have := (unhide HB6).size; exact (by (repeat' (first | exact Below.refl _ _ | refine Below.alloc ?_ ?_ _ | refine Below.setCell ?_ ?_ _ | refine Below.drew ?_ | refine Below.trans ?_ (Below.mono (unhide HB6) ?_))); all_goals (first | exact Nat.le_refl _ | omega | (simp; done) | (simp; omega)))))).mono ?_
  rintro e w7 ⟨rfl, hb7⟩
  have HQ7 := hide (((unhide HQ6).later (by (repeat' (first | exact Below.refl _ _ | refine Below.alloc ?_ ?_ _ | refine Below.setCell ?_ ?_ _ | refine Below.drew ?_)); all_goals (first | exact Nat.le_refl _ | omega | (simp; done) | (simp; omega)))).later hb7)
  have HY7 := hide (((unhide HY6).later (by (repeat' (first | exact Below.refl _ _ | refine Below.alloc ?_ ?_ _ | refine Below.setCell ?_ ?_ _ | refine Below.drew ?_)); all_goals (first | exact Nat.le_refl _ | omega | (simp; done) | (simp; omega)))).later hb7)
  have HB7 := hide (show Below w.heap.size w w7 from (by have := (unhide HQ6).2; have := (unhide HY6).2; have := (unhide HB6).size; exact Below.trans (by (repeat' (first | exact Below.refl _ _ | refine Below.alloc ?_ ?_ _ | refine Below.setCell ?_ ?_ _ | refine Below.drew ?_ | refine Below.trans ?_ (Below.mono (unhide HB6) ?_))); all_goals (first | exact Nat.le_refl _ | omega | (simp; done) | (simp; omega))) (hb7.mono (by first | omega | (simp; done) | (simp; omega)))))
  clear hb7
  go_wp2
  go_ret
  exact ⟨rfl, (by have := (unhide HQ7).2; have := (unhide HY7).2; have := (unhide HB7).size; exact (by (repeat' (first | exact Below.refl _ _ | refine Below.alloc ?_ ?_ _ | refine Below.setCell ?_ ?_ _ | refine Below.drew ?_ | refine Below.trans ?_ (Below.mono (unhide HB7) ?_))); all_goals (first | exact Nat.le_refl _ | omega | (simp; done) | (simp; omega))))⟩

set_option maxHeartbeats 6400000 in
set_option maxRecDepth 8000 in
theorem walk_no_klow (s m n k t : Int) (w : World) (HG : Hid (ErrType w)) (hn0 : 0 ≤ n) (hn1 : n ≤ 65535) (hk : k < 1) (t0 : 0 ≤ t) (t1 : t ≤ 65535)
    (CO : Hid (∀ w : World, Calls Tryd.prog 14 #[.agg #[.int .i64 s, .int .i64 m]] w fun e w' => e = .returned (.bool false) ∧ Below w.heap.size w w'))
    (CN : Hid (∀ w : World, Calls Tryd.prog 16 #[.agg #[.int .i64 s, .int .i64 m]] w fun e w' => e = .returned (.tuple #[.int .i64 0, errV 1]) ∧ Below w.heap.size w w'))
    (CT : Hid (∀ w : World, Calls Tryd.prog 17 #[.int .i64 n] w fun e w' => e = .returned (.int .i64 t) ∧ w' = w))
    (CF : Hid (∀ w : World, Calls Tryd.prog 18 #[.int .i64 n] w fun e w' => e = .returned (.tuple #[.agg #[.int .i64 (t / 4096), .int .i64 (t % 4096)], errV 0]) ∧ Below w.heap.size w w'))
    (CZ : Hid (∀ w : World, Calls Tryd.prog 19 #[.int .i64 n, .int .i64 k] w fun e w' => e = .returned (.tuple #[.int .i64 0, errV 1]) ∧ Below w.heap.size w w')) :
    Calls Tryd.prog 5 #[.agg #[.int .i64 s, .int .i64 m], .int .i64 n, .int .i64 k] w fun e w' => e = .returned (.bool true) ∧ Below w.heap.size w w' := by
  have d0 : 0 ≤ t / 4096 := by omega
  have d1 : t / 4096 ≤ 15 := by omega
  go_enter Tryd.func5, Tryd.ntmps5
  go_wp2_with fail
  refine (unhide CO _).mono ?_
  rintro e w1 ⟨rfl, hb1⟩
  have HP1 : Hid (Held w1 (w.heap.size) (n2 s m)) := hide (((Held.fresh (w := w) (n2 s m) 42 (by first | rfl | (simp; done))).later (by (repeat' (first | exact Below.refl _ _ | refine Below.alloc ?_ ?_ _ | refine Below.setCell ?_ ?_ _ | refine Below.drew ?_)); all_goals (first | exact Nat.le_refl _ | omega | (simp; done) | (simp; omega)))).later hb1)
  have HB1 := hide (show Below w.heap.size w w1 from Below.trans (by (repeat' (first | exact Below.refl _ _ | refine Below.alloc ?_ ?_ _ | refine Below.setCell ?_ ?_ _ | refine Below.drew ?_)); all_goals (first | exact Nat.le_refl _ | omega | (simp; done) | (simp; omega))) (hb1.mono (by first | exact Nat.le_refl _ | (simp; done) | (simp; omega))))
  clear hb1
  obtain ⟨p0, p1⟩ := (unhide HP1).c2.1
  have pl := (unhide HP1).2
  go_wp2_with fail
  refine (unhide CN _).mono ?_
  rintro e w2 ⟨rfl, hb2⟩
  clear p0 p1 pl
  have HP2 := hide (((unhide HP1).later (by (repeat' (first | exact Below.refl _ _ | refine Below.alloc ?_ ?_ _ | refine Below.setCell ?_ ?_ _ | refine Below.drew ?_)); all_goals (first | exact Nat.le_refl _ | omega | (simp; done) | (simp; omega)))).later hb2)
  have HB2 := hide (show Below w.heap.size w w2 from (by have := (unhide HP1).2; have := (unhide HB1).size; exact Below.trans (by (repeat' (first | exact Below.refl _ _ | refine Below.alloc ?_ ?_ _ | refine Below.setCell ?_ ?_ _ | refine Below.drew ?_ | refine Below.trans ?_ (Below.mono (unhide HB1) ?_))); all_goals (first | exact Nat.le_refl _ | omega | (simp; done) | (simp; omega))) (hb2.mono (by first | omega | (simp; done) | (simp; omega)))))
  clear hb2
  go_wp2_with fail
  refine (same_same 1 _ ((unhide HG).later (by have := (unhide HP2).2; have := (unhide HB2).size; exact (by (repeat' (first | exact Below.refl _ _ | refine Below.alloc ?_ ?_ _ | refine Below.setCell ?_ ?_ _ | refine Below.drew ?_ | refine Below.trans ?_ (Below.mono (unhide HB2) ?_))); all_goals (first | exact Nat.le_refl _ | omega | (simp; done) | (simp; omega)))))).mono ?_
  rintro e w3 ⟨rfl, hb3⟩
  have HP3 := hide (((unhide HP2).later (by (repeat' (first | exact Below.refl _ _ | refine Below.alloc ?_ ?_ _ | refine Below.setCell ?_ ?_ _ | refine Below.drew ?_)); all_goals (first | exact Nat.le_refl _ | omega | (simp; done) | (simp; omega)))).later hb3)
  have HB3 := hide (show Below w.heap.size w w3 from (by have := (unhide HP2).2; have := (unhide HB2).size; exact Below.trans (by (repeat' (first | exact Below.refl _ _ | refine Below.alloc ?_ ?_ _ | refine Below.setCell ?_ ?_ _ | refine Below.drew ?_ | refine Below.trans ?_ (Below.mono (unhide HB2) ?_))); all_goals (first | exact Nat.le_refl _ | omega | (simp; done) | (simp; omega))) (hb3.mono (by first | omega | (simp; done) | (simp; omega)))))
  clear hb3
  go_wp2_with fail
  refine (unhide CT _).mono ?_
  rintro e w' ⟨rfl, hw⟩
  obtain rfl := hw.symm
  clear hw
  go_wp2_with fail
  refine (unhide CF _).mono ?_
  rintro e w4 ⟨rfl, hb4⟩
  have HQ4 : Hid (Held w4 (w3.heap.size) (n2 (t / 4096) (t % 4096))) := hide (((Held.fresh (w := w3) (n2 (t / 4096) (t % 4096)) 42 (by first | rfl | (simp; done))).later (by (repeat' (first | exact Below.refl _ _ | refine Below.alloc ?_ ?_ _ | refine Below.setCell ?_ ?_ _ | refine Below.drew ?_)); all_goals (first | exact Nat.le_refl _ | omega | (simp; done) | (simp; omega)))).later hb4)
  have HB4 := hide (show Below w.heap.size w w4 from (by have := (unhide HB3).size; exact Below.trans (by (repeat' (first | exact Below.refl _ _ | refine Below.alloc ?_ ?_ _ | refine Below.setCell ?_ ?_ _ | refine Below.drew ?_ | refine Below.trans ?_ (Below.mono (unhide HB3) ?_))); all_goals (first | exact Nat.le_refl _ | omega | (simp; done) | (simp; omega))) (hb4.mono (by first | omega | (simp; done) | (simp; omega)))))
  clear hb4
  go_wp2_with fail
  refine (same_same 0 _ ((unhide HG).later (by have := (unhide HQ4).2; have := (unhide HB4).size; exact (by (repeat' (first | exact Below.refl _ _ | refine Below.alloc ?_ ?_ _ | refine Below.setCell ?_ ?_ _ | refine Below.drew ?_ | refine Below.trans ?_ (Below.mono (unhide HB4) ?_))); all_goals (first | exact Nat.le_refl _ | omega | (simp; done) | (simp; omega)))))).mono ?_
  rintro e w5 ⟨rfl, hb5⟩
  have HQ5 := hide (((unhide HQ4).later (by (repeat' (first | exact Below.refl _ _ | refine Below.alloc ?_ ?_ _ | refine Below.setCell ?_ ?_ _ | refine Below.drew ?_)); all_goals (first | exact Nat.le_refl _ | omega | (simp; done) | (simp; omega)))).later hb5)
  have HY5 : Hid (Held w5 (w4.heap.size) (n2 (t / 4096) (t % 4096))) := hide ((Held.fresh (n2 (t / 4096) (t % 4096)) _ (by first | rfl | (simp; done))).later hb5)
  have HB5 := hide (show Below w.heap.size w w5 from (by have := (unhide HQ4).2; have := (unhide HB4).size; exact Below.trans (by (repeat' (first | exact Below.refl _ _ | refine Below.alloc ?_ ?_ _ | refine Below.setCell ?_ ?_ _ | refine Below.drew ?_ | refine Below.trans ?_ (Below.mono (unhide HB4) ?_))); all_goals (first | exact Nat.le_refl _ | omega | (simp; done) | (simp; omega))) (hb5.mono (by first | omega | (simp; done) | (simp; omega)))))
  clear hb5
  obtain ⟨q0, q1⟩ := (unhide HQ5).c2.1
  have ql := (unhide HQ5).2
  obtain ⟨y0, y1⟩ := (unhide HY5).c2.1
  have yl := (unhide HY5).2
  go_wp2_with fail
  refine (unhide CZ _).mono ?_
  rintro e w6 ⟨rfl, hb6⟩
  clear q0 q1 ql y0 y1 yl
  have HQ6 := hide (((unhide HQ5).later (by (repeat' (first | exact Below.refl _ _ | refine Below.alloc ?_ ?_ _ | refine Below.setCell ?_ ?_ _ | refine Below.drew ?_)); all_goals (first | exact Nat.le_refl _ | omega | (simp; done) | (simp; omega)))).later hb6)
  have HY6 := hide (((unhide HY5).later (by (repeat' (first | exact Below.refl _ _ | refine Below.alloc ?_ ?_ _ | refine Below.setCell ?_ ?_ _ | refine Below.drew ?_)); all_goals (first | exact Nat.le_refl _ | omega | (simp; done) | (simp; omega)))).later hb6)
  have HB6 := hide (show Below w.heap.size w w6 from (by have := (unhide HQ5).2; have := (unhide HY5).2; have := (unhide HB5).size; exact Below.trans (by (repeat' (first | exact Below.refl _ _ | refine Below.alloc ?_ ?_ _ | refine Below.setCell ?_ ?_ _ | refine Below.drew ?_ | refine Below.trans ?_ (Below.mono (unhide HB5) ?_))); all_goals (first | exact Nat.le_refl _ | omega | (simp; done) | (simp; omega))) (hb6.mono (by first | omega | (simp; done) | (simp; omega)))))
  clear hb6
  go_wp2_with fail
  refine (same_same 1 _ ((unhide HG).later (by have := (unhide HQ6).2; have := (unhide HY6).2; have := (unhide HB6).size; exact (by (repeat' (first | exact Below.refl _ _ | refine Below.alloc ?_ ?_ _ | refine Below.setCell ?_ ?_ _ | refine Below.drew ?_ | refine Below.trans ?_ (Below.mono (unhide HB6) ?_))); all_goals (first | exact Nat.le_refl _ | omega | (simp; done) | (simp; omega)))))).mono ?_
  rintro e w7 ⟨rfl, hb7⟩
  have HQ7 := hide (((unhide HQ6).later (by (repeat' (first | exact Below.refl _ _ | refine Below.alloc ?_ ?_ _ | refine Below.setCell ?_ ?_ _ | refine Below.drew ?_)); all_goals (first | exact Nat.le_refl _ | omega | (simp; done) | (simp; omega)))).later hb7)
  have HY7 := hide (((unhide HY6).later (by (repeat' (first | exact Below.refl _ _ | refine Below.alloc ?_ ?_ _ | refine Below.setCell ?_ ?_ _ | refine Below.drew ?_)); all_goals (first | exact Nat.le_refl _ | omega | (simp; done) | (simp; omega)))).later hb7)
  have HB7 := hide (show Below w.heap.size w w7 from (by have := (unhide HQ6).2; have := (unhide HY6).2; have := (unhide HB6).size; exact Below.trans (by (repeat' (first | exact Below.refl _ _ | refine Below.alloc ?_ ?_ _ | refine Below.setCell ?_ ?_ _ | refine Below.drew ?_ | refine Below.trans ?_ (Below.mono (unhide HB6) ?_))); all_goals (first | exact Nat.le_refl _ | omega | (simp; done) | (simp; omega))) (hb7.mono (by first | omega | (simp; done) | (simp; omega)))))
  clear hb7
  go_wp2
  go_ret
  exact ⟨rfl, (by have := (unhide HQ7).2; have := (unhide HY7).2; have := (unhide HB7).size; exact (by (repeat' (first | exact Below.refl _ _ | refine Below.alloc ?_ ?_ _ | refine Below.setCell ?_ ?_ _ | refine Below.drew ?_ | refine Below.trans ?_ (Below.mono (unhide HB7) ?_))); all_goals (first | exact Nat.le_refl _ | omega | (simp; done) | (simp; omega))))⟩

set_option maxHeartbeats 6400000 in
set_option maxRecDepth 8000 in
theorem walk_no_khigh (s m n k t : Int) (w : World) (HG : Hid (ErrType w)) (hn0 : 0 ≤ n) (hn1 : n ≤ 65535) (hk0 : 1 ≤ k) (hk : 16 < k) (t0 : 0 ≤ t) (t1 : t ≤ 65535)
    (CO : Hid (∀ w : World, Calls Tryd.prog 14 #[.agg #[.int .i64 s, .int .i64 m]] w fun e w' => e = .returned (.bool false) ∧ Below w.heap.size w w'))
    (CN : Hid (∀ w : World, Calls Tryd.prog 16 #[.agg #[.int .i64 s, .int .i64 m]] w fun e w' => e = .returned (.tuple #[.int .i64 0, errV 1]) ∧ Below w.heap.size w w'))
    (CT : Hid (∀ w : World, Calls Tryd.prog 17 #[.int .i64 n] w fun e w' => e = .returned (.int .i64 t) ∧ w' = w))
    (CF : Hid (∀ w : World, Calls Tryd.prog 18 #[.int .i64 n] w fun e w' => e = .returned (.tuple #[.agg #[.int .i64 (t / 4096), .int .i64 (t % 4096)], errV 0]) ∧ Below w.heap.size w w'))
    (CZ : Hid (∀ w : World, Calls Tryd.prog 19 #[.int .i64 n, .int .i64 k] w fun e w' => e = .returned (.tuple #[.int .i64 0, errV 1]) ∧ Below w.heap.size w w')) :
    Calls Tryd.prog 5 #[.agg #[.int .i64 s, .int .i64 m], .int .i64 n, .int .i64 k] w fun e w' => e = .returned (.bool true) ∧ Below w.heap.size w w' := by
  have d0 : 0 ≤ t / 4096 := by omega
  have d1 : t / 4096 ≤ 15 := by omega
  go_enter Tryd.func5, Tryd.ntmps5
  go_wp2_with fail
  refine (unhide CO _).mono ?_
  rintro e w1 ⟨rfl, hb1⟩
  have HP1 : Hid (Held w1 (w.heap.size) (n2 s m)) := hide (((Held.fresh (w := w) (n2 s m) 42 (by first | rfl | (simp; done))).later (by (repeat' (first | exact Below.refl _ _ | refine Below.alloc ?_ ?_ _ | refine Below.setCell ?_ ?_ _ | refine Below.drew ?_)); all_goals (first | exact Nat.le_refl _ | omega | (simp; done) | (simp; omega)))).later hb1)
  have HB1 := hide (show Below w.heap.size w w1 from Below.trans (by (repeat' (first | exact Below.refl _ _ | refine Below.alloc ?_ ?_ _ | refine Below.setCell ?_ ?_ _ | refine Below.drew ?_)); all_goals (first | exact Nat.le_refl _ | omega | (simp; done) | (simp; omega))) (hb1.mono (by first | exact Nat.le_refl _ | (simp; done) | (simp; omega))))
  clear hb1
  obtain ⟨p0, p1⟩ := (unhide HP1).c2.1
  have pl := (unhide HP1).2
  go_wp2_with fail
  refine (unhide CN _).mono ?_
  rintro e w2 ⟨rfl, hb2⟩
  clear p0 p1 pl
  have HP2 := hide (((unhide HP1).later (by (repeat' (first | exact Below.refl _ _ | refine Below.alloc ?_ ?_ _ | refine Below.setCell ?_ ?_ _ | refine Below.drew ?_)); all_goals (first | exact Nat.le_refl _ | omega | (simp; done) | (simp; omega)))).later hb2)
  have HB2 := hide (show Below w.heap.size w w2 from (by have := (unhide HP1).2; have := (unhide HB1).size; exact Below.trans (by (repeat' (first | exact Below.refl _ _ | refine Below.alloc ?_ ?_ _ | refine Below.setCell ?_ ?_ _ | refine Below.drew ?_ | refine Below.trans ?_ (Below.mono (unhide HB1) ?_))); all_goals (first | exact Nat.le_refl _ | omega | (simp; done) | (simp; omega))) (hb2.mono (by first | omega | (simp; done) | (simp; omega)))))
  clear hb2
  go_wp2_with fail
  refine (same_same 1 _ ((unhide HG).later (by have := (unhide HP2).2; have := (unhide HB2).size; exact (by (repeat' (first | exact Below.refl _ _ | refine Below.alloc ?_ ?_ _ | refine Below.setCell ?_ ?_ _ | refine Below.drew ?_ | refine Below.trans ?_ (Below.mono (unhide HB2) ?_))); all_goals (first | exact Nat.le_refl _ | omega | (simp; done) | (simp; omega)))))).mono ?_
  rintro e w3 ⟨rfl, hb3⟩
  have HP3 := hide (((unhide HP2).later (by (repeat' (first | exact Below.refl _ _ | refine Below.alloc ?_ ?_ _ | refine Below.setCell ?_ ?_ _ | refine Below.drew ?_)); all_goals (first | exact Nat.le_refl _ | omega | (simp; done) | (simp; omega)))).later hb3)
  have HB3 := hide (show Below w.heap.size w w3 from (by have := (unhide HP2).2; have := (unhide HB2).size; exact Below.trans (by (repeat' (first | exact Below.refl _ _ | refine Below.alloc ?_ ?_ _ | refine Below.setCell ?_ ?_ _ | refine Below.drew ?_ | refine Below.trans ?_ (Below.mono (unhide HB2) ?_))); all_goals (first | exact Nat.le_refl _ | omega | (simp; done) | (simp; omega))) (hb3.mono (by first | omega | (simp; done) | (simp; omega)))))
  clear hb3
  go_wp2_with fail
  refine (unhide CT _).mono ?_
  rintro e w' ⟨rfl, hw⟩
  obtain rfl := hw.symm
  clear hw
  go_wp2_with fail
  refine (unhide CF _).mono ?_
  rintro e w4 ⟨rfl, hb4⟩
  have HQ4 : Hid (Held w4 (w3.heap.size) (n2 (t / 4096) (t % 4096))) := hide (((Held.fresh (w := w3) (n2 (t / 4096) (t % 4096)) 42 (by first | rfl | (simp; done))).later (by (repeat' (first | exact Below.refl _ _ | refine Below.alloc ?_ ?_ _ | refine Below.setCell ?_ ?_ _ | refine Below.drew ?_)); all_goals (first | exact Nat.le_refl _ | omega | (simp; done) | (simp; omega)))).later hb4)
  have HB4 := hide (show Below w.heap.size w w4 from (by have := (unhide HB3).size; exact Below.trans (by (repeat' (first | exact Below.refl _ _ | refine Below.alloc ?_ ?_ _ | refine Below.setCell ?_ ?_ _ | refine Below.drew ?_ | refine Below.trans ?_ (Below.mono (unhide HB3) ?_))); all_goals (first | exact Nat.le_refl _ | omega | (simp; done) | (simp; omega))) (hb4.mono (by first | omega | (simp; done) | (simp; omega)))))
  clear hb4
  go_wp2_with fail
  refine (same_same 0 _ ((unhide HG).later (by have := (unhide HQ4).2; have := (unhide HB4).size; exact (by (repeat' (first | exact Below.refl _ _ | refine Below.alloc ?_ ?_ _ | refine Below.setCell ?_ ?_ _ | refine Below.drew ?_ | refine Below.trans ?_ (Below.mono (unhide HB4) ?_))); all_goals (first | exact Nat.le_refl _ | omega | (simp; done) | (simp; omega)))))).mono ?_
  rintro e w5 ⟨rfl, hb5⟩
  have HQ5 := hide (((unhide HQ4).later (by (repeat' (first | exact Below.refl _ _ | refine Below.alloc ?_ ?_ _ | refine Below.setCell ?_ ?_ _ | refine Below.drew ?_)); all_goals (first | exact Nat.le_refl _ | omega | (simp; done) | (simp; omega)))).later hb5)
  have HY5 : Hid (Held w5 (w4.heap.size) (n2 (t / 4096) (t % 4096))) := hide ((Held.fresh (n2 (t / 4096) (t % 4096)) _ (by first | rfl | (simp; done))).later hb5)
  have HB5 := hide (show Below w.heap.size w w5 from (by have := (unhide HQ4).2; have := (unhide HB4).size; exact Below.trans (by (repeat' (first | exact Below.refl _ _ | refine Below.alloc ?_ ?_ _ | refine Below.setCell ?_ ?_ _ | refine Below.drew ?_ | refine Below.trans ?_ (Below.mono (unhide HB4) ?_))); all_goals (first | exact Nat.le_refl _ | omega | (simp; done) | (simp; omega))) (hb5.mono (by first | omega | (simp; done) | (simp; omega)))))
  clear hb5
  obtain ⟨q0, q1⟩ := (unhide HQ5).c2.1
  have ql := (unhide HQ5).2
  obtain ⟨y0, y1⟩ := (unhide HY5).c2.1
  have yl := (unhide HY5).2
  go_wp2_with fail
  refine (unhide CZ _).mono ?_
  rintro e w6 ⟨rfl, hb6⟩
  clear q0 q1 ql y0 y1 yl
  have HQ6 := hide (((unhide HQ5).later (by (repeat' (first | exact Below.refl _ _ | refine Below.alloc ?_ ?_ _ | refine Below.setCell ?_ ?_ _ | refine Below.drew ?_)); all_goals (first | exact Nat.le_refl _ | omega | (simp; done) | (simp; omega)))).later hb6)
  have HY6 := hide (((unhide HY5).later (by (repeat' (first | exact Below.refl _ _ | refine Below.alloc ?_ ?_ _ | refine Below.setCell ?_ ?_ _ | refine Below.drew ?_)); all_goals (first | exact Nat.le_refl _ | omega | (simp; done) | (simp; omega)))).later hb6)
  have HB6 := hide (show Below w.heap.size w w6 from (by have := (unhide HQ5).2; have := (unhide HY5).2; have := (unhide HB5).size; exact Below.trans (by (repeat' (first | exact Below.refl _ _ | refine Below.alloc ?_ ?_ _ | refine Below.setCell ?_ ?_ _ | refine Below.drew ?_ | refine Below.trans ?_ (Below.mono (unhide HB5) ?_))); all_goals (first | exact Nat.le_refl _ | omega | (simp; done) | (simp; omega))) (hb6.mono (by first | omega | (simp; done) | (simp; omega)))))
  clear hb6
  go_wp2_with fail
  refine (same_same 1 _ ((unhide HG).later (by have := (unhide HQ6).2; have := (unhide HY6).2; have := (unhide HB6).size; exact (by (repeat' (first | exact Below.refl _ _ | refine Below.alloc ?_ ?_ _ | refine Below.setCell ?_ ?_ _ | refine Below.drew ?_ | refine Below.trans ?_ (Below.mono (unhide HB6) ?_))); all_goals (first | exact Nat.le_refl _ | omega | (simp; done) | (simp; omega)))))).mono ?_
  rintro e w7 ⟨rfl, hb7⟩
  have HQ7 := hide (((unhide HQ6).later (by (repeat' (first | exact Below.refl _ _ | refine Below.alloc ?_ ?_ _ | refine Below.setCell ?_ ?_ _ | refine Below.drew ?_)); all_goals (first | exact Nat.le_refl _ | omega | (simp; done) | (simp; omega)))).later hb7)
  have HY7 := hide (((unhide HY6).later (by (repeat' (first | exact Below.refl _ _ | refine Below.alloc ?_ ?_ _ | refine Below.setCell ?_ ?_ _ | refine Below.drew ?_)); all_goals (first | exact Nat.le_refl _ | omega | (simp; done) | (simp; omega)))).later hb7)
  have HB7 := hide (show Below w.heap.size w w7 from (by have := (unhide HQ6).2; have := (unhide HY6).2; have := (unhide HB6).size; exact Below.trans (by (repeat' (first | exact Below.refl _ _ | refine Below.alloc ?_ ?_ _ | refine Below.setCell ?_ ?_ _ | refine Below.drew ?_ | refine Below.trans ?_ (Below.mono (unhide HB6) ?_))); all_goals (first | exact Nat.le_refl _ | omega | (simp; done) | (simp; omega))) (hb7.mono (by first | omega | (simp; done) | (simp; omega)))))
  clear hb7
  go_wp2
  go_ret
  exact ⟨rfl, (by have := (unhide HQ7).2; have := (unhide HY7).2; have := (unhide HB7).size; exact (by (repeat' (first | exact Below.refl _ _ | refine Below.alloc ?_ ?_ _ | refine Below.setCell ?_ ?_ _ | refine Below.drew ?_ | refine Below.trans ?_ (Below.mono (unhide HB7) ?_))); all_goals (first | exact Nat.le_refl _ | omega | (simp; done) | (simp; omega))))⟩

set_option maxHeartbeats 6400000 in
set_option maxRecDepth 8000 in
theorem walk_no_good (s m n k t : Int) (w : World) (HG : Hid (ErrType w)) (hn0 : 0 ≤ n) (hn1 : n ≤ 65535) (hk0 : 1 ≤ k) (hk : k ≤ 16) (t0 : 0 ≤ t) (t1 : t ≤ 65535)
    (CO : Hid (∀ w : World, Calls Tryd.prog 14 #[.agg #[.int .i64 s, .int .i64 m]] w fun e w' => e = .returned (.bool false) ∧ Below w.heap.size w w'))
    (CN : Hid (∀ w : World, Calls Tryd.prog 16 #[.agg #[.int .i64 s, .int .i64 m]] w fun e w' => e = .returned (.tuple #[.int .i64 0, errV 1]) ∧ Below w.heap.size w w'))
    (CT : Hid (∀ w : World, Calls Tryd.prog 17 #[.int .i64 n] w fun e w' => e = .returned (.int .i64 t) ∧ w' = w))
    (CF : Hid (∀ w : World, Calls Tryd.prog 18 #[.int .i64 n] w fun e w' => e = .returned (.tuple #[.agg #[.int .i64 (t / 4096), .int .i64 (t % 4096)], errV 0]) ∧ Below w.heap.size w w'))
    (CZ : Hid (∀ w : World, Calls Tryd.prog 19 #[.int .i64 n, .int .i64 k] w fun e w' => e = .returned (.tuple #[.int .i64 (t / 4096 % k), errV 0]) ∧ Below w.heap.size w w')) :
    Calls Tryd.prog 5 #[.agg #[.int .i64 s, .int .i64 m], .int .i64 n, .int .i64 k] w fun e w' => e = .returned (.bool true) ∧ Below w.heap.size w w' := by
  have d0 : 0 ≤ t / 4096 := by omega
  have d1 : t / 4096 ≤ 15 := by omega
  have kz : ¬ k = 0 := by omega
  go_enter Tryd.func5, Tryd.ntmps5
  go_wp2_with fail
  refine (unhide CO _).mono ?_
  rintro e w1 ⟨rfl, hb1⟩
  have HP1 : Hid (Held w1 (w.heap.size) (n2 s m)) := hide (((Held.fresh (w := w) (n2 s m) 42 (by first | rfl | (simp; done))).later (by (repeat' (first | exact Below.refl _ _ | refine Below.alloc ?_ ?_ _ | refine Below.setCell ?_ ?_ _ | refine Below.drew ?_)); all_goals (first | exact Nat.le_refl _ | omega | (simp; done) | (simp; omega)))).later hb1)
  have HB1 := hide (show Below w.heap.size w w1 from Below.trans (by (repeat' (first | exact Below.refl _ _ | refine Below.alloc ?_ ?_ _ | refine Below.setCell ?_ ?_ _ | refine Below.drew ?_)); all_goals (first | exact Nat.le_refl _ | omega | (simp; done) | (simp; omega))) (hb1.mono (by first | exact Nat.le_refl _ | (simp; done) | (simp; omega))))
  clear hb1
  obtain ⟨p0, p1⟩ := (unhide HP1).c2.1
  have pl := (unhide HP1).2
  go_wp2_with fail
  refine (unhide CN _).mono ?_
  rintro e w2 ⟨rfl, hb2⟩
  clear p0 p1 pl
  have HP2 := hide (((unhide HP1).later (by (repeat' (first | exact Below.refl _ _ | refine Below.alloc ?_ ?_ _ | refine Below.setCell ?_ ?_ _ | refine Below.drew ?_)); all_goals (first | exact Nat.le_refl _ | omega | (simp; done) | (simp; omega)))).later hb2)
  have HB2 := hide (show Below w.heap.size w w2 from (by have := (unhide HP1).2; have := (unhide HB1).size; exact Below.trans (by (repeat' (first | exact Below.refl _ _ | refine Below.alloc ?_ ?_ _ | refine Below.setCell ?_ ?_ _ | refine Below.drew ?_ | refine Below.trans ?_ (Below.mono (unhide HB1) ?_))); all_goals (first | exact Nat.le_refl _ | omega | (simp; done) | (simp; omega))) (hb2.mono (by first | omega | (simp; done) | (simp; omega)))))
  clear hb2
  go_wp2_with fail
  refine (same_same 1 _ ((unhide HG).later (by have := (unhide HP2).2; have := (unhide HB2).size; exact (by (repeat' (first | exact Below.refl _ _ | refine Below.alloc ?_ ?_ _ | refine Below.setCell ?_ ?_ _ | refine Below.drew ?_ | refine Below.trans ?_ (Below.mono (unhide HB2) ?_))); all_goals (first | exact Nat.le_refl _ | omega | (simp; done) | (simp; omega)))))).mono ?_
  rintro e w3 ⟨rfl, hb3⟩
  have HP3 := hide (((unhide HP2).later (by (repeat' (first | exact Below.refl _ _ | refine Below.alloc ?_ ?_ _ | refine Below.setCell ?_ ?_ _ | refine Below.drew ?_)); all_goals (first | exact Nat.le_refl _ | omega | (simp; done) | (simp; omega)))).later hb3)
  have HB3 := hide (show Below w.heap.size w w3 from (by have := (unhide HP2).2; have := (unhide HB2).size; exact Below.trans (by (repeat' (first | exact Below.refl _ _ | refine Below.alloc ?_ ?_ _ | refine Below.setCell ?_ ?_ _ | refine Below.drew ?_ | refine Below.trans ?_ (Below.mono (unhide HB2) ?_))); all_goals (first | exact Nat.le_refl _ | omega | (simp; done) | (simp; omega))) (hb3.mono (by first | omega | (simp; done) | (simp; omega)))))
  clear hb3
  go_wp2_with fail
  refine (unhide CT _).mono ?_
  rintro e w' ⟨rfl, hw⟩
  obtain rfl := hw.symm
  clear hw
  go_wp2_with fail
  refine (unhide CF _).mono ?_
  rintro e w4 ⟨rfl, hb4⟩
  have HQ4 : Hid (Held w4 (w3.heap.size) (n2 (t / 4096) (t % 4096))) := hide (((Held.fresh (w := w3) (n2 (t / 4096) (t % 4096)) 42 (by first | rfl | (simp; done))).later (by (repeat' (first | exact Below.refl _ _ | refine Below.alloc ?_ ?_ _ | refine Below.setCell ?_ ?_ _ | refine Below.drew ?_)); all_goals (first | exact Nat.le_refl _ | omega | (simp; done) | (simp; omega)))).later hb4)
  have HB4 := hide (show Below w.heap.size w w4 from (by have := (unhide HB3).size; exact Below.trans (by (repeat' (first | exact Below.refl _ _ | refine Below.alloc ?_ ?_ _ | refine Below.setCell ?_ ?_ _ | refine Below.drew ?_ | refine Below.trans ?_ (Below.mono (unhide HB3) ?_))); all_goals (first | exact Nat.le_refl _ | omega | (simp; done) | (simp; omega))) (hb4.mono (by first | omega | (simp; done) | (simp; omega)))))
  clear hb4
  go_wp2_with fail
  refine (same_same 0 _ ((unhide HG).later (by have := (unhide HQ4).2; have := (unhide HB4).size; exact (by (repeat' (first | exact Below.refl _ _ | refine Below.alloc ?_ ?_ _ | refine Below.setCell ?_ ?_ _ | refine Below.drew ?_ | refine Below.trans ?_ (Below.mono (unhide HB4) ?_))); all_goals (first | exact Nat.le_refl _ | omega | (simp; done) | (simp; omega)))))).mono ?_
  rintro e w5 ⟨rfl, hb5⟩
  have HQ5 := hide (((unhide HQ4).later (by (repeat' (first | exact Below.refl _ _ | refine Below.alloc ?_ ?_ _ | refine Below.setCell ?_ ?_ _ | refine Below.drew ?_)); all_goals (first | exact Nat.le_refl _ | omega | (simp; done) | (simp; omega)))).later hb5)
  have HY5 : Hid (Held w5 (w4.heap.size) (n2 (t / 4096) (t % 4096))) := hide ((Held.fresh (n2 (t / 4096) (t % 4096)) _ (by first | rfl | (simp; done))).later hb5)
  have HB5 := hide (show Below w.heap.size w w5 from (by have := (unhide HQ4).2; have := (unhide HB4).size; exact Below.trans (by (repeat' (first | exact Below.refl _ _ | refine Below.alloc ?_ ?_ _ | refine Below.setCell ?_ ?_ _ | refine Below.drew ?_ | refine Below.trans ?_ (Below.mono (unhide HB4) ?_))); all_goals (first | exact Nat.le_refl _ | omega | (simp; done) | (simp; omega))) (hb5.mono (by first | omega | (simp; done) | (simp; omega)))))
  clear hb5
  obtain ⟨q0, q1⟩ := (unhide HQ5).c2.1
  have ql := (unhide HQ5).2
  obtain ⟨y0, y1⟩ := (unhide HY5).c2.1
  have yl := (unhide HY5).2
  go_wp2_with fail
  refine (unhide CZ _).mono ?_
  rintro e w6 ⟨rfl, hb6⟩
  clear q0 q1 ql y0 y1 yl
  have HQ6 := hide (((unhide HQ5).later (by (repeat' (first | exact Below.refl _ _ | refine Below.alloc ?_ ?_ _ | refine Below.setCell ?_ ?_ _ | refine Below.drew ?_)); all_goals (first | exact Nat.le_refl _ | omega | (simp; done) | (simp; omega)))).later hb6)
  have HY6 := hide (((unhide HY5).later (by (repeat' (first | exact Below.refl _ _ | refine Below.alloc ?_ ?_ _ | refine Below.setCell ?_ ?_ _ | refine Below.drew ?_)); all_goals (first | exact Nat.le_refl _ | omega | (simp; done) | (simp; omega)))).later hb6)
  have HB6 := hide (show Below w.heap.size w w6 from (by have := (unhide HQ5).2; have := (unhide HY5).2; have := (unhide HB5).size; exact Below.trans (by (repeat' (first | exact Below.refl _ _ | refine Below.alloc ?_ ?_ _ | refine Below.setCell ?_ ?_ _ | refine Below.drew ?_ | refine Below.trans ?_ (Below.mono (unhide HB5) ?_))); all_goals (first | exact Nat.le_refl _ | omega | (simp; done) | (simp; omega))) (hb6.mono (by first | omega | (simp; done) | (simp; omega)))))
  clear hb6
  go_wp2_with fail
  refine (same_same 0 _ ((unhide HG).later (by have := (unhide HQ6).2; have := (unhide HY6).2; have := (unhide HB6).size; exact (by (repeat' (first | exact Below.refl _ _ | refine Below.alloc ?_ ?_ _ | refine Below.setCell ?_ ?_ _ | refine Below.drew ?_ | refine Below.trans ?_ (Below.mono (unhide HB6) ?_))); all_goals (first | exact Nat.le_refl _ | omega | (simp; done) | (simp; omega)))))).mono ?_
  rintro e w7 ⟨rfl, hb7⟩
  have HQ7 := hide (((unhide HQ6).later (by (repeat' (first | exact Below.refl _ _ | refine Below.alloc ?_ ?_ _ | refine Below.setCell ?_ ?_ _ | refine Below.drew ?_)); all_goals (first | exact Nat.le_refl _ | omega | (simp; done) | (simp; omega)))).later hb7)
  have HY7 := hide (((unhide HY6).later (by (repeat' (first | exact Below.refl _ _ | refine Below.alloc ?_ ?_ _ | refine Below.setCell ?_ ?_ _ | refine Below.drew ?_)); all_goals (first | exact Nat.le_refl _ | omega | (simp; done) | (simp; omega)))).later hb7)
  have HB7 := hide (show Below w.heap.size w w7 from (by have := (unhide HQ6).2; have := (unhide HY6).2; have := (unhide HB6).size; exact Below.trans (by (repeat' (first | exact Below.refl _ _ | refine Below.alloc ?_ ?_ _ | refine Below.setCell ?_ ?_ _ | refine Below.drew ?_ | refine Below.trans ?_ (Below.mono (unhide HB6) ?_))); all_goals (first | exact Nat.le_refl _ | omega | (simp; done) | (simp; omega))) (hb7.mono (by first | omega | (simp; done) | (simp; omega)))))
  clear hb7
  go_wp2
  go_ret
  exact ⟨rfl, (by have := (unhide HQ7).2; have := (unhide HY7).2; have := (unhide HB7).size; exact (by (repeat' (first | exact Below.refl _ _ | refine Below.alloc ?_ ?_ _ | refine Below.setCell ?_ ?_ _ | refine Below.drew ?_ | refine Below.trans ?_ (Below.mono (unhide HB7) ?_))); all_goals (first | exact Nat.le_refl _ | omega | (simp; done) | (simp; omega))))⟩


theorem walk (s m n k : Int) (w : World) (_w0_0 : (Lit.int .i64 s).wf = true) (_w0_1 : (Lit.int .i64 m).wf = true) (_w1 : (Lit.int .i64 n).wf = true) (_w2 : (Lit.int .i64 k).wf = true) (hg : ErrType w) :
    Calls Tryd.prog 5 #[.agg #[.int .i64 s, .int .i64 m], .int .i64 n, .int .i64 k] w fun e w' => e = .returned (.bool true) ∧ Below w.heap.size w w' := by
  have CO := hide (fun w => rconn_any s m w)
  have CN := hide (fun w => cnumber_any s m w)
  have CF := hide (fun w => cof_any n w)
  have CZ := hide (fun w => croute_any n k w)
  by_cases q : 0 ≤ s ∧ s ≤ 15 ∧ 0 ≤ m ∧ m ≤ 4095
  · have CR := hide (fun w => rnumber_any (s := s) (m := m) w q.1 q.2.1 q.2.2.1 q.2.2.2)
    rw [ConnM.bad_zero.2 q] at CO CN
    rw [ConnM.told_zero rfl] at CN
    rw [show ((0 : Int) == 0) = true from rfl] at CO
    clear q
    by_cases n0 : n < 0
    · rw [ConnM.of_one.2 (by omega), ConnM.told_pos (by omega), ConnM.told_pos (by omega)] at CF
      rw [ConnM.route_one.2 (by omega), ConnM.told_pos (by omega)] at CZ
      exact walk_ok_nlow s m n k _ w (hide hg) n0 CO CR CN CF CZ
    · by_cases n1 : 65535 < n
      · rw [ConnM.of_one.2 (by omega), ConnM.told_pos (by omega), ConnM.told_pos (by omega)] at CF
        rw [ConnM.route_one.2 (by omega), ConnM.told_pos (by omega)] at CZ
        exact walk_ok_nhigh s m n k _ w (hide hg) (by omega) n1 CO CR CN CF CZ
      · rw [ConnM.of_zero.2 (by omega), ConnM.told_zero rfl, ConnM.told_zero rfl] at CF
        have CT := hide (fun w => rturned_any (n := n) w (by omega) (by omega))
        have t0 := ConnM.turn_lo n
        have t1 := ConnM.turn_hi (x := n) (by omega)
        by_cases k0 : k < 1
        · rw [ConnM.route_one.2 (by omega), ConnM.told_pos (by omega)] at CZ
          exact walk_ok_klow s m n k _ _ w (hide hg) (by omega) (by omega) k0 t0 t1 CO CR CN CT CF CZ
        · by_cases k1 : 16 < k
          · rw [ConnM.route_one.2 (by omega), ConnM.told_pos (by omega)] at CZ
            exact walk_ok_khigh s m n k _ _ w (hide hg) (by omega) (by omega) (by omega) k1 t0 t1 CO CR CN CT CF CZ
          · rw [ConnM.route_zero.2 (by omega), ConnM.told_zero rfl] at CZ
            exact walk_ok_good s m n k _ _ w (hide hg) (by omega) (by omega) (by omega) (by omega) t0 t1 CO CR CN CT CF CZ
  · rw [ConnM.bad_one.2 (by omega)] at CO CN
    rw [ConnM.told_pos (by omega)] at CN
    rw [show ((1 : Int) == 0) = false from rfl] at CO
    clear q
    by_cases n0 : n < 0
    · rw [ConnM.of_one.2 (by omega), ConnM.told_pos (by omega), ConnM.told_pos (by omega)] at CF
      rw [ConnM.route_one.2 (by omega), ConnM.told_pos (by omega)] at CZ
      exact walk_no_nlow s m n k w (hide hg) n0 CO CN CF CZ
    · by_cases n1 : 65535 < n
      · rw [ConnM.of_one.2 (by omega), ConnM.told_pos (by omega), ConnM.told_pos (by omega)] at CF
        rw [ConnM.route_one.2 (by omega), ConnM.told_pos (by omega)] at CZ
        exact walk_no_nhigh s m n k w (hide hg) (by omega) n1 CO CN CF CZ
      · rw [ConnM.of_zero.2 (by omega), ConnM.told_zero rfl, ConnM.told_zero rfl] at CF
        have CT := hide (fun w => rturned_any (n := n) w (by omega) (by omega))
        have t0 := ConnM.turn_lo n
        have t1 := ConnM.turn_hi (x := n) (by omega)
        by_cases k0 : k < 1
        · rw [ConnM.route_one.2 (by omega), ConnM.told_pos (by omega)] at CZ
          exact walk_no_klow s m n k _ w (hide hg) (by omega) (by omega) k0 t0 t1 CO CN CT CF CZ
        · by_cases k1 : 16 < k
          · rw [ConnM.route_one.2 (by omega), ConnM.told_pos (by omega)] at CZ
            exact walk_no_khigh s m n k _ w (hide hg) (by omega) (by omega) (by omega) k1 t0 t1 CO CN CT CF CZ
          · rw [ConnM.route_zero.2 (by omega), ConnM.told_zero rfl] at CZ
            exact walk_no_good s m n k _ w (hide hg) (by omega) (by omega) (by omega) (by omega) t0 t1 CO CN CT CF CZ


theorem gErr : Tryd.prog.globalNamed "errors.errorType" = some 0 := by kernel_rfl
theorem rtErr : (Tryd.prog.cutTypes.find? (·.1 == "internal/reflectlite.rtype")).map (·.2) = some 74 := by kernel_rfl
theorem oneRow : ((List.range 117).filter fun t => Tryd.prog.rowNamed t [101, 114, 114, 111, 114]) = [25] := by kernel_rfl
theorem sizeT : Tryd.prog.types.size = 117 := by kernel_rfl
theorem handle_of_laid {W : World} (h : laidMetH Tryd.prog Rows.connTellsRow.laid W) : ErrType W := by
  have h' : laidMet Tryd.prog [] W ∧ handlesMet Tryd.prog Rows.connTellsRow.laid W := h
  obtain ⟨name, u, ty, e1, e2, e3, e4, e5⟩ := h'.2 _ (List.mem_singleton.2 rfl)
  have en : name = [101, 114, 114, 111, 114] := (Option.some.inj e1).symm
  subst en
  obtain rfl := Option.some.inj (rtErr.symm.trans e2)
  have hm : ty ∈ (List.range 117).filter fun t => Tryd.prog.rowNamed t [101, 114, 114, 111, 114] := List.mem_filter.2 ⟨List.mem_range.2 (by rw [← sizeT]; exact e3), e4⟩
  rw [oneRow] at hm
  obtain rfl := List.mem_singleton.1 hm
  have hh : typeHandle Tryd.prog 25 = .pointer (some ⟨1, 25, none⟩) := by kernel_rfl
  rw [hh] at e5
  unfold ErrType
  simpa using World.var?_cell gErr e5 0
theorem door_met (os : Os) (args : Array Value) : laidMetH Tryd.prog Rows.connTellsRow.laid ((World.doorLaid Tryd.prog 400 os).forCall (fun _ _ => 0) ⟨#[], args, []⟩).memory :=
  laidMetH_of_parts (laidMet_nil _ _) (by kernel_rfl)


set_option maxRecDepth 100000 in
theorem lifted (os : Os) (started : os.Started) (H : Type) (enc : TypeId × Value → H) :
    ReturnsInHanded {} Tryd.checked os 5 .any (fun w args => (Rows.connTellsSpec.pre enc Tryd.prog Tryd.f5 [] false w args ∧ laidMetH Tryd.prog Rows.connTellsRow.laid w) ∧ sizedMet enc Tryd.prog Tryd.f5 (OpenSpec.ofChange Rows.connTellsSpec) false w args) (Rows.connTellsSpec.post enc Tryd.prog Tryd.f5 false true false false) := by
  refine returnsInHanded_of_change_and (C := Tryd.checked) (X := fun w _ => laidMetH Tryd.prog Rows.connTellsRow.laid w) (fun _ _ _ hh h => h.of_heap hh) own started (by kernel_rfl) Tryd.func5
    (ChangeSpec.witness_shaped (enc := enc) (C := Tryd.checked) (os := os) (X := fun w _ => laidMetH Tryd.prog Rows.connTellsRow.laid w) false (World.doorLaid Tryd.prog 400 os) #[.agg #[.int .i64 0, .int .i64 0], .int .i64 0, .int .i64 0] 8 rfl (World.shaped_of_RefB (by kernel_rfl) (by kernel_rfl)) (by kernel_rfl) (by kernel_rfl) (by kernel_rfl) (door_met os _)) ?_
  intro W base args ds gs before hval0 hW _ hsz hL _
  have hg := handle_of_laid hL
  have hval : ∀ (j : Nat) t v, Tryd.f5.params[j]? = some t → args[j]? = some v → Value.okWide Tryd.prog W .any base t v := hval0
  have hW' := hW
  obtain ⟨p, q, hA0, hV, rfl, hfz, hnd⟩ := hW
  have hA : DataW.TrodAll enc Tryd.prog W 0 (fun _ => true) true Tryd.f5.params.toList args.toList ds p := hA0
  rw [Tryd.params5] at hA hval
  obtain ⟨v0, vs0, d0, ds0, p0, q0, hargs, rfl, rfl, h0, r0⟩ := trodAll_cons hA
  obtain ⟨v1, vs1, d1, ds1, p1, q1, rfl, rfl, rfl, h1, r1⟩ := trodAll_cons r0
  obtain ⟨v2, vs2, d2, ds2, p2, q2, rfl, rfl, rfl, h2, r2⟩ := trodAll_cons r1
  obtain ⟨rfl, rfl, rfl⟩ := trodAll_nil r2
  obtain rfl : args = #[v0, v1, v2] := by cases args; simp_all
  obtain ⟨rfl, rfl⟩ := trodVars_none hV
  have k0 := h0
  have lt0 : ∀ x ∈ p0, x.block < W.heap.size := by obtain ⟨m, hm⟩ := k0; exact DataW.trod_lt m _ _ _ hm
  obtain ⟨c0_0, c0_1, y0_0, y0_1, m0, rfl, rfl, rfl, g0_0, g0_1⟩ := open_agg2 Tryd.underlying42 (by kernel_rfl) (by kernel_rfl) (hval 0 42 v0 rfl rfl) h0
  obtain ⟨a0_0, e0_0, rfl, w0_0⟩ := DataW.trod_int Tryd.underlying3 g0_0
  simp at e0_0; subst e0_0
  obtain ⟨a0_1, e0_1, rfl, w0_1⟩ := DataW.trod_int Tryd.underlying3 g0_1
  simp at e0_1; subst e0_1
  have k1 := h1
  have lt1 : ∀ x ∈ p1, x.block < W.heap.size := by obtain ⟨m, hm⟩ := k1; exact DataW.trod_lt m _ _ _ hm
  obtain ⟨a1, rfl, rfl, rfl, w1⟩ := open_int Tryd.underlying3 (hval 1 3 v1 rfl rfl) h1
  have k2 := h2
  have lt2 : ∀ x ∈ p2, x.block < W.heap.size := by obtain ⟨m, hm⟩ := k2; exact DataW.trod_lt m _ _ _ hm
  obtain ⟨a2, rfl, rfl, rfl, w2⟩ := open_int Tryd.underlying3 (hval 2 3 v2 rfl rfl) h2
  clear hA0 hval0
  refine (walk a0_0 a0_1 a1 a2 W w0_0 w0_1 w1 w2 hg).mono fun e W' ⟨he, bel⟩ => ?_
  subst he
  exact ⟨_, rfl, _, _, _, [], _, [], hW', trodAll_mk1 (shut_bool Tryd.underlying4 _), (trodAll_cons_mk (Below.trod laidOut (by kernel_rfl) (of_decide_eq_true (by kernel_rfl)) k0 bel lt0) (trodAll_cons_mk (Below.trod laidOut (by kernel_rfl) (of_decide_eq_true (by kernel_rfl)) k1 bel lt1) (trodAll_cons_mk (Below.trod laidOut (by kernel_rfl) (of_decide_eq_true (by kernel_rfl)) k2 bel lt2) trodAll_mk0))), rfl, bel.frame _, fun h => by cases h⟩

theorem over : Rows.connTellsRow.holds Tryd.pinned (OpenSpec.ofChange Rows.connTellsSpec) :=
  OpenClaim.holds_of_wide 5 Tryd.f5 rfl rfl rfl rfl rfl rfl rfl ⟨rfl, rfl, rfl, rfl, rfl⟩ rfl rfl rfl rfl rfl (by kernel_rfl) Tryd.func5 (by kernel_rfl)
    (of_decide_eq_true (by kernel_rfl)) (by unfold Func.isWrapper; first | (rw [if_pos (by decide +kernel)]; kernel_rfl) | (rw [if_neg (by decide +kernel)]; exact ⟨rfl, rfl⟩))
    (fun os started H enc _ => lifted os started H enc)

theorem card : Rows.ConnTellsCardSaid :=
  Claim7.holds_tied_plain_at .later [] [.handle] true (true, "6b19781739fd0db2173682212d3b5be0fd793b12ea978c642e34fad94a22c842") true
    over (fun _ h => by cases h) (by kernel_rfl) (fun _ h => by cases h) connTells_row_tie rfl ⟨rfl, rfl⟩ (by kernel_rfl) rfl
    (fun f fn hf hfn => by
      obtain rfl : f = 5 := Option.some.inj ((show Tryd.prog.funcNamed "tokenfold/foldlaw1.ConnTells" = some 5 by kernel_rfl).symm.trans hf) |>.symm
      obtain rfl : fn = Tryd.f5 := (Option.some.inj (Tryd.func5.symm.trans hfn)).symm
      exact ⟨by kernel_rfl, fun j t ht => by
        rw [Tryd.params5] at ht
        have hm : t ∈ [42, 3, 3] := by simpa using Array.mem_of_getElem? ht
        have hall : ([42, 3, 3].all fun u => !Tryd.prog.wantsStandIn u) = true := by kernel_rfl
        exact (show Tryd.prog.wantsStandIn t = false by simpa using List.all_eq_true.1 hall t hm)⟩)
    (by kernel_rfl)

end Go.Proofs.YtholccdkmgpjladDoor.connTells
namespace Go.Proofs.YtholccdkmgpjladDoor
theorem connTells_holds : Rows.ConnTellsCardSaid := connTells.card
#print axioms connTells_holds
end Go.Proofs.YtholccdkmgpjladDoor

