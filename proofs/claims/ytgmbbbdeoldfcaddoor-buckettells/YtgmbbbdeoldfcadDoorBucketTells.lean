/-
  BucketTells holds for every bucket, time and number: Check, At and Take of package bucket answer as the reference reckons, errors told by plain.Told. The listed variable errors.errorType starts as the program's text lays it (the card's tie). No other condition.
-/
import Derived.Test.YtgmbbbdeoldfcadDoorRefBucket
import Derived.Test.YtgmbbbdeoldfcadDoorBucketWalks
import Derived.Test.YtgmbbbdeoldfcadDoorHeld
import Derived.Test.YtgmbbbdeoldfcadDoorTie
import Derived.Test.YtgmbbbdeoldfcadDoorCards
import Derived.ProofKit
import Derived.Lib.SmallJoins
import Derived.LaidMore
import Derived.LaidHandle
import Derived.LaidLaws
import Derived.Stop.Joined
import Derived.SevenTiedAt
import Derived.Deep.RegionHeld3
import Derived.Deep.Cut
namespace Go.Proofs.YtgmbbbdeoldfcadDoor.bucketTells
open Go.ChangeShapes Go.WideShapes Go.ChangeAt Go.RowKit Go.Joins
set_option linter.unusedVariables false

theorem own : ownKnob Tryd.prog.godebug = none := by kernel_rfl
theorem laidOut : laidOutB Tryd.prog = true := by kernel_rfl
def IsRow (k : IntKind) (w : World) (a : Option Addr) (len cap : Nat) (zs : List Int) : Prop :=
  (a = none ∧ len = 0 ∧ cap = 0 ∧ zs = []) ∨
  ∃ x, a = some x ∧ len ≤ cap ∧ cap ≤ maxLen ∧ zs.length = cap ∧ (∀ i, i < zs.length → w.cell? (x.add i) = some (.int k (zs.getD i 0))) ∧ ∀ n ∈ zs, (Lit.int k n).wf = true
def IsPairs (w : World) (a : Option Addr) (len cap : Nat) (zs : List (Int × Int)) : Prop :=
  (a = none ∧ len = 0 ∧ cap = 0 ∧ zs = []) ∨
  ∃ x, a = some x ∧ len ≤ cap ∧ cap ≤ maxLen ∧ zs.length = cap ∧ ∀ i, i < cap → w.cell? (x.add (i * 2)) = some (.int .i64 (zs.getD i (0, 0)).1) ∧ w.cell? (x.add (i * 2 + 1)) = some (.int .i64 (zs.getD i (0, 0)).2)
def IsRows (w : World) (a : Option Addr) (len cap : Nat) (A : Nat → Option Addr) (L C : Nat → Nat) (Z : Nat → List Int) : Prop :=
  (a = none ∧ len = 0 ∧ cap = 0) ∨
  ∃ x, a = some x ∧ len ≤ cap ∧ cap ≤ maxLen ∧ ∀ r, r < cap → w.cell? (x.add r) = some (.slice (A r) (L r) (C r)) ∧ L r ≤ C r ∧ C r ≤ maxLen ∧ (Z r).length = C r ∧ (∀ n ∈ Z r, (Lit.int .i64 n).wf = true) ∧ (A r = none → C r = 0) ∧
    ∀ a', A r = some a' → ∀ c, c < C r → w.cell? (a'.add c) = some (.int .i64 ((Z r).getD c 0))

attribute [local go_sem ↓] Go.wp_at_zero Go.wp_at_succ

theorem same_same (n : Int) (w : World) (hg : ErrType w) : Calls Tryd.prog 7 #[errV n, .int .i64 n] w fun e w' => e = .returned (.bool true) ∧ Below w.heap.size w w' := by
  have h := same_any n n w hg
  rwa [show (n == n) = true by simp] at h
/-- What a bucket's cells hold, behind a call that leaves what lay below. -/
theorem reg_step {W W1 W2 : World} {c0 c1 c2 c3 : Addr} {r0 r1 r2 r3 : Value}
    (h : Hid (Below W.heap.size W W1) ∧ W1.cell? c0 = some r0 ∧ W1.cell? c1 = some r1 ∧ W1.cell? c2 = some r2 ∧ W1.cell? c3 = some r3) (hb : Below W1.heap.size W1 W2) :
    Hid (Below W.heap.size W W2) ∧ W2.cell? c0 = some r0 ∧ W2.cell? c1 = some r1 ∧ W2.cell? c2 = some r2 ∧ W2.cell? c3 = some r3 := by
  obtain ⟨h0, h1, h2, h3, h4⟩ := h
  exact ⟨hide (Below.trans (unhide h0) (hb.mono (unhide h0).size)), cell_later hb h1, cell_later hb h2, cell_later hb h3, cell_later hb h4⟩

set_option maxHeartbeats 6400000 in
set_option maxRecDepth 8000 in
theorem walk_bad (s r h t x n f g : Int) (w : World) (HG : Hid (ErrType w)) (hg0 : ¬ g = 0)
    (CB : Hid (∀ w : World, Calls Tryd.prog 9 #[.agg #[.int .i64 s, .int .i64 r, .int .i64 h, .int .i64 t]] w fun e w' => e = .returned (.int .i64 f) ∧ Below w.heap.size w w'))
    (CC : Hid (∀ w : World, Calls Tryd.prog 8 #[.agg #[.int .i64 s, .int .i64 r, .int .i64 h, .int .i64 t]] w fun e w' => e = .returned (errV f) ∧ Below w.heap.size w w'))
    (CR : Hid (∀ w : World, Calls Tryd.prog 10 #[.agg #[.int .i64 s, .int .i64 r, .int .i64 h, .int .i64 t], .int .i64 x] w fun e w' => e = .returned (.tuple #[.agg #[.int .i64 0, .int .i64 0, .int .i64 0, .int .i64 0], .int .i64 g]) ∧ Below w.heap.size w w'))
    (CA : Hid (∀ w : World, Calls Tryd.prog 11 #[.agg #[.int .i64 s, .int .i64 r, .int .i64 h, .int .i64 t], .int .i64 x] w fun e w' => e = .returned (.tuple #[.agg #[.int .i64 0, .int .i64 0, .int .i64 0, .int .i64 0], errV g]) ∧ Below w.heap.size w w'))
    (CT : Hid (∀ w : World, Calls Tryd.prog 12 #[.agg #[.int .i64 s, .int .i64 r, .int .i64 h, .int .i64 t], .int .i64 x, .int .i64 n] w fun e w' => e = .returned (.tuple #[.agg #[.int .i64 0, .int .i64 0, .int .i64 0, .int .i64 0], errV g]) ∧ Below w.heap.size w w')) :
    Calls Tryd.prog 4 #[.agg #[.int .i64 s, .int .i64 r, .int .i64 h, .int .i64 t], .int .i64 x, .int .i64 n] w fun e w' => e = .returned (.bool true) ∧ Below w.heap.size w w' := by
  have hgb : (g == 0) = false := by simp [hg0]
  go_enter Tryd.func4, Tryd.ntmps4
  go_wp2
  have HP0 : Hid (Held (w.alloc (.cells #[.int .i64 s, .int .i64 r, .int .i64 h, .int .i64 t] 32)) w.heap.size (n4 s r h t)) := hide (Held.fresh (w := w) (n4 s r h t) 32 rfl)
  have HB0 : Hid (Below w.heap.size w (w.alloc (.cells #[.int .i64 s, .int .i64 r, .int .i64 h, .int .i64 t] 32))) := hide (by (repeat' (first | exact Below.refl _ _ | refine Below.alloc ?_ ?_ _ | refine Below.setCell ?_ ?_ _ | refine Below.drew ?_)); all_goals (first | exact Nat.le_refl _ | omega | (simp; done) | (simp; omega)))
  generalize (w.alloc (.cells #[.int .i64 s, .int .i64 r, .int .i64 h, .int .i64 t] 32)) = w0 at HP0 HB0 ⊢
  obtain ⟨p0, p1, p2, p3⟩ := (unhide HP0).c4.1
  have pl := (unhide HP0).2
  go_region_held3 (fun w' => Hid (Below w0.heap.size w0 w') ∧ w'.cell? ⟨w.heap.size, 0, none⟩ = some (.int .i64 s) ∧ w'.cell? ⟨w.heap.size, 1, none⟩ = some (.int .i64 r) ∧ w'.cell? ⟨w.heap.size, 2, none⟩ = some (.int .i64 h) ∧ w'.cell? ⟨w.heap.size, 3, none⟩ = some (.int .i64 t)) (first | exact reg_step (by assumption) hb | exact ⟨hide ((Below.refl _ _).drew), by rw [World.cell?_drew]; exact p0, by rw [World.cell?_drew]; exact p1, by rw [World.cell?_drew]; exact p2, by rw [World.cell?_drew]; exact p3⟩)
    (first | (go_at_call 8; refine (unhide CC _).mono ?_; rintro e w' ⟨rfl, hb⟩) | (go_at_call 9; refine (unhide CB _).mono ?_; rintro e w' ⟨rfl, hb⟩) | (go_at_call 7; refine (same_same _ _ ((unhide HG).later (Below.trans (unhide HB0) ((unhide (And.left ‹Hid (Below w0.heap.size w0 _) ∧ _›)).mono (unhide HB0).size)))).mono ?_; rintro e w' ⟨rfl, hb⟩))
  have HS := And.left ‹Hid (Below w0.heap.size w0 _) ∧ _›
  have HP1 := hide ((unhide HP0).later (unhide HS))
  have HB1 := hide (bel3 (unhide HB0) (Below.refl _ _) (unhide HS))
  clear HS hb p0 p1 p2 p3 pl
  generalize w' = w1 at HP1 HB1 ⊢
  clear HP0 HB0
  obtain ⟨p0, p1, p2, p3⟩ := (unhide HP1).c4.1
  have pl := (unhide HP1).2
  go_wp2_with fail
  refine (unhide CR _).mono ?_
  rintro e w2 ⟨rfl, hb2⟩
  clear p0 p1 p2 p3 pl
  have HP2 := hide (((unhide HP1).later (by (repeat' (first | exact Below.refl _ _ | refine Below.alloc ?_ ?_ _ | refine Below.setCell ?_ ?_ _ | refine Below.drew ?_)); all_goals (first | exact Nat.le_refl _ | omega | (simp; done) | (simp; omega)))).later hb2)
  have HB2 := hide (show Below w.heap.size w w2 from (by have := (unhide HP1).2; have := (unhide HB1).size; exact Below.trans (by (repeat' (first | exact Below.refl _ _ | refine Below.alloc ?_ ?_ _ | refine Below.setCell ?_ ?_ _ | refine Below.drew ?_ | refine Below.trans ?_ (Below.mono (unhide HB1) ?_))); all_goals (first | exact Nat.le_refl _ | omega | (simp; done) | (simp; omega))) (hb2.mono (by first | omega | (simp; done) | (simp; omega)))))
  clear hb2
  obtain ⟨p0, p1, p2, p3⟩ := (unhide HP2).c4.1
  have pl := (unhide HP2).2
  go_wp2_with fail
  refine (unhide CA _).mono ?_
  rintro e w3 ⟨rfl, hb3⟩
  clear p0 p1 p2 p3 pl
  have HP3 := hide (((unhide HP2).later (by (repeat' (first | exact Below.refl _ _ | refine Below.alloc ?_ ?_ _ | refine Below.setCell ?_ ?_ _ | refine Below.drew ?_)); all_goals (first | exact Nat.le_refl _ | omega | (simp; done) | (simp; omega)))).later hb3)
  have HV3 : Hid (Held w3 (w2.heap.size) (n4 0 0 0 0)) := hide ((Held.fresh (n4 0 0 0 0) _ (by first | rfl | (simp; done))).later hb3)
  have HB3 := hide (show Below w.heap.size w w3 from (by have := (unhide HP2).2; have := (unhide HB2).size; exact Below.trans (by (repeat' (first | exact Below.refl _ _ | refine Below.alloc ?_ ?_ _ | refine Below.setCell ?_ ?_ _ | refine Below.drew ?_ | refine Below.trans ?_ (Below.mono (unhide HB2) ?_))); all_goals (first | exact Nat.le_refl _ | omega | (simp; done) | (simp; omega))) (hb3.mono (by first | omega | (simp; done) | (simp; omega)))))
  clear hb3
  go_wp2_with fail
  refine (same_same _ _ ((unhide HG).later (by have := (unhide HB3).size; exact (by (repeat' (first | exact Below.refl _ _ | refine Below.alloc ?_ ?_ _ | refine Below.setCell ?_ ?_ _ | refine Below.drew ?_ | refine Below.trans ?_ (Below.mono (unhide HB3) ?_))); all_goals (first | exact Nat.le_refl _ | omega | (simp; done) | (simp; omega)))))).mono ?_
  rintro e w4 ⟨rfl, hb4⟩
  have HP4 := hide (((unhide HP3).later (by (repeat' (first | exact Below.refl _ _ | refine Below.alloc ?_ ?_ _ | refine Below.setCell ?_ ?_ _ | refine Below.drew ?_)); all_goals (first | exact Nat.le_refl _ | omega | (simp; done) | (simp; omega)))).later hb4)
  have HV4 := hide (((unhide HV3).later (by (repeat' (first | exact Below.refl _ _ | refine Below.alloc ?_ ?_ _ | refine Below.setCell ?_ ?_ _ | refine Below.drew ?_)); all_goals (first | exact Nat.le_refl _ | omega | (simp; done) | (simp; omega)))).later hb4)
  have HX4 : Hid (Held w4 (w3.heap.size) (n4 0 0 0 0)) := hide ((Held.fresh (n4 0 0 0 0) _ (by first | rfl | (simp; done))).later hb4)
  have HB4 := hide (show Below w.heap.size w w4 from (by have := (unhide HP3).2; have := (unhide HV3).2; have := (unhide HB3).size; exact Below.trans (by (repeat' (first | exact Below.refl _ _ | refine Below.alloc ?_ ?_ _ | refine Below.setCell ?_ ?_ _ | refine Below.drew ?_ | refine Below.trans ?_ (Below.mono (unhide HB3) ?_))); all_goals (first | exact Nat.le_refl _ | omega | (simp; done) | (simp; omega))) (hb4.mono (by first | omega | (simp; done) | (simp; omega)))))
  clear hb4
  have ne1 : ¬ w2.heap.size = w.heap.size := by have := (unhide HP2).2; omega
  obtain ⟨p0, p1, p2, p3⟩ := (unhide HP4).c4.1
  have pl := (unhide HP4).2
  obtain ⟨v0, v1, v2, v3⟩ := (unhide HV4).c4.1
  obtain ⟨vf0, vf1, vf2, vf3⟩ := (unhide HV4).c4.2
  have vl := (unhide HV4).2
  obtain ⟨x0, x1, x2, x3⟩ := (unhide HX4).c4.1
  have xl := (unhide HX4).2
  go_upto_region 13 with fail
  clear p0 p1 p2 p3 pl v0 v1 v2 v3 vf0 vf1 vf2 vf3 vl x0 x1 x2 x3 xl
  have HP5 := hide (((((unhide HP4).far (c := w2.heap.size) (by have := (unhide HP2).2; have := (unhide HV3).2; have := (unhide HP3).2; have := (unhide HP4).2; have := (unhide HV4).2; have := (unhide HX4).2; have := (unhide HB4).size; omega) 0 (.int .i64 0)).far (c := w2.heap.size) (by have := (unhide HP2).2; have := (unhide HV3).2; have := (unhide HP3).2; have := (unhide HP4).2; have := (unhide HV4).2; have := (unhide HX4).2; have := (unhide HB4).size; omega) 1 (.int .i64 0)).far (c := w2.heap.size) (by have := (unhide HP2).2; have := (unhide HV3).2; have := (unhide HP3).2; have := (unhide HP4).2; have := (unhide HV4).2; have := (unhide HX4).2; have := (unhide HB4).size; omega) 2 (.int .i64 0)).far (c := w2.heap.size) (by have := (unhide HP2).2; have := (unhide HV3).2; have := (unhide HP3).2; have := (unhide HP4).2; have := (unhide HV4).2; have := (unhide HX4).2; have := (unhide HB4).size; omega) 3 (.int .i64 0))
  have HV5 : Hid (Held ((((w4.setCell ⟨w2.heap.size, 0, none⟩ (.int .i64 0)).setCell ⟨w2.heap.size, 1, none⟩ (.int .i64 0)).setCell ⟨w2.heap.size, 2, none⟩ (.int .i64 0)).setCell ⟨w2.heap.size, 3, none⟩ (.int .i64 0)) (w2.heap.size) (n4 0 0 0 0)) := hide (((((unhide HV4).put 0 (.int .i64 0)).put 1 (.int .i64 0)).put 2 (.int .i64 0)).put 3 (.int .i64 0))
  have HX5 := hide (((((unhide HX4).far (c := w2.heap.size) (by have := (unhide HP2).2; have := (unhide HV3).2; have := (unhide HP3).2; have := (unhide HP4).2; have := (unhide HV4).2; have := (unhide HX4).2; have := (unhide HB4).size; omega) 0 (.int .i64 0)).far (c := w2.heap.size) (by have := (unhide HP2).2; have := (unhide HV3).2; have := (unhide HP3).2; have := (unhide HP4).2; have := (unhide HV4).2; have := (unhide HX4).2; have := (unhide HB4).size; omega) 1 (.int .i64 0)).far (c := w2.heap.size) (by have := (unhide HP2).2; have := (unhide HV3).2; have := (unhide HP3).2; have := (unhide HP4).2; have := (unhide HV4).2; have := (unhide HX4).2; have := (unhide HB4).size; omega) 2 (.int .i64 0)).far (c := w2.heap.size) (by have := (unhide HP2).2; have := (unhide HV3).2; have := (unhide HP3).2; have := (unhide HP4).2; have := (unhide HV4).2; have := (unhide HX4).2; have := (unhide HB4).size; omega) 3 (.int .i64 0))
  have HB5 : Hid (Below w.heap.size w ((((w4.setCell ⟨w2.heap.size, 0, none⟩ (.int .i64 0)).setCell ⟨w2.heap.size, 1, none⟩ (.int .i64 0)).setCell ⟨w2.heap.size, 2, none⟩ (.int .i64 0)).setCell ⟨w2.heap.size, 3, none⟩ (.int .i64 0))) := hide (by have := (unhide HP2).2; have := (unhide HV3).2; have := (unhide HP3).2; have := (unhide HP4).2; have := (unhide HV4).2; have := (unhide HX4).2; have := (unhide HB4).size; exact (by (repeat' (first | exact Below.refl _ _ | refine Below.alloc ?_ ?_ _ | refine Below.setCell ?_ ?_ _ | refine Below.drew ?_ | refine Below.trans ?_ (Below.mono (unhide HB4) ?_))); all_goals (first | exact Nat.le_refl _ | omega | (simp; done) | (simp; omega))))
  generalize ((((w4.setCell ⟨w2.heap.size, 0, none⟩ (.int .i64 0)).setCell ⟨w2.heap.size, 1, none⟩ (.int .i64 0)).setCell ⟨w2.heap.size, 2, none⟩ (.int .i64 0)).setCell ⟨w2.heap.size, 3, none⟩ (.int .i64 0)) = w5 at HP5 HV5 HX5 HB5 ⊢
  obtain ⟨p0, p1, p2, p3⟩ := (unhide HP5).c4.1
  have pl := (unhide HP5).2
  go_wp2_with fail
  refine (unhide CT _).mono ?_
  rintro e w6 ⟨rfl, hb6⟩
  clear p0 p1 p2 p3 pl
  have HP6 := hide (((unhide HP5).later (by (repeat' (first | exact Below.refl _ _ | refine Below.alloc ?_ ?_ _ | refine Below.setCell ?_ ?_ _ | refine Below.drew ?_)); all_goals (first | exact Nat.le_refl _ | omega | (simp; done) | (simp; omega)))).later hb6)
  have HV6 := hide (((unhide HV5).later (by (repeat' (first | exact Below.refl _ _ | refine Below.alloc ?_ ?_ _ | refine Below.setCell ?_ ?_ _ | refine Below.drew ?_)); all_goals (first | exact Nat.le_refl _ | omega | (simp; done) | (simp; omega)))).later hb6)
  have HX6 := hide (((unhide HX5).later (by (repeat' (first | exact Below.refl _ _ | refine Below.alloc ?_ ?_ _ | refine Below.setCell ?_ ?_ _ | refine Below.drew ?_)); all_goals (first | exact Nat.le_refl _ | omega | (simp; done) | (simp; omega)))).later hb6)
  have HB6 := hide (show Below w.heap.size w w6 from (by have := (unhide HP2).2; have := (unhide HV3).2; have := (unhide HP3).2; have := (unhide HP5).2; have := (unhide HV5).2; have := (unhide HX5).2; have := (unhide HB5).size; exact Below.trans (by (repeat' (first | exact Below.refl _ _ | refine Below.alloc ?_ ?_ _ | refine Below.setCell ?_ ?_ _ | refine Below.drew ?_ | refine Below.trans ?_ (Below.mono (unhide HB5) ?_))); all_goals (first | exact Nat.le_refl _ | omega | (simp; done) | (simp; omega))) (hb6.mono (by first | omega | (simp; done) | (simp; omega)))))
  clear hb6
  have ne2 : ¬ w3.heap.size = w2.heap.size := by have := (unhide HV3).2; omega
  have ne3 : ¬ w3.heap.size = w.heap.size := by have := (unhide HP3).2; omega
  obtain ⟨x0, x1, x2, x3⟩ := (unhide HX6).c4.1
  obtain ⟨xf0, xf1, xf2, xf3⟩ := (unhide HX6).c4.2
  have xl := (unhide HX6).2
  have k2 := (unhide HP2).2
  have k3 := (unhide HV3).2
  go_wp2_with fail
  refine (same_same _ _ ((unhide HG).later (by have := (unhide HB6).size; exact (by (repeat' (first | exact Below.refl _ _ | refine Below.alloc ?_ ?_ _ | refine Below.setCell ?_ ?_ _ | refine Below.drew ?_ | refine Below.trans ?_ (Below.mono (unhide HB6) ?_))); all_goals (first | exact Nat.le_refl _ | omega | (simp; done) | (simp; omega)))))).mono ?_
  rintro e w7 ⟨rfl, hb7⟩
  clear x0 x1 x2 x3 xf0 xf1 xf2 xf3 xl
  have HV7 := hide ((((((((unhide HV6).later (by (repeat' (first | exact Below.refl _ _ | refine Below.alloc ?_ ?_ _ | refine Below.setCell ?_ ?_ _ | refine Below.drew ?_)); all_goals (first | exact Nat.le_refl _ | omega | (simp; done) | (simp; omega)))).far (c := w3.heap.size) (by have := (unhide HP2).2; have := (unhide HV3).2; have := (unhide HP3).2; have := (unhide HP6).2; have := (unhide HV6).2; have := (unhide HX6).2; have := (unhide HB6).size; omega) 0 (.int .i64 0)).far (c := w3.heap.size) (by have := (unhide HP2).2; have := (unhide HV3).2; have := (unhide HP3).2; have := (unhide HP6).2; have := (unhide HV6).2; have := (unhide HX6).2; have := (unhide HB6).size; omega) 1 (.int .i64 0)).far (c := w3.heap.size) (by have := (unhide HP2).2; have := (unhide HV3).2; have := (unhide HP3).2; have := (unhide HP6).2; have := (unhide HV6).2; have := (unhide HX6).2; have := (unhide HB6).size; omega) 2 (.int .i64 0)).far (c := w3.heap.size) (by have := (unhide HP2).2; have := (unhide HV3).2; have := (unhide HP3).2; have := (unhide HP6).2; have := (unhide HV6).2; have := (unhide HX6).2; have := (unhide HB6).size; omega) 3 (.int .i64 0)).later (by (repeat' (first | exact Below.refl _ _ | refine Below.alloc ?_ ?_ _ | refine Below.setCell ?_ ?_ _ | refine Below.drew ?_)); all_goals (first | exact Nat.le_refl _ | omega | (simp; done) | (simp; omega)))).later hb7)
  have HX7 : Hid (Held w7 (w3.heap.size) (n4 0 0 0 0)) := hide (((((((unhide HX6).put 0 (.int .i64 0)).put 1 (.int .i64 0)).put 2 (.int .i64 0)).put 3 (.int .i64 0)).later (by (repeat' (first | exact Below.refl _ _ | refine Below.alloc ?_ ?_ _ | refine Below.setCell ?_ ?_ _ | refine Below.drew ?_)); all_goals (first | exact Nat.le_refl _ | omega | (simp; done) | (simp; omega)))).later hb7)
  have HB7 := hide (show Below w.heap.size w w7 from (by have := (unhide HP2).2; have := (unhide HV3).2; have := (unhide HP3).2; have := (unhide HP6).2; have := (unhide HV6).2; have := (unhide HX6).2; have := (unhide HB6).size; exact Below.trans (by (repeat' (first | exact Below.refl _ _ | refine Below.alloc ?_ ?_ _ | refine Below.setCell ?_ ?_ _ | refine Below.drew ?_ | refine Below.trans ?_ (Below.mono (unhide HB6) ?_))); all_goals (first | exact Nat.le_refl _ | omega | (simp; done) | (simp; omega))) (hb7.mono (by first | omega | (simp; done) | (simp; omega)))))
  clear hb7
  obtain ⟨v0, v1, v2, v3⟩ := (unhide HV7).c4.1
  have vl := (unhide HV7).2
  obtain ⟨x0, x1, x2, x3⟩ := (unhide HX7).c4.1
  have xl := (unhide HX7).2
  go_wp2
  go_ret
  exact ⟨rfl, (by have := (unhide HP2).2; have := (unhide HV3).2; have := (unhide HP3).2; have := (unhide HP6).2; have := (unhide HV6).2; have := (unhide HX6).2; have := (unhide HB7).size; exact (by (repeat' (first | exact Below.refl _ _ | refine Below.alloc ?_ ?_ _ | refine Below.setCell ?_ ?_ _ | refine Below.drew ?_ | refine Below.trans ?_ (Below.mono (unhide HB7) ?_))); all_goals (first | exact Nat.le_refl _ | omega | (simp; done) | (simp; omega))))⟩

set_option maxHeartbeats 6400000 in
set_option maxRecDepth 8000 in
theorem walk_low (s r h t x n f H : Int) (w : World) (HG : Hid (ErrType w)) (hn : n < 0)
    (CB : Hid (∀ w : World, Calls Tryd.prog 9 #[.agg #[.int .i64 s, .int .i64 r, .int .i64 h, .int .i64 t]] w fun e w' => e = .returned (.int .i64 f) ∧ Below w.heap.size w w'))
    (CC : Hid (∀ w : World, Calls Tryd.prog 8 #[.agg #[.int .i64 s, .int .i64 r, .int .i64 h, .int .i64 t]] w fun e w' => e = .returned (errV f) ∧ Below w.heap.size w w'))
    (CR : Hid (∀ w : World, Calls Tryd.prog 10 #[.agg #[.int .i64 s, .int .i64 r, .int .i64 h, .int .i64 t], .int .i64 x] w fun e w' => e = .returned (.tuple #[.agg #[.int .i64 s, .int .i64 r, .int .i64 H, .int .i64 x], .int .i64 0]) ∧ Below w.heap.size w w'))
    (CA : Hid (∀ w : World, Calls Tryd.prog 11 #[.agg #[.int .i64 s, .int .i64 r, .int .i64 h, .int .i64 t], .int .i64 x] w fun e w' => e = .returned (.tuple #[.agg #[.int .i64 s, .int .i64 r, .int .i64 H, .int .i64 x], errV 0]) ∧ Below w.heap.size w w'))
    (CT : Hid (∀ w : World, Calls Tryd.prog 12 #[.agg #[.int .i64 s, .int .i64 r, .int .i64 h, .int .i64 t], .int .i64 x, .int .i64 n] w fun e w' => e = .returned (.tuple #[.agg #[.int .i64 0, .int .i64 0, .int .i64 0, .int .i64 0], errV 1]) ∧ Below w.heap.size w w')) :
    Calls Tryd.prog 4 #[.agg #[.int .i64 s, .int .i64 r, .int .i64 h, .int .i64 t], .int .i64 x, .int .i64 n] w fun e w' => e = .returned (.bool true) ∧ Below w.heap.size w w' := by
  go_enter Tryd.func4, Tryd.ntmps4
  go_wp2
  have HP0 : Hid (Held (w.alloc (.cells #[.int .i64 s, .int .i64 r, .int .i64 h, .int .i64 t] 32)) w.heap.size (n4 s r h t)) := hide (Held.fresh (w := w) (n4 s r h t) 32 rfl)
  have HB0 : Hid (Below w.heap.size w (w.alloc (.cells #[.int .i64 s, .int .i64 r, .int .i64 h, .int .i64 t] 32))) := hide (by (repeat' (first | exact Below.refl _ _ | refine Below.alloc ?_ ?_ _ | refine Below.setCell ?_ ?_ _ | refine Below.drew ?_)); all_goals (first | exact Nat.le_refl _ | omega | (simp; done) | (simp; omega)))
  generalize (w.alloc (.cells #[.int .i64 s, .int .i64 r, .int .i64 h, .int .i64 t] 32)) = w0 at HP0 HB0 ⊢
  obtain ⟨p0, p1, p2, p3⟩ := (unhide HP0).c4.1
  have pl := (unhide HP0).2
  go_region_held3 (fun w' => Hid (Below w0.heap.size w0 w') ∧ w'.cell? ⟨w.heap.size, 0, none⟩ = some (.int .i64 s) ∧ w'.cell? ⟨w.heap.size, 1, none⟩ = some (.int .i64 r) ∧ w'.cell? ⟨w.heap.size, 2, none⟩ = some (.int .i64 h) ∧ w'.cell? ⟨w.heap.size, 3, none⟩ = some (.int .i64 t)) (first | exact reg_step (by assumption) hb | exact ⟨hide ((Below.refl _ _).drew), by rw [World.cell?_drew]; exact p0, by rw [World.cell?_drew]; exact p1, by rw [World.cell?_drew]; exact p2, by rw [World.cell?_drew]; exact p3⟩)
    (first | (go_at_call 8; refine (unhide CC _).mono ?_; rintro e w' ⟨rfl, hb⟩) | (go_at_call 9; refine (unhide CB _).mono ?_; rintro e w' ⟨rfl, hb⟩) | (go_at_call 7; refine (same_same _ _ ((unhide HG).later (Below.trans (unhide HB0) ((unhide (And.left ‹Hid (Below w0.heap.size w0 _) ∧ _›)).mono (unhide HB0).size)))).mono ?_; rintro e w' ⟨rfl, hb⟩))
  have HS := And.left ‹Hid (Below w0.heap.size w0 _) ∧ _›
  have HP1 := hide ((unhide HP0).later (unhide HS))
  have HB1 := hide (bel3 (unhide HB0) (Below.refl _ _) (unhide HS))
  clear HS hb p0 p1 p2 p3 pl
  generalize w' = w1 at HP1 HB1 ⊢
  clear HP0 HB0
  obtain ⟨p0, p1, p2, p3⟩ := (unhide HP1).c4.1
  have pl := (unhide HP1).2
  go_wp2_with fail
  refine (unhide CR _).mono ?_
  rintro e w2 ⟨rfl, hb2⟩
  clear p0 p1 p2 p3 pl
  have HP2 := hide (((unhide HP1).later (by (repeat' (first | exact Below.refl _ _ | refine Below.alloc ?_ ?_ _ | refine Below.setCell ?_ ?_ _ | refine Below.drew ?_)); all_goals (first | exact Nat.le_refl _ | omega | (simp; done) | (simp; omega)))).later hb2)
  have HB2 := hide (show Below w.heap.size w w2 from (by have := (unhide HP1).2; have := (unhide HB1).size; exact Below.trans (by (repeat' (first | exact Below.refl _ _ | refine Below.alloc ?_ ?_ _ | refine Below.setCell ?_ ?_ _ | refine Below.drew ?_ | refine Below.trans ?_ (Below.mono (unhide HB1) ?_))); all_goals (first | exact Nat.le_refl _ | omega | (simp; done) | (simp; omega))) (hb2.mono (by first | omega | (simp; done) | (simp; omega)))))
  clear hb2
  obtain ⟨p0, p1, p2, p3⟩ := (unhide HP2).c4.1
  have pl := (unhide HP2).2
  go_wp2_with fail
  refine (unhide CA _).mono ?_
  rintro e w3 ⟨rfl, hb3⟩
  clear p0 p1 p2 p3 pl
  have HP3 := hide (((unhide HP2).later (by (repeat' (first | exact Below.refl _ _ | refine Below.alloc ?_ ?_ _ | refine Below.setCell ?_ ?_ _ | refine Below.drew ?_)); all_goals (first | exact Nat.le_refl _ | omega | (simp; done) | (simp; omega)))).later hb3)
  have HV3 : Hid (Held w3 (w2.heap.size) (n4 s r H x)) := hide ((Held.fresh (n4 s r H x) _ (by first | rfl | (simp; done))).later hb3)
  have HB3 := hide (show Below w.heap.size w w3 from (by have := (unhide HP2).2; have := (unhide HB2).size; exact Below.trans (by (repeat' (first | exact Below.refl _ _ | refine Below.alloc ?_ ?_ _ | refine Below.setCell ?_ ?_ _ | refine Below.drew ?_ | refine Below.trans ?_ (Below.mono (unhide HB2) ?_))); all_goals (first | exact Nat.le_refl _ | omega | (simp; done) | (simp; omega))) (hb3.mono (by first | omega | (simp; done) | (simp; omega)))))
  clear hb3
  go_wp2_with fail
  refine (same_same _ _ ((unhide HG).later (by have := (unhide HB3).size; exact (by (repeat' (first | exact Below.refl _ _ | refine Below.alloc ?_ ?_ _ | refine Below.setCell ?_ ?_ _ | refine Below.drew ?_ | refine Below.trans ?_ (Below.mono (unhide HB3) ?_))); all_goals (first | exact Nat.le_refl _ | omega | (simp; done) | (simp; omega)))))).mono ?_
  rintro e w4 ⟨rfl, hb4⟩
  have HP4 := hide (((unhide HP3).later (by (repeat' (first | exact Below.refl _ _ | refine Below.alloc ?_ ?_ _ | refine Below.setCell ?_ ?_ _ | refine Below.drew ?_)); all_goals (first | exact Nat.le_refl _ | omega | (simp; done) | (simp; omega)))).later hb4)
  have HV4 := hide (((unhide HV3).later (by (repeat' (first | exact Below.refl _ _ | refine Below.alloc ?_ ?_ _ | refine Below.setCell ?_ ?_ _ | refine Below.drew ?_)); all_goals (first | exact Nat.le_refl _ | omega | (simp; done) | (simp; omega)))).later hb4)
  have HX4 : Hid (Held w4 (w3.heap.size) (n4 s r H x)) := hide ((Held.fresh (n4 s r H x) _ (by first | rfl | (simp; done))).later hb4)
  have HB4 := hide (show Below w.heap.size w w4 from (by have := (unhide HP3).2; have := (unhide HV3).2; have := (unhide HB3).size; exact Below.trans (by (repeat' (first | exact Below.refl _ _ | refine Below.alloc ?_ ?_ _ | refine Below.setCell ?_ ?_ _ | refine Below.drew ?_ | refine Below.trans ?_ (Below.mono (unhide HB3) ?_))); all_goals (first | exact Nat.le_refl _ | omega | (simp; done) | (simp; omega))) (hb4.mono (by first | omega | (simp; done) | (simp; omega)))))
  clear hb4
  have ne1 : ¬ w2.heap.size = w.heap.size := by have := (unhide HP2).2; omega
  obtain ⟨p0, p1, p2, p3⟩ := (unhide HP4).c4.1
  have pl := (unhide HP4).2
  obtain ⟨v0, v1, v2, v3⟩ := (unhide HV4).c4.1
  obtain ⟨vf0, vf1, vf2, vf3⟩ := (unhide HV4).c4.2
  have vl := (unhide HV4).2
  obtain ⟨x0, x1, x2, x3⟩ := (unhide HX4).c4.1
  have xl := (unhide HX4).2
  go_upto_region 13 with fail
  clear p0 p1 p2 p3 pl v0 v1 v2 v3 vf0 vf1 vf2 vf3 vl x0 x1 x2 x3 xl
  have HP5 := hide (((((unhide HP4).far (c := w2.heap.size) (by have := (unhide HP2).2; have := (unhide HV3).2; have := (unhide HP3).2; have := (unhide HP4).2; have := (unhide HV4).2; have := (unhide HX4).2; have := (unhide HB4).size; omega) 0 (.int .i64 0)).far (c := w2.heap.size) (by have := (unhide HP2).2; have := (unhide HV3).2; have := (unhide HP3).2; have := (unhide HP4).2; have := (unhide HV4).2; have := (unhide HX4).2; have := (unhide HB4).size; omega) 1 (.int .i64 0)).far (c := w2.heap.size) (by have := (unhide HP2).2; have := (unhide HV3).2; have := (unhide HP3).2; have := (unhide HP4).2; have := (unhide HV4).2; have := (unhide HX4).2; have := (unhide HB4).size; omega) 2 (.int .i64 0)).far (c := w2.heap.size) (by have := (unhide HP2).2; have := (unhide HV3).2; have := (unhide HP3).2; have := (unhide HP4).2; have := (unhide HV4).2; have := (unhide HX4).2; have := (unhide HB4).size; omega) 3 (.int .i64 0))
  have HV5 : Hid (Held ((((w4.setCell ⟨w2.heap.size, 0, none⟩ (.int .i64 0)).setCell ⟨w2.heap.size, 1, none⟩ (.int .i64 0)).setCell ⟨w2.heap.size, 2, none⟩ (.int .i64 0)).setCell ⟨w2.heap.size, 3, none⟩ (.int .i64 0)) (w2.heap.size) (n4 0 0 0 0)) := hide (((((unhide HV4).put 0 (.int .i64 0)).put 1 (.int .i64 0)).put 2 (.int .i64 0)).put 3 (.int .i64 0))
  have HX5 := hide (((((unhide HX4).far (c := w2.heap.size) (by have := (unhide HP2).2; have := (unhide HV3).2; have := (unhide HP3).2; have := (unhide HP4).2; have := (unhide HV4).2; have := (unhide HX4).2; have := (unhide HB4).size; omega) 0 (.int .i64 0)).far (c := w2.heap.size) (by have := (unhide HP2).2; have := (unhide HV3).2; have := (unhide HP3).2; have := (unhide HP4).2; have := (unhide HV4).2; have := (unhide HX4).2; have := (unhide HB4).size; omega) 1 (.int .i64 0)).far (c := w2.heap.size) (by have := (unhide HP2).2; have := (unhide HV3).2; have := (unhide HP3).2; have := (unhide HP4).2; have := (unhide HV4).2; have := (unhide HX4).2; have := (unhide HB4).size; omega) 2 (.int .i64 0)).far (c := w2.heap.size) (by have := (unhide HP2).2; have := (unhide HV3).2; have := (unhide HP3).2; have := (unhide HP4).2; have := (unhide HV4).2; have := (unhide HX4).2; have := (unhide HB4).size; omega) 3 (.int .i64 0))
  have HB5 : Hid (Below w.heap.size w ((((w4.setCell ⟨w2.heap.size, 0, none⟩ (.int .i64 0)).setCell ⟨w2.heap.size, 1, none⟩ (.int .i64 0)).setCell ⟨w2.heap.size, 2, none⟩ (.int .i64 0)).setCell ⟨w2.heap.size, 3, none⟩ (.int .i64 0))) := hide (by have := (unhide HP2).2; have := (unhide HV3).2; have := (unhide HP3).2; have := (unhide HP4).2; have := (unhide HV4).2; have := (unhide HX4).2; have := (unhide HB4).size; exact (by (repeat' (first | exact Below.refl _ _ | refine Below.alloc ?_ ?_ _ | refine Below.setCell ?_ ?_ _ | refine Below.drew ?_ | refine Below.trans ?_ (Below.mono (unhide HB4) ?_))); all_goals (first | exact Nat.le_refl _ | omega | (simp; done) | (simp; omega))))
  generalize ((((w4.setCell ⟨w2.heap.size, 0, none⟩ (.int .i64 0)).setCell ⟨w2.heap.size, 1, none⟩ (.int .i64 0)).setCell ⟨w2.heap.size, 2, none⟩ (.int .i64 0)).setCell ⟨w2.heap.size, 3, none⟩ (.int .i64 0)) = w5 at HP5 HV5 HX5 HB5 ⊢
  obtain ⟨p0, p1, p2, p3⟩ := (unhide HP5).c4.1
  have pl := (unhide HP5).2
  go_wp2_with fail
  refine (unhide CT _).mono ?_
  rintro e w6 ⟨rfl, hb6⟩
  clear p0 p1 p2 p3 pl
  have HP6 := hide (((unhide HP5).later (by (repeat' (first | exact Below.refl _ _ | refine Below.alloc ?_ ?_ _ | refine Below.setCell ?_ ?_ _ | refine Below.drew ?_)); all_goals (first | exact Nat.le_refl _ | omega | (simp; done) | (simp; omega)))).later hb6)
  have HV6 := hide (((unhide HV5).later (by (repeat' (first | exact Below.refl _ _ | refine Below.alloc ?_ ?_ _ | refine Below.setCell ?_ ?_ _ | refine Below.drew ?_)); all_goals (first | exact Nat.le_refl _ | omega | (simp; done) | (simp; omega)))).later hb6)
  have HX6 := hide (((unhide HX5).later (by (repeat' (first | exact Below.refl _ _ | refine Below.alloc ?_ ?_ _ | refine Below.setCell ?_ ?_ _ | refine Below.drew ?_)); all_goals (first | exact Nat.le_refl _ | omega | (simp; done) | (simp; omega)))).later hb6)
  have HB6 := hide (show Below w.heap.size w w6 from (by have := (unhide HP2).2; have := (unhide HV3).2; have := (unhide HP3).2; have := (unhide HP5).2; have := (unhide HV5).2; have := (unhide HX5).2; have := (unhide HB5).size; exact Below.trans (by (repeat' (first | exact Below.refl _ _ | refine Below.alloc ?_ ?_ _ | refine Below.setCell ?_ ?_ _ | refine Below.drew ?_ | refine Below.trans ?_ (Below.mono (unhide HB5) ?_))); all_goals (first | exact Nat.le_refl _ | omega | (simp; done) | (simp; omega))) (hb6.mono (by first | omega | (simp; done) | (simp; omega)))))
  clear hb6
  have ne2 : ¬ w3.heap.size = w2.heap.size := by have := (unhide HV3).2; omega
  have ne3 : ¬ w3.heap.size = w.heap.size := by have := (unhide HP3).2; omega
  obtain ⟨x0, x1, x2, x3⟩ := (unhide HX6).c4.1
  obtain ⟨xf0, xf1, xf2, xf3⟩ := (unhide HX6).c4.2
  have xl := (unhide HX6).2
  have k2 := (unhide HP2).2
  have k3 := (unhide HV3).2
  go_wp2_with fail
  refine (same_same _ _ ((unhide HG).later (by have := (unhide HB6).size; exact (by (repeat' (first | exact Below.refl _ _ | refine Below.alloc ?_ ?_ _ | refine Below.setCell ?_ ?_ _ | refine Below.drew ?_ | refine Below.trans ?_ (Below.mono (unhide HB6) ?_))); all_goals (first | exact Nat.le_refl _ | omega | (simp; done) | (simp; omega)))))).mono ?_
  rintro e w7 ⟨rfl, hb7⟩
  clear x0 x1 x2 x3 xf0 xf1 xf2 xf3 xl
  have HV7 := hide ((((((((unhide HV6).later (by (repeat' (first | exact Below.refl _ _ | refine Below.alloc ?_ ?_ _ | refine Below.setCell ?_ ?_ _ | refine Below.drew ?_)); all_goals (first | exact Nat.le_refl _ | omega | (simp; done) | (simp; omega)))).far (c := w3.heap.size) (by have := (unhide HP2).2; have := (unhide HV3).2; have := (unhide HP3).2; have := (unhide HP6).2; have := (unhide HV6).2; have := (unhide HX6).2; have := (unhide HB6).size; omega) 0 (.int .i64 0)).far (c := w3.heap.size) (by have := (unhide HP2).2; have := (unhide HV3).2; have := (unhide HP3).2; have := (unhide HP6).2; have := (unhide HV6).2; have := (unhide HX6).2; have := (unhide HB6).size; omega) 1 (.int .i64 0)).far (c := w3.heap.size) (by have := (unhide HP2).2; have := (unhide HV3).2; have := (unhide HP3).2; have := (unhide HP6).2; have := (unhide HV6).2; have := (unhide HX6).2; have := (unhide HB6).size; omega) 2 (.int .i64 0)).far (c := w3.heap.size) (by have := (unhide HP2).2; have := (unhide HV3).2; have := (unhide HP3).2; have := (unhide HP6).2; have := (unhide HV6).2; have := (unhide HX6).2; have := (unhide HB6).size; omega) 3 (.int .i64 0)).later (by (repeat' (first | exact Below.refl _ _ | refine Below.alloc ?_ ?_ _ | refine Below.setCell ?_ ?_ _ | refine Below.drew ?_)); all_goals (first | exact Nat.le_refl _ | omega | (simp; done) | (simp; omega)))).later hb7)
  have HX7 : Hid (Held w7 (w3.heap.size) (n4 0 0 0 0)) := hide (((((((unhide HX6).put 0 (.int .i64 0)).put 1 (.int .i64 0)).put 2 (.int .i64 0)).put 3 (.int .i64 0)).later (by (repeat' (first | exact Below.refl _ _ | refine Below.alloc ?_ ?_ _ | refine Below.setCell ?_ ?_ _ | refine Below.drew ?_)); all_goals (first | exact Nat.le_refl _ | omega | (simp; done) | (simp; omega)))).later hb7)
  have HB7 := hide (show Below w.heap.size w w7 from (by have := (unhide HP2).2; have := (unhide HV3).2; have := (unhide HP3).2; have := (unhide HP6).2; have := (unhide HV6).2; have := (unhide HX6).2; have := (unhide HB6).size; exact Below.trans (by (repeat' (first | exact Below.refl _ _ | refine Below.alloc ?_ ?_ _ | refine Below.setCell ?_ ?_ _ | refine Below.drew ?_ | refine Below.trans ?_ (Below.mono (unhide HB6) ?_))); all_goals (first | exact Nat.le_refl _ | omega | (simp; done) | (simp; omega))) (hb7.mono (by first | omega | (simp; done) | (simp; omega)))))
  clear hb7
  obtain ⟨v0, v1, v2, v3⟩ := (unhide HV7).c4.1
  have vl := (unhide HV7).2
  obtain ⟨x0, x1, x2, x3⟩ := (unhide HX7).c4.1
  have xl := (unhide HX7).2
  go_wp2
  go_ret
  exact ⟨rfl, (by have := (unhide HP2).2; have := (unhide HV3).2; have := (unhide HP3).2; have := (unhide HP6).2; have := (unhide HV6).2; have := (unhide HX6).2; have := (unhide HB7).size; exact (by (repeat' (first | exact Below.refl _ _ | refine Below.alloc ?_ ?_ _ | refine Below.setCell ?_ ?_ _ | refine Below.drew ?_ | refine Below.trans ?_ (Below.mono (unhide HB7) ?_))); all_goals (first | exact Nat.le_refl _ | omega | (simp; done) | (simp; omega))))⟩

set_option maxHeartbeats 6400000 in
set_option maxRecDepth 8000 in
theorem walk_high (s r h t x n f H : Int) (w : World) (HG : Hid (ErrType w)) (hn0 : 0 ≤ n) (hn : 100 < n)
    (CB : Hid (∀ w : World, Calls Tryd.prog 9 #[.agg #[.int .i64 s, .int .i64 r, .int .i64 h, .int .i64 t]] w fun e w' => e = .returned (.int .i64 f) ∧ Below w.heap.size w w'))
    (CC : Hid (∀ w : World, Calls Tryd.prog 8 #[.agg #[.int .i64 s, .int .i64 r, .int .i64 h, .int .i64 t]] w fun e w' => e = .returned (errV f) ∧ Below w.heap.size w w'))
    (CR : Hid (∀ w : World, Calls Tryd.prog 10 #[.agg #[.int .i64 s, .int .i64 r, .int .i64 h, .int .i64 t], .int .i64 x] w fun e w' => e = .returned (.tuple #[.agg #[.int .i64 s, .int .i64 r, .int .i64 H, .int .i64 x], .int .i64 0]) ∧ Below w.heap.size w w'))
    (CA : Hid (∀ w : World, Calls Tryd.prog 11 #[.agg #[.int .i64 s, .int .i64 r, .int .i64 h, .int .i64 t], .int .i64 x] w fun e w' => e = .returned (.tuple #[.agg #[.int .i64 s, .int .i64 r, .int .i64 H, .int .i64 x], errV 0]) ∧ Below w.heap.size w w'))
    (CT : Hid (∀ w : World, Calls Tryd.prog 12 #[.agg #[.int .i64 s, .int .i64 r, .int .i64 h, .int .i64 t], .int .i64 x, .int .i64 n] w fun e w' => e = .returned (.tuple #[.agg #[.int .i64 0, .int .i64 0, .int .i64 0, .int .i64 0], errV 1]) ∧ Below w.heap.size w w')) :
    Calls Tryd.prog 4 #[.agg #[.int .i64 s, .int .i64 r, .int .i64 h, .int .i64 t], .int .i64 x, .int .i64 n] w fun e w' => e = .returned (.bool true) ∧ Below w.heap.size w w' := by
  go_enter Tryd.func4, Tryd.ntmps4
  go_wp2
  have HP0 : Hid (Held (w.alloc (.cells #[.int .i64 s, .int .i64 r, .int .i64 h, .int .i64 t] 32)) w.heap.size (n4 s r h t)) := hide (Held.fresh (w := w) (n4 s r h t) 32 rfl)
  have HB0 : Hid (Below w.heap.size w (w.alloc (.cells #[.int .i64 s, .int .i64 r, .int .i64 h, .int .i64 t] 32))) := hide (by (repeat' (first | exact Below.refl _ _ | refine Below.alloc ?_ ?_ _ | refine Below.setCell ?_ ?_ _ | refine Below.drew ?_)); all_goals (first | exact Nat.le_refl _ | omega | (simp; done) | (simp; omega)))
  generalize (w.alloc (.cells #[.int .i64 s, .int .i64 r, .int .i64 h, .int .i64 t] 32)) = w0 at HP0 HB0 ⊢
  obtain ⟨p0, p1, p2, p3⟩ := (unhide HP0).c4.1
  have pl := (unhide HP0).2
  go_region_held3 (fun w' => Hid (Below w0.heap.size w0 w') ∧ w'.cell? ⟨w.heap.size, 0, none⟩ = some (.int .i64 s) ∧ w'.cell? ⟨w.heap.size, 1, none⟩ = some (.int .i64 r) ∧ w'.cell? ⟨w.heap.size, 2, none⟩ = some (.int .i64 h) ∧ w'.cell? ⟨w.heap.size, 3, none⟩ = some (.int .i64 t)) (first | exact reg_step (by assumption) hb | exact ⟨hide ((Below.refl _ _).drew), by rw [World.cell?_drew]; exact p0, by rw [World.cell?_drew]; exact p1, by rw [World.cell?_drew]; exact p2, by rw [World.cell?_drew]; exact p3⟩)
    (first | (go_at_call 8; refine (unhide CC _).mono ?_; rintro e w' ⟨rfl, hb⟩) | (go_at_call 9; refine (unhide CB _).mono ?_; rintro e w' ⟨rfl, hb⟩) | (go_at_call 7; refine (same_same _ _ ((unhide HG).later (Below.trans (unhide HB0) ((unhide (And.left ‹Hid (Below w0.heap.size w0 _) ∧ _›)).mono (unhide HB0).size)))).mono ?_; rintro e w' ⟨rfl, hb⟩))
  have HS := And.left ‹Hid (Below w0.heap.size w0 _) ∧ _›
  have HP1 := hide ((unhide HP0).later (unhide HS))
  have HB1 := hide (bel3 (unhide HB0) (Below.refl _ _) (unhide HS))
  clear HS hb p0 p1 p2 p3 pl
  generalize w' = w1 at HP1 HB1 ⊢
  clear HP0 HB0
  obtain ⟨p0, p1, p2, p3⟩ := (unhide HP1).c4.1
  have pl := (unhide HP1).2
  go_wp2_with fail
  refine (unhide CR _).mono ?_
  rintro e w2 ⟨rfl, hb2⟩
  clear p0 p1 p2 p3 pl
  have HP2 := hide (((unhide HP1).later (by (repeat' (first | exact Below.refl _ _ | refine Below.alloc ?_ ?_ _ | refine Below.setCell ?_ ?_ _ | refine Below.drew ?_)); all_goals (first | exact Nat.le_refl _ | omega | (simp; done) | (simp; omega)))).later hb2)
  have HB2 := hide (show Below w.heap.size w w2 from (by have := (unhide HP1).2; have := (unhide HB1).size; exact Below.trans (by (repeat' (first | exact Below.refl _ _ | refine Below.alloc ?_ ?_ _ | refine Below.setCell ?_ ?_ _ | refine Below.drew ?_ | refine Below.trans ?_ (Below.mono (unhide HB1) ?_))); all_goals (first | exact Nat.le_refl _ | omega | (simp; done) | (simp; omega))) (hb2.mono (by first | omega | (simp; done) | (simp; omega)))))
  clear hb2
  obtain ⟨p0, p1, p2, p3⟩ := (unhide HP2).c4.1
  have pl := (unhide HP2).2
  go_wp2_with fail
  refine (unhide CA _).mono ?_
  rintro e w3 ⟨rfl, hb3⟩
  clear p0 p1 p2 p3 pl
  have HP3 := hide (((unhide HP2).later (by (repeat' (first | exact Below.refl _ _ | refine Below.alloc ?_ ?_ _ | refine Below.setCell ?_ ?_ _ | refine Below.drew ?_)); all_goals (first | exact Nat.le_refl _ | omega | (simp; done) | (simp; omega)))).later hb3)
  have HV3 : Hid (Held w3 (w2.heap.size) (n4 s r H x)) := hide ((Held.fresh (n4 s r H x) _ (by first | rfl | (simp; done))).later hb3)
  have HB3 := hide (show Below w.heap.size w w3 from (by have := (unhide HP2).2; have := (unhide HB2).size; exact Below.trans (by (repeat' (first | exact Below.refl _ _ | refine Below.alloc ?_ ?_ _ | refine Below.setCell ?_ ?_ _ | refine Below.drew ?_ | refine Below.trans ?_ (Below.mono (unhide HB2) ?_))); all_goals (first | exact Nat.le_refl _ | omega | (simp; done) | (simp; omega))) (hb3.mono (by first | omega | (simp; done) | (simp; omega)))))
  clear hb3
  go_wp2_with fail
  refine (same_same _ _ ((unhide HG).later (by have := (unhide HB3).size; exact (by (repeat' (first | exact Below.refl _ _ | refine Below.alloc ?_ ?_ _ | refine Below.setCell ?_ ?_ _ | refine Below.drew ?_ | refine Below.trans ?_ (Below.mono (unhide HB3) ?_))); all_goals (first | exact Nat.le_refl _ | omega | (simp; done) | (simp; omega)))))).mono ?_
  rintro e w4 ⟨rfl, hb4⟩
  have HP4 := hide (((unhide HP3).later (by (repeat' (first | exact Below.refl _ _ | refine Below.alloc ?_ ?_ _ | refine Below.setCell ?_ ?_ _ | refine Below.drew ?_)); all_goals (first | exact Nat.le_refl _ | omega | (simp; done) | (simp; omega)))).later hb4)
  have HV4 := hide (((unhide HV3).later (by (repeat' (first | exact Below.refl _ _ | refine Below.alloc ?_ ?_ _ | refine Below.setCell ?_ ?_ _ | refine Below.drew ?_)); all_goals (first | exact Nat.le_refl _ | omega | (simp; done) | (simp; omega)))).later hb4)
  have HX4 : Hid (Held w4 (w3.heap.size) (n4 s r H x)) := hide ((Held.fresh (n4 s r H x) _ (by first | rfl | (simp; done))).later hb4)
  have HB4 := hide (show Below w.heap.size w w4 from (by have := (unhide HP3).2; have := (unhide HV3).2; have := (unhide HB3).size; exact Below.trans (by (repeat' (first | exact Below.refl _ _ | refine Below.alloc ?_ ?_ _ | refine Below.setCell ?_ ?_ _ | refine Below.drew ?_ | refine Below.trans ?_ (Below.mono (unhide HB3) ?_))); all_goals (first | exact Nat.le_refl _ | omega | (simp; done) | (simp; omega))) (hb4.mono (by first | omega | (simp; done) | (simp; omega)))))
  clear hb4
  have ne1 : ¬ w2.heap.size = w.heap.size := by have := (unhide HP2).2; omega
  obtain ⟨p0, p1, p2, p3⟩ := (unhide HP4).c4.1
  have pl := (unhide HP4).2
  obtain ⟨v0, v1, v2, v3⟩ := (unhide HV4).c4.1
  obtain ⟨vf0, vf1, vf2, vf3⟩ := (unhide HV4).c4.2
  have vl := (unhide HV4).2
  obtain ⟨x0, x1, x2, x3⟩ := (unhide HX4).c4.1
  have xl := (unhide HX4).2
  go_upto_region 13 with fail
  clear p0 p1 p2 p3 pl v0 v1 v2 v3 vf0 vf1 vf2 vf3 vl x0 x1 x2 x3 xl
  have HP5 := hide (((((unhide HP4).far (c := w2.heap.size) (by have := (unhide HP2).2; have := (unhide HV3).2; have := (unhide HP3).2; have := (unhide HP4).2; have := (unhide HV4).2; have := (unhide HX4).2; have := (unhide HB4).size; omega) 0 (.int .i64 0)).far (c := w2.heap.size) (by have := (unhide HP2).2; have := (unhide HV3).2; have := (unhide HP3).2; have := (unhide HP4).2; have := (unhide HV4).2; have := (unhide HX4).2; have := (unhide HB4).size; omega) 1 (.int .i64 0)).far (c := w2.heap.size) (by have := (unhide HP2).2; have := (unhide HV3).2; have := (unhide HP3).2; have := (unhide HP4).2; have := (unhide HV4).2; have := (unhide HX4).2; have := (unhide HB4).size; omega) 2 (.int .i64 0)).far (c := w2.heap.size) (by have := (unhide HP2).2; have := (unhide HV3).2; have := (unhide HP3).2; have := (unhide HP4).2; have := (unhide HV4).2; have := (unhide HX4).2; have := (unhide HB4).size; omega) 3 (.int .i64 0))
  have HV5 : Hid (Held ((((w4.setCell ⟨w2.heap.size, 0, none⟩ (.int .i64 0)).setCell ⟨w2.heap.size, 1, none⟩ (.int .i64 0)).setCell ⟨w2.heap.size, 2, none⟩ (.int .i64 0)).setCell ⟨w2.heap.size, 3, none⟩ (.int .i64 0)) (w2.heap.size) (n4 0 0 0 0)) := hide (((((unhide HV4).put 0 (.int .i64 0)).put 1 (.int .i64 0)).put 2 (.int .i64 0)).put 3 (.int .i64 0))
  have HX5 := hide (((((unhide HX4).far (c := w2.heap.size) (by have := (unhide HP2).2; have := (unhide HV3).2; have := (unhide HP3).2; have := (unhide HP4).2; have := (unhide HV4).2; have := (unhide HX4).2; have := (unhide HB4).size; omega) 0 (.int .i64 0)).far (c := w2.heap.size) (by have := (unhide HP2).2; have := (unhide HV3).2; have := (unhide HP3).2; have := (unhide HP4).2; have := (unhide HV4).2; have := (unhide HX4).2; have := (unhide HB4).size; omega) 1 (.int .i64 0)).far (c := w2.heap.size) (by have := (unhide HP2).2; have := (unhide HV3).2; have := (unhide HP3).2; have := (unhide HP4).2; have := (unhide HV4).2; have := (unhide HX4).2; have := (unhide HB4).size; omega) 2 (.int .i64 0)).far (c := w2.heap.size) (by have := (unhide HP2).2; have := (unhide HV3).2; have := (unhide HP3).2; have := (unhide HP4).2; have := (unhide HV4).2; have := (unhide HX4).2; have := (unhide HB4).size; omega) 3 (.int .i64 0))
  have HB5 : Hid (Below w.heap.size w ((((w4.setCell ⟨w2.heap.size, 0, none⟩ (.int .i64 0)).setCell ⟨w2.heap.size, 1, none⟩ (.int .i64 0)).setCell ⟨w2.heap.size, 2, none⟩ (.int .i64 0)).setCell ⟨w2.heap.size, 3, none⟩ (.int .i64 0))) := hide (by have := (unhide HP2).2; have := (unhide HV3).2; have := (unhide HP3).2; have := (unhide HP4).2; have := (unhide HV4).2; have := (unhide HX4).2; have := (unhide HB4).size; exact (by (repeat' (first | exact Below.refl _ _ | refine Below.alloc ?_ ?_ _ | refine Below.setCell ?_ ?_ _ | refine Below.drew ?_ | refine Below.trans ?_ (Below.mono (unhide HB4) ?_))); all_goals (first | exact Nat.le_refl _ | omega | (simp; done) | (simp; omega))))
  generalize ((((w4.setCell ⟨w2.heap.size, 0, none⟩ (.int .i64 0)).setCell ⟨w2.heap.size, 1, none⟩ (.int .i64 0)).setCell ⟨w2.heap.size, 2, none⟩ (.int .i64 0)).setCell ⟨w2.heap.size, 3, none⟩ (.int .i64 0)) = w5 at HP5 HV5 HX5 HB5 ⊢
  obtain ⟨p0, p1, p2, p3⟩ := (unhide HP5).c4.1
  have pl := (unhide HP5).2
  go_wp2_with fail
  refine (unhide CT _).mono ?_
  rintro e w6 ⟨rfl, hb6⟩
  clear p0 p1 p2 p3 pl
  have HP6 := hide (((unhide HP5).later (by (repeat' (first | exact Below.refl _ _ | refine Below.alloc ?_ ?_ _ | refine Below.setCell ?_ ?_ _ | refine Below.drew ?_)); all_goals (first | exact Nat.le_refl _ | omega | (simp; done) | (simp; omega)))).later hb6)
  have HV6 := hide (((unhide HV5).later (by (repeat' (first | exact Below.refl _ _ | refine Below.alloc ?_ ?_ _ | refine Below.setCell ?_ ?_ _ | refine Below.drew ?_)); all_goals (first | exact Nat.le_refl _ | omega | (simp; done) | (simp; omega)))).later hb6)
  have HX6 := hide (((unhide HX5).later (by (repeat' (first | exact Below.refl _ _ | refine Below.alloc ?_ ?_ _ | refine Below.setCell ?_ ?_ _ | refine Below.drew ?_)); all_goals (first | exact Nat.le_refl _ | omega | (simp; done) | (simp; omega)))).later hb6)
  have HB6 := hide (show Below w.heap.size w w6 from (by have := (unhide HP2).2; have := (unhide HV3).2; have := (unhide HP3).2; have := (unhide HP5).2; have := (unhide HV5).2; have := (unhide HX5).2; have := (unhide HB5).size; exact Below.trans (by (repeat' (first | exact Below.refl _ _ | refine Below.alloc ?_ ?_ _ | refine Below.setCell ?_ ?_ _ | refine Below.drew ?_ | refine Below.trans ?_ (Below.mono (unhide HB5) ?_))); all_goals (first | exact Nat.le_refl _ | omega | (simp; done) | (simp; omega))) (hb6.mono (by first | omega | (simp; done) | (simp; omega)))))
  clear hb6
  have ne2 : ¬ w3.heap.size = w2.heap.size := by have := (unhide HV3).2; omega
  have ne3 : ¬ w3.heap.size = w.heap.size := by have := (unhide HP3).2; omega
  obtain ⟨x0, x1, x2, x3⟩ := (unhide HX6).c4.1
  obtain ⟨xf0, xf1, xf2, xf3⟩ := (unhide HX6).c4.2
  have xl := (unhide HX6).2
  have k2 := (unhide HP2).2
  have k3 := (unhide HV3).2
  go_wp2_with fail
  refine (same_same _ _ ((unhide HG).later (by have := (unhide HB6).size; exact (by (repeat' (first | exact Below.refl _ _ | refine Below.alloc ?_ ?_ _ | refine Below.setCell ?_ ?_ _ | refine Below.drew ?_ | refine Below.trans ?_ (Below.mono (unhide HB6) ?_))); all_goals (first | exact Nat.le_refl _ | omega | (simp; done) | (simp; omega)))))).mono ?_
  rintro e w7 ⟨rfl, hb7⟩
  clear x0 x1 x2 x3 xf0 xf1 xf2 xf3 xl
  have HV7 := hide ((((((((unhide HV6).later (by (repeat' (first | exact Below.refl _ _ | refine Below.alloc ?_ ?_ _ | refine Below.setCell ?_ ?_ _ | refine Below.drew ?_)); all_goals (first | exact Nat.le_refl _ | omega | (simp; done) | (simp; omega)))).far (c := w3.heap.size) (by have := (unhide HP2).2; have := (unhide HV3).2; have := (unhide HP3).2; have := (unhide HP6).2; have := (unhide HV6).2; have := (unhide HX6).2; have := (unhide HB6).size; omega) 0 (.int .i64 0)).far (c := w3.heap.size) (by have := (unhide HP2).2; have := (unhide HV3).2; have := (unhide HP3).2; have := (unhide HP6).2; have := (unhide HV6).2; have := (unhide HX6).2; have := (unhide HB6).size; omega) 1 (.int .i64 0)).far (c := w3.heap.size) (by have := (unhide HP2).2; have := (unhide HV3).2; have := (unhide HP3).2; have := (unhide HP6).2; have := (unhide HV6).2; have := (unhide HX6).2; have := (unhide HB6).size; omega) 2 (.int .i64 0)).far (c := w3.heap.size) (by have := (unhide HP2).2; have := (unhide HV3).2; have := (unhide HP3).2; have := (unhide HP6).2; have := (unhide HV6).2; have := (unhide HX6).2; have := (unhide HB6).size; omega) 3 (.int .i64 0)).later (by (repeat' (first | exact Below.refl _ _ | refine Below.alloc ?_ ?_ _ | refine Below.setCell ?_ ?_ _ | refine Below.drew ?_)); all_goals (first | exact Nat.le_refl _ | omega | (simp; done) | (simp; omega)))).later hb7)
  have HX7 : Hid (Held w7 (w3.heap.size) (n4 0 0 0 0)) := hide (((((((unhide HX6).put 0 (.int .i64 0)).put 1 (.int .i64 0)).put 2 (.int .i64 0)).put 3 (.int .i64 0)).later (by (repeat' (first | exact Below.refl _ _ | refine Below.alloc ?_ ?_ _ | refine Below.setCell ?_ ?_ _ | refine Below.drew ?_)); all_goals (first | exact Nat.le_refl _ | omega | (simp; done) | (simp; omega)))).later hb7)
  have HB7 := hide (show Below w.heap.size w w7 from (by have := (unhide HP2).2; have := (unhide HV3).2; have := (unhide HP3).2; have := (unhide HP6).2; have := (unhide HV6).2; have := (unhide HX6).2; have := (unhide HB6).size; exact Below.trans (by (repeat' (first | exact Below.refl _ _ | refine Below.alloc ?_ ?_ _ | refine Below.setCell ?_ ?_ _ | refine Below.drew ?_ | refine Below.trans ?_ (Below.mono (unhide HB6) ?_))); all_goals (first | exact Nat.le_refl _ | omega | (simp; done) | (simp; omega))) (hb7.mono (by first | omega | (simp; done) | (simp; omega)))))
  clear hb7
  obtain ⟨v0, v1, v2, v3⟩ := (unhide HV7).c4.1
  have vl := (unhide HV7).2
  obtain ⟨x0, x1, x2, x3⟩ := (unhide HX7).c4.1
  have xl := (unhide HX7).2
  go_wp2
  go_ret
  exact ⟨rfl, (by have := (unhide HP2).2; have := (unhide HV3).2; have := (unhide HP3).2; have := (unhide HP6).2; have := (unhide HV6).2; have := (unhide HX6).2; have := (unhide HB7).size; exact (by (repeat' (first | exact Below.refl _ _ | refine Below.alloc ?_ ?_ _ | refine Below.setCell ?_ ?_ _ | refine Below.drew ?_ | refine Below.trans ?_ (Below.mono (unhide HB7) ?_))); all_goals (first | exact Nat.le_refl _ | omega | (simp; done) | (simp; omega))))⟩

set_option maxHeartbeats 6400000 in
set_option maxRecDepth 8000 in
theorem walk_full (s r h t x n f H : Int) (w : World) (HG : Hid (ErrType w)) (hn0 : 0 ≤ n) (hn1 : n ≤ 100) (hn : H < n)
    (CB : Hid (∀ w : World, Calls Tryd.prog 9 #[.agg #[.int .i64 s, .int .i64 r, .int .i64 h, .int .i64 t]] w fun e w' => e = .returned (.int .i64 f) ∧ Below w.heap.size w w'))
    (CC : Hid (∀ w : World, Calls Tryd.prog 8 #[.agg #[.int .i64 s, .int .i64 r, .int .i64 h, .int .i64 t]] w fun e w' => e = .returned (errV f) ∧ Below w.heap.size w w'))
    (CR : Hid (∀ w : World, Calls Tryd.prog 10 #[.agg #[.int .i64 s, .int .i64 r, .int .i64 h, .int .i64 t], .int .i64 x] w fun e w' => e = .returned (.tuple #[.agg #[.int .i64 s, .int .i64 r, .int .i64 H, .int .i64 x], .int .i64 0]) ∧ Below w.heap.size w w'))
    (CA : Hid (∀ w : World, Calls Tryd.prog 11 #[.agg #[.int .i64 s, .int .i64 r, .int .i64 h, .int .i64 t], .int .i64 x] w fun e w' => e = .returned (.tuple #[.agg #[.int .i64 s, .int .i64 r, .int .i64 H, .int .i64 x], errV 0]) ∧ Below w.heap.size w w'))
    (CT : Hid (∀ w : World, Calls Tryd.prog 12 #[.agg #[.int .i64 s, .int .i64 r, .int .i64 h, .int .i64 t], .int .i64 x, .int .i64 n] w fun e w' => e = .returned (.tuple #[.agg #[.int .i64 0, .int .i64 0, .int .i64 0, .int .i64 0], errV 4]) ∧ Below w.heap.size w w')) :
    Calls Tryd.prog 4 #[.agg #[.int .i64 s, .int .i64 r, .int .i64 h, .int .i64 t], .int .i64 x, .int .i64 n] w fun e w' => e = .returned (.bool true) ∧ Below w.heap.size w w' := by
  go_enter Tryd.func4, Tryd.ntmps4
  go_wp2
  have HP0 : Hid (Held (w.alloc (.cells #[.int .i64 s, .int .i64 r, .int .i64 h, .int .i64 t] 32)) w.heap.size (n4 s r h t)) := hide (Held.fresh (w := w) (n4 s r h t) 32 rfl)
  have HB0 : Hid (Below w.heap.size w (w.alloc (.cells #[.int .i64 s, .int .i64 r, .int .i64 h, .int .i64 t] 32))) := hide (by (repeat' (first | exact Below.refl _ _ | refine Below.alloc ?_ ?_ _ | refine Below.setCell ?_ ?_ _ | refine Below.drew ?_)); all_goals (first | exact Nat.le_refl _ | omega | (simp; done) | (simp; omega)))
  generalize (w.alloc (.cells #[.int .i64 s, .int .i64 r, .int .i64 h, .int .i64 t] 32)) = w0 at HP0 HB0 ⊢
  obtain ⟨p0, p1, p2, p3⟩ := (unhide HP0).c4.1
  have pl := (unhide HP0).2
  go_region_held3 (fun w' => Hid (Below w0.heap.size w0 w') ∧ w'.cell? ⟨w.heap.size, 0, none⟩ = some (.int .i64 s) ∧ w'.cell? ⟨w.heap.size, 1, none⟩ = some (.int .i64 r) ∧ w'.cell? ⟨w.heap.size, 2, none⟩ = some (.int .i64 h) ∧ w'.cell? ⟨w.heap.size, 3, none⟩ = some (.int .i64 t)) (first | exact reg_step (by assumption) hb | exact ⟨hide ((Below.refl _ _).drew), by rw [World.cell?_drew]; exact p0, by rw [World.cell?_drew]; exact p1, by rw [World.cell?_drew]; exact p2, by rw [World.cell?_drew]; exact p3⟩)
    (first | (go_at_call 8; refine (unhide CC _).mono ?_; rintro e w' ⟨rfl, hb⟩) | (go_at_call 9; refine (unhide CB _).mono ?_; rintro e w' ⟨rfl, hb⟩) | (go_at_call 7; refine (same_same _ _ ((unhide HG).later (Below.trans (unhide HB0) ((unhide (And.left ‹Hid (Below w0.heap.size w0 _) ∧ _›)).mono (unhide HB0).size)))).mono ?_; rintro e w' ⟨rfl, hb⟩))
  have HS := And.left ‹Hid (Below w0.heap.size w0 _) ∧ _›
  have HP1 := hide ((unhide HP0).later (unhide HS))
  have HB1 := hide (bel3 (unhide HB0) (Below.refl _ _) (unhide HS))
  clear HS hb p0 p1 p2 p3 pl
  generalize w' = w1 at HP1 HB1 ⊢
  clear HP0 HB0
  obtain ⟨p0, p1, p2, p3⟩ := (unhide HP1).c4.1
  have pl := (unhide HP1).2
  go_wp2_with fail
  refine (unhide CR _).mono ?_
  rintro e w2 ⟨rfl, hb2⟩
  clear p0 p1 p2 p3 pl
  have HP2 := hide (((unhide HP1).later (by (repeat' (first | exact Below.refl _ _ | refine Below.alloc ?_ ?_ _ | refine Below.setCell ?_ ?_ _ | refine Below.drew ?_)); all_goals (first | exact Nat.le_refl _ | omega | (simp; done) | (simp; omega)))).later hb2)
  have HB2 := hide (show Below w.heap.size w w2 from (by have := (unhide HP1).2; have := (unhide HB1).size; exact Below.trans (by (repeat' (first | exact Below.refl _ _ | refine Below.alloc ?_ ?_ _ | refine Below.setCell ?_ ?_ _ | refine Below.drew ?_ | refine Below.trans ?_ (Below.mono (unhide HB1) ?_))); all_goals (first | exact Nat.le_refl _ | omega | (simp; done) | (simp; omega))) (hb2.mono (by first | omega | (simp; done) | (simp; omega)))))
  clear hb2
  obtain ⟨p0, p1, p2, p3⟩ := (unhide HP2).c4.1
  have pl := (unhide HP2).2
  go_wp2_with fail
  refine (unhide CA _).mono ?_
  rintro e w3 ⟨rfl, hb3⟩
  clear p0 p1 p2 p3 pl
  have HP3 := hide (((unhide HP2).later (by (repeat' (first | exact Below.refl _ _ | refine Below.alloc ?_ ?_ _ | refine Below.setCell ?_ ?_ _ | refine Below.drew ?_)); all_goals (first | exact Nat.le_refl _ | omega | (simp; done) | (simp; omega)))).later hb3)
  have HV3 : Hid (Held w3 (w2.heap.size) (n4 s r H x)) := hide ((Held.fresh (n4 s r H x) _ (by first | rfl | (simp; done))).later hb3)
  have HB3 := hide (show Below w.heap.size w w3 from (by have := (unhide HP2).2; have := (unhide HB2).size; exact Below.trans (by (repeat' (first | exact Below.refl _ _ | refine Below.alloc ?_ ?_ _ | refine Below.setCell ?_ ?_ _ | refine Below.drew ?_ | refine Below.trans ?_ (Below.mono (unhide HB2) ?_))); all_goals (first | exact Nat.le_refl _ | omega | (simp; done) | (simp; omega))) (hb3.mono (by first | omega | (simp; done) | (simp; omega)))))
  clear hb3
  go_wp2_with fail
  refine (same_same _ _ ((unhide HG).later (by have := (unhide HB3).size; exact (by (repeat' (first | exact Below.refl _ _ | refine Below.alloc ?_ ?_ _ | refine Below.setCell ?_ ?_ _ | refine Below.drew ?_ | refine Below.trans ?_ (Below.mono (unhide HB3) ?_))); all_goals (first | exact Nat.le_refl _ | omega | (simp; done) | (simp; omega)))))).mono ?_
  rintro e w4 ⟨rfl, hb4⟩
  have HP4 := hide (((unhide HP3).later (by (repeat' (first | exact Below.refl _ _ | refine Below.alloc ?_ ?_ _ | refine Below.setCell ?_ ?_ _ | refine Below.drew ?_)); all_goals (first | exact Nat.le_refl _ | omega | (simp; done) | (simp; omega)))).later hb4)
  have HV4 := hide (((unhide HV3).later (by (repeat' (first | exact Below.refl _ _ | refine Below.alloc ?_ ?_ _ | refine Below.setCell ?_ ?_ _ | refine Below.drew ?_)); all_goals (first | exact Nat.le_refl _ | omega | (simp; done) | (simp; omega)))).later hb4)
  have HX4 : Hid (Held w4 (w3.heap.size) (n4 s r H x)) := hide ((Held.fresh (n4 s r H x) _ (by first | rfl | (simp; done))).later hb4)
  have HB4 := hide (show Below w.heap.size w w4 from (by have := (unhide HP3).2; have := (unhide HV3).2; have := (unhide HB3).size; exact Below.trans (by (repeat' (first | exact Below.refl _ _ | refine Below.alloc ?_ ?_ _ | refine Below.setCell ?_ ?_ _ | refine Below.drew ?_ | refine Below.trans ?_ (Below.mono (unhide HB3) ?_))); all_goals (first | exact Nat.le_refl _ | omega | (simp; done) | (simp; omega))) (hb4.mono (by first | omega | (simp; done) | (simp; omega)))))
  clear hb4
  have ne1 : ¬ w2.heap.size = w.heap.size := by have := (unhide HP2).2; omega
  obtain ⟨p0, p1, p2, p3⟩ := (unhide HP4).c4.1
  have pl := (unhide HP4).2
  obtain ⟨v0, v1, v2, v3⟩ := (unhide HV4).c4.1
  obtain ⟨vf0, vf1, vf2, vf3⟩ := (unhide HV4).c4.2
  have vl := (unhide HV4).2
  obtain ⟨x0, x1, x2, x3⟩ := (unhide HX4).c4.1
  have xl := (unhide HX4).2
  go_upto_region 13 with fail
  clear p0 p1 p2 p3 pl v0 v1 v2 v3 vf0 vf1 vf2 vf3 vl x0 x1 x2 x3 xl
  have HP5 := hide (((((unhide HP4).far (c := w2.heap.size) (by have := (unhide HP2).2; have := (unhide HV3).2; have := (unhide HP3).2; have := (unhide HP4).2; have := (unhide HV4).2; have := (unhide HX4).2; have := (unhide HB4).size; omega) 0 (.int .i64 0)).far (c := w2.heap.size) (by have := (unhide HP2).2; have := (unhide HV3).2; have := (unhide HP3).2; have := (unhide HP4).2; have := (unhide HV4).2; have := (unhide HX4).2; have := (unhide HB4).size; omega) 1 (.int .i64 0)).far (c := w2.heap.size) (by have := (unhide HP2).2; have := (unhide HV3).2; have := (unhide HP3).2; have := (unhide HP4).2; have := (unhide HV4).2; have := (unhide HX4).2; have := (unhide HB4).size; omega) 2 (.int .i64 0)).far (c := w2.heap.size) (by have := (unhide HP2).2; have := (unhide HV3).2; have := (unhide HP3).2; have := (unhide HP4).2; have := (unhide HV4).2; have := (unhide HX4).2; have := (unhide HB4).size; omega) 3 (.int .i64 0))
  have HV5 : Hid (Held ((((w4.setCell ⟨w2.heap.size, 0, none⟩ (.int .i64 0)).setCell ⟨w2.heap.size, 1, none⟩ (.int .i64 0)).setCell ⟨w2.heap.size, 2, none⟩ (.int .i64 0)).setCell ⟨w2.heap.size, 3, none⟩ (.int .i64 0)) (w2.heap.size) (n4 0 0 0 0)) := hide (((((unhide HV4).put 0 (.int .i64 0)).put 1 (.int .i64 0)).put 2 (.int .i64 0)).put 3 (.int .i64 0))
  have HX5 := hide (((((unhide HX4).far (c := w2.heap.size) (by have := (unhide HP2).2; have := (unhide HV3).2; have := (unhide HP3).2; have := (unhide HP4).2; have := (unhide HV4).2; have := (unhide HX4).2; have := (unhide HB4).size; omega) 0 (.int .i64 0)).far (c := w2.heap.size) (by have := (unhide HP2).2; have := (unhide HV3).2; have := (unhide HP3).2; have := (unhide HP4).2; have := (unhide HV4).2; have := (unhide HX4).2; have := (unhide HB4).size; omega) 1 (.int .i64 0)).far (c := w2.heap.size) (by have := (unhide HP2).2; have := (unhide HV3).2; have := (unhide HP3).2; have := (unhide HP4).2; have := (unhide HV4).2; have := (unhide HX4).2; have := (unhide HB4).size; omega) 2 (.int .i64 0)).far (c := w2.heap.size) (by have := (unhide HP2).2; have := (unhide HV3).2; have := (unhide HP3).2; have := (unhide HP4).2; have := (unhide HV4).2; have := (unhide HX4).2; have := (unhide HB4).size; omega) 3 (.int .i64 0))
  have HB5 : Hid (Below w.heap.size w ((((w4.setCell ⟨w2.heap.size, 0, none⟩ (.int .i64 0)).setCell ⟨w2.heap.size, 1, none⟩ (.int .i64 0)).setCell ⟨w2.heap.size, 2, none⟩ (.int .i64 0)).setCell ⟨w2.heap.size, 3, none⟩ (.int .i64 0))) := hide (by have := (unhide HP2).2; have := (unhide HV3).2; have := (unhide HP3).2; have := (unhide HP4).2; have := (unhide HV4).2; have := (unhide HX4).2; have := (unhide HB4).size; exact (by (repeat' (first | exact Below.refl _ _ | refine Below.alloc ?_ ?_ _ | refine Below.setCell ?_ ?_ _ | refine Below.drew ?_ | refine Below.trans ?_ (Below.mono (unhide HB4) ?_))); all_goals (first | exact Nat.le_refl _ | omega | (simp; done) | (simp; omega))))
  generalize ((((w4.setCell ⟨w2.heap.size, 0, none⟩ (.int .i64 0)).setCell ⟨w2.heap.size, 1, none⟩ (.int .i64 0)).setCell ⟨w2.heap.size, 2, none⟩ (.int .i64 0)).setCell ⟨w2.heap.size, 3, none⟩ (.int .i64 0)) = w5 at HP5 HV5 HX5 HB5 ⊢
  obtain ⟨p0, p1, p2, p3⟩ := (unhide HP5).c4.1
  have pl := (unhide HP5).2
  go_wp2_with fail
  refine (unhide CT _).mono ?_
  rintro e w6 ⟨rfl, hb6⟩
  clear p0 p1 p2 p3 pl
  have HP6 := hide (((unhide HP5).later (by (repeat' (first | exact Below.refl _ _ | refine Below.alloc ?_ ?_ _ | refine Below.setCell ?_ ?_ _ | refine Below.drew ?_)); all_goals (first | exact Nat.le_refl _ | omega | (simp; done) | (simp; omega)))).later hb6)
  have HV6 := hide (((unhide HV5).later (by (repeat' (first | exact Below.refl _ _ | refine Below.alloc ?_ ?_ _ | refine Below.setCell ?_ ?_ _ | refine Below.drew ?_)); all_goals (first | exact Nat.le_refl _ | omega | (simp; done) | (simp; omega)))).later hb6)
  have HX6 := hide (((unhide HX5).later (by (repeat' (first | exact Below.refl _ _ | refine Below.alloc ?_ ?_ _ | refine Below.setCell ?_ ?_ _ | refine Below.drew ?_)); all_goals (first | exact Nat.le_refl _ | omega | (simp; done) | (simp; omega)))).later hb6)
  have HB6 := hide (show Below w.heap.size w w6 from (by have := (unhide HP2).2; have := (unhide HV3).2; have := (unhide HP3).2; have := (unhide HP5).2; have := (unhide HV5).2; have := (unhide HX5).2; have := (unhide HB5).size; exact Below.trans (by (repeat' (first | exact Below.refl _ _ | refine Below.alloc ?_ ?_ _ | refine Below.setCell ?_ ?_ _ | refine Below.drew ?_ | refine Below.trans ?_ (Below.mono (unhide HB5) ?_))); all_goals (first | exact Nat.le_refl _ | omega | (simp; done) | (simp; omega))) (hb6.mono (by first | omega | (simp; done) | (simp; omega)))))
  clear hb6
  have ne2 : ¬ w3.heap.size = w2.heap.size := by have := (unhide HV3).2; omega
  have ne3 : ¬ w3.heap.size = w.heap.size := by have := (unhide HP3).2; omega
  obtain ⟨x0, x1, x2, x3⟩ := (unhide HX6).c4.1
  obtain ⟨xf0, xf1, xf2, xf3⟩ := (unhide HX6).c4.2
  have xl := (unhide HX6).2
  have k2 := (unhide HP2).2
  have k3 := (unhide HV3).2
  go_wp2_with fail
  refine (same_same _ _ ((unhide HG).later (by have := (unhide HB6).size; exact (by (repeat' (first | exact Below.refl _ _ | refine Below.alloc ?_ ?_ _ | refine Below.setCell ?_ ?_ _ | refine Below.drew ?_ | refine Below.trans ?_ (Below.mono (unhide HB6) ?_))); all_goals (first | exact Nat.le_refl _ | omega | (simp; done) | (simp; omega)))))).mono ?_
  rintro e w7 ⟨rfl, hb7⟩
  clear x0 x1 x2 x3 xf0 xf1 xf2 xf3 xl
  have HV7 := hide ((((((((unhide HV6).later (by (repeat' (first | exact Below.refl _ _ | refine Below.alloc ?_ ?_ _ | refine Below.setCell ?_ ?_ _ | refine Below.drew ?_)); all_goals (first | exact Nat.le_refl _ | omega | (simp; done) | (simp; omega)))).far (c := w3.heap.size) (by have := (unhide HP2).2; have := (unhide HV3).2; have := (unhide HP3).2; have := (unhide HP6).2; have := (unhide HV6).2; have := (unhide HX6).2; have := (unhide HB6).size; omega) 0 (.int .i64 0)).far (c := w3.heap.size) (by have := (unhide HP2).2; have := (unhide HV3).2; have := (unhide HP3).2; have := (unhide HP6).2; have := (unhide HV6).2; have := (unhide HX6).2; have := (unhide HB6).size; omega) 1 (.int .i64 0)).far (c := w3.heap.size) (by have := (unhide HP2).2; have := (unhide HV3).2; have := (unhide HP3).2; have := (unhide HP6).2; have := (unhide HV6).2; have := (unhide HX6).2; have := (unhide HB6).size; omega) 2 (.int .i64 0)).far (c := w3.heap.size) (by have := (unhide HP2).2; have := (unhide HV3).2; have := (unhide HP3).2; have := (unhide HP6).2; have := (unhide HV6).2; have := (unhide HX6).2; have := (unhide HB6).size; omega) 3 (.int .i64 0)).later (by (repeat' (first | exact Below.refl _ _ | refine Below.alloc ?_ ?_ _ | refine Below.setCell ?_ ?_ _ | refine Below.drew ?_)); all_goals (first | exact Nat.le_refl _ | omega | (simp; done) | (simp; omega)))).later hb7)
  have HX7 : Hid (Held w7 (w3.heap.size) (n4 0 0 0 0)) := hide (((((((unhide HX6).put 0 (.int .i64 0)).put 1 (.int .i64 0)).put 2 (.int .i64 0)).put 3 (.int .i64 0)).later (by (repeat' (first | exact Below.refl _ _ | refine Below.alloc ?_ ?_ _ | refine Below.setCell ?_ ?_ _ | refine Below.drew ?_)); all_goals (first | exact Nat.le_refl _ | omega | (simp; done) | (simp; omega)))).later hb7)
  have HB7 := hide (show Below w.heap.size w w7 from (by have := (unhide HP2).2; have := (unhide HV3).2; have := (unhide HP3).2; have := (unhide HP6).2; have := (unhide HV6).2; have := (unhide HX6).2; have := (unhide HB6).size; exact Below.trans (by (repeat' (first | exact Below.refl _ _ | refine Below.alloc ?_ ?_ _ | refine Below.setCell ?_ ?_ _ | refine Below.drew ?_ | refine Below.trans ?_ (Below.mono (unhide HB6) ?_))); all_goals (first | exact Nat.le_refl _ | omega | (simp; done) | (simp; omega))) (hb7.mono (by first | omega | (simp; done) | (simp; omega)))))
  clear hb7
  obtain ⟨v0, v1, v2, v3⟩ := (unhide HV7).c4.1
  have vl := (unhide HV7).2
  obtain ⟨x0, x1, x2, x3⟩ := (unhide HX7).c4.1
  have xl := (unhide HX7).2
  go_wp2
  go_ret
  exact ⟨rfl, (by have := (unhide HP2).2; have := (unhide HV3).2; have := (unhide HP3).2; have := (unhide HP6).2; have := (unhide HV6).2; have := (unhide HX6).2; have := (unhide HB7).size; exact (by (repeat' (first | exact Below.refl _ _ | refine Below.alloc ?_ ?_ _ | refine Below.setCell ?_ ?_ _ | refine Below.drew ?_ | refine Below.trans ?_ (Below.mono (unhide HB7) ?_))); all_goals (first | exact Nat.le_refl _ | omega | (simp; done) | (simp; omega))))⟩

set_option maxHeartbeats 6400000 in
set_option maxRecDepth 8000 in
theorem walk_good (s r h t x n f H : Int) (w : World) (HG : Hid (ErrType w)) (hn0 : 0 ≤ n) (hn1 : n ≤ 100) (hn : n ≤ H) (hH : H ≤ 100)
    (CB : Hid (∀ w : World, Calls Tryd.prog 9 #[.agg #[.int .i64 s, .int .i64 r, .int .i64 h, .int .i64 t]] w fun e w' => e = .returned (.int .i64 f) ∧ Below w.heap.size w w'))
    (CC : Hid (∀ w : World, Calls Tryd.prog 8 #[.agg #[.int .i64 s, .int .i64 r, .int .i64 h, .int .i64 t]] w fun e w' => e = .returned (errV f) ∧ Below w.heap.size w w'))
    (CR : Hid (∀ w : World, Calls Tryd.prog 10 #[.agg #[.int .i64 s, .int .i64 r, .int .i64 h, .int .i64 t], .int .i64 x] w fun e w' => e = .returned (.tuple #[.agg #[.int .i64 s, .int .i64 r, .int .i64 H, .int .i64 x], .int .i64 0]) ∧ Below w.heap.size w w'))
    (CA : Hid (∀ w : World, Calls Tryd.prog 11 #[.agg #[.int .i64 s, .int .i64 r, .int .i64 h, .int .i64 t], .int .i64 x] w fun e w' => e = .returned (.tuple #[.agg #[.int .i64 s, .int .i64 r, .int .i64 H, .int .i64 x], errV 0]) ∧ Below w.heap.size w w'))
    (CT : Hid (∀ w : World, Calls Tryd.prog 12 #[.agg #[.int .i64 s, .int .i64 r, .int .i64 h, .int .i64 t], .int .i64 x, .int .i64 n] w fun e w' => e = .returned (.tuple #[.agg #[.int .i64 s, .int .i64 r, .int .i64 (H - n), .int .i64 x], errV 0]) ∧ Below w.heap.size w w')) :
    Calls Tryd.prog 4 #[.agg #[.int .i64 s, .int .i64 r, .int .i64 h, .int .i64 t], .int .i64 x, .int .i64 n] w fun e w' => e = .returned (.bool true) ∧ Below w.heap.size w w' := by
  go_enter Tryd.func4, Tryd.ntmps4
  go_wp2
  have HP0 : Hid (Held (w.alloc (.cells #[.int .i64 s, .int .i64 r, .int .i64 h, .int .i64 t] 32)) w.heap.size (n4 s r h t)) := hide (Held.fresh (w := w) (n4 s r h t) 32 rfl)
  have HB0 : Hid (Below w.heap.size w (w.alloc (.cells #[.int .i64 s, .int .i64 r, .int .i64 h, .int .i64 t] 32))) := hide (by (repeat' (first | exact Below.refl _ _ | refine Below.alloc ?_ ?_ _ | refine Below.setCell ?_ ?_ _ | refine Below.drew ?_)); all_goals (first | exact Nat.le_refl _ | omega | (simp; done) | (simp; omega)))
  generalize (w.alloc (.cells #[.int .i64 s, .int .i64 r, .int .i64 h, .int .i64 t] 32)) = w0 at HP0 HB0 ⊢
  obtain ⟨p0, p1, p2, p3⟩ := (unhide HP0).c4.1
  have pl := (unhide HP0).2
  go_region_held3 (fun w' => Hid (Below w0.heap.size w0 w') ∧ w'.cell? ⟨w.heap.size, 0, none⟩ = some (.int .i64 s) ∧ w'.cell? ⟨w.heap.size, 1, none⟩ = some (.int .i64 r) ∧ w'.cell? ⟨w.heap.size, 2, none⟩ = some (.int .i64 h) ∧ w'.cell? ⟨w.heap.size, 3, none⟩ = some (.int .i64 t)) (first | exact reg_step (by assumption) hb | exact ⟨hide ((Below.refl _ _).drew), by rw [World.cell?_drew]; exact p0, by rw [World.cell?_drew]; exact p1, by rw [World.cell?_drew]; exact p2, by rw [World.cell?_drew]; exact p3⟩)
    (first | (go_at_call 8; refine (unhide CC _).mono ?_; rintro e w' ⟨rfl, hb⟩) | (go_at_call 9; refine (unhide CB _).mono ?_; rintro e w' ⟨rfl, hb⟩) | (go_at_call 7; refine (same_same _ _ ((unhide HG).later (Below.trans (unhide HB0) ((unhide (And.left ‹Hid (Below w0.heap.size w0 _) ∧ _›)).mono (unhide HB0).size)))).mono ?_; rintro e w' ⟨rfl, hb⟩))
  have HS := And.left ‹Hid (Below w0.heap.size w0 _) ∧ _›
  have HP1 := hide ((unhide HP0).later (unhide HS))
  have HB1 := hide (bel3 (unhide HB0) (Below.refl _ _) (unhide HS))
  clear HS hb p0 p1 p2 p3 pl
  generalize w' = w1 at HP1 HB1 ⊢
  clear HP0 HB0
  obtain ⟨p0, p1, p2, p3⟩ := (unhide HP1).c4.1
  have pl := (unhide HP1).2
  go_wp2_with fail
  refine (unhide CR _).mono ?_
  rintro e w2 ⟨rfl, hb2⟩
  clear p0 p1 p2 p3 pl
  have HP2 := hide (((unhide HP1).later (by (repeat' (first | exact Below.refl _ _ | refine Below.alloc ?_ ?_ _ | refine Below.setCell ?_ ?_ _ | refine Below.drew ?_)); all_goals (first | exact Nat.le_refl _ | omega | (simp; done) | (simp; omega)))).later hb2)
  have HB2 := hide (show Below w.heap.size w w2 from (by have := (unhide HP1).2; have := (unhide HB1).size; exact Below.trans (by (repeat' (first | exact Below.refl _ _ | refine Below.alloc ?_ ?_ _ | refine Below.setCell ?_ ?_ _ | refine Below.drew ?_ | refine Below.trans ?_ (Below.mono (unhide HB1) ?_))); all_goals (first | exact Nat.le_refl _ | omega | (simp; done) | (simp; omega))) (hb2.mono (by first | omega | (simp; done) | (simp; omega)))))
  clear hb2
  obtain ⟨p0, p1, p2, p3⟩ := (unhide HP2).c4.1
  have pl := (unhide HP2).2
  go_wp2_with fail
  refine (unhide CA _).mono ?_
  rintro e w3 ⟨rfl, hb3⟩
  clear p0 p1 p2 p3 pl
  have HP3 := hide (((unhide HP2).later (by (repeat' (first | exact Below.refl _ _ | refine Below.alloc ?_ ?_ _ | refine Below.setCell ?_ ?_ _ | refine Below.drew ?_)); all_goals (first | exact Nat.le_refl _ | omega | (simp; done) | (simp; omega)))).later hb3)
  have HV3 : Hid (Held w3 (w2.heap.size) (n4 s r H x)) := hide ((Held.fresh (n4 s r H x) _ (by first | rfl | (simp; done))).later hb3)
  have HB3 := hide (show Below w.heap.size w w3 from (by have := (unhide HP2).2; have := (unhide HB2).size; exact Below.trans (by (repeat' (first | exact Below.refl _ _ | refine Below.alloc ?_ ?_ _ | refine Below.setCell ?_ ?_ _ | refine Below.drew ?_ | refine Below.trans ?_ (Below.mono (unhide HB2) ?_))); all_goals (first | exact Nat.le_refl _ | omega | (simp; done) | (simp; omega))) (hb3.mono (by first | omega | (simp; done) | (simp; omega)))))
  clear hb3
  go_wp2_with fail
  refine (same_same _ _ ((unhide HG).later (by have := (unhide HB3).size; exact (by (repeat' (first | exact Below.refl _ _ | refine Below.alloc ?_ ?_ _ | refine Below.setCell ?_ ?_ _ | refine Below.drew ?_ | refine Below.trans ?_ (Below.mono (unhide HB3) ?_))); all_goals (first | exact Nat.le_refl _ | omega | (simp; done) | (simp; omega)))))).mono ?_
  rintro e w4 ⟨rfl, hb4⟩
  have HP4 := hide (((unhide HP3).later (by (repeat' (first | exact Below.refl _ _ | refine Below.alloc ?_ ?_ _ | refine Below.setCell ?_ ?_ _ | refine Below.drew ?_)); all_goals (first | exact Nat.le_refl _ | omega | (simp; done) | (simp; omega)))).later hb4)
  have HV4 := hide (((unhide HV3).later (by (repeat' (first | exact Below.refl _ _ | refine Below.alloc ?_ ?_ _ | refine Below.setCell ?_ ?_ _ | refine Below.drew ?_)); all_goals (first | exact Nat.le_refl _ | omega | (simp; done) | (simp; omega)))).later hb4)
  have HX4 : Hid (Held w4 (w3.heap.size) (n4 s r H x)) := hide ((Held.fresh (n4 s r H x) _ (by first | rfl | (simp; done))).later hb4)
  have HB4 := hide (show Below w.heap.size w w4 from (by have := (unhide HP3).2; have := (unhide HV3).2; have := (unhide HB3).size; exact Below.trans (by (repeat' (first | exact Below.refl _ _ | refine Below.alloc ?_ ?_ _ | refine Below.setCell ?_ ?_ _ | refine Below.drew ?_ | refine Below.trans ?_ (Below.mono (unhide HB3) ?_))); all_goals (first | exact Nat.le_refl _ | omega | (simp; done) | (simp; omega))) (hb4.mono (by first | omega | (simp; done) | (simp; omega)))))
  clear hb4
  have ne1 : ¬ w2.heap.size = w.heap.size := by have := (unhide HP2).2; omega
  obtain ⟨p0, p1, p2, p3⟩ := (unhide HP4).c4.1
  have pl := (unhide HP4).2
  obtain ⟨v0, v1, v2, v3⟩ := (unhide HV4).c4.1
  obtain ⟨vf0, vf1, vf2, vf3⟩ := (unhide HV4).c4.2
  have vl := (unhide HV4).2
  obtain ⟨x0, x1, x2, x3⟩ := (unhide HX4).c4.1
  have xl := (unhide HX4).2
  go_upto_region 13 with fail
  clear p0 p1 p2 p3 pl v0 v1 v2 v3 vf0 vf1 vf2 vf3 vl x0 x1 x2 x3 xl
  have HP5 := hide ((unhide HP4).far (c := w2.heap.size) (by have := (unhide HP2).2; have := (unhide HV3).2; have := (unhide HP3).2; have := (unhide HP4).2; have := (unhide HV4).2; have := (unhide HX4).2; have := (unhide HB4).size; omega) 2 (.int .i64 (H - n)))
  have HV5 : Hid (Held (w4.setCell ⟨w2.heap.size, 2, none⟩ (.int .i64 (H - n))) (w2.heap.size) (n4 s r (H - n) x)) := hide ((unhide HV4).put 2 (.int .i64 (H - n)))
  have HX5 := hide ((unhide HX4).far (c := w2.heap.size) (by have := (unhide HP2).2; have := (unhide HV3).2; have := (unhide HP3).2; have := (unhide HP4).2; have := (unhide HV4).2; have := (unhide HX4).2; have := (unhide HB4).size; omega) 2 (.int .i64 (H - n)))
  have HB5 : Hid (Below w.heap.size w (w4.setCell ⟨w2.heap.size, 2, none⟩ (.int .i64 (H - n)))) := hide (by have := (unhide HP2).2; have := (unhide HV3).2; have := (unhide HP3).2; have := (unhide HP4).2; have := (unhide HV4).2; have := (unhide HX4).2; have := (unhide HB4).size; exact (by (repeat' (first | exact Below.refl _ _ | refine Below.alloc ?_ ?_ _ | refine Below.setCell ?_ ?_ _ | refine Below.drew ?_ | refine Below.trans ?_ (Below.mono (unhide HB4) ?_))); all_goals (first | exact Nat.le_refl _ | omega | (simp; done) | (simp; omega))))
  generalize (w4.setCell ⟨w2.heap.size, 2, none⟩ (.int .i64 (H - n))) = w5 at HP5 HV5 HX5 HB5 ⊢
  obtain ⟨p0, p1, p2, p3⟩ := (unhide HP5).c4.1
  have pl := (unhide HP5).2
  go_wp2_with fail
  refine (unhide CT _).mono ?_
  rintro e w6 ⟨rfl, hb6⟩
  clear p0 p1 p2 p3 pl
  have HP6 := hide (((unhide HP5).later (by (repeat' (first | exact Below.refl _ _ | refine Below.alloc ?_ ?_ _ | refine Below.setCell ?_ ?_ _ | refine Below.drew ?_)); all_goals (first | exact Nat.le_refl _ | omega | (simp; done) | (simp; omega)))).later hb6)
  have HV6 := hide (((unhide HV5).later (by (repeat' (first | exact Below.refl _ _ | refine Below.alloc ?_ ?_ _ | refine Below.setCell ?_ ?_ _ | refine Below.drew ?_)); all_goals (first | exact Nat.le_refl _ | omega | (simp; done) | (simp; omega)))).later hb6)
  have HX6 := hide (((unhide HX5).later (by (repeat' (first | exact Below.refl _ _ | refine Below.alloc ?_ ?_ _ | refine Below.setCell ?_ ?_ _ | refine Below.drew ?_)); all_goals (first | exact Nat.le_refl _ | omega | (simp; done) | (simp; omega)))).later hb6)
  have HB6 := hide (show Below w.heap.size w w6 from (by have := (unhide HP2).2; have := (unhide HV3).2; have := (unhide HP3).2; have := (unhide HP5).2; have := (unhide HV5).2; have := (unhide HX5).2; have := (unhide HB5).size; exact Below.trans (by (repeat' (first | exact Below.refl _ _ | refine Below.alloc ?_ ?_ _ | refine Below.setCell ?_ ?_ _ | refine Below.drew ?_ | refine Below.trans ?_ (Below.mono (unhide HB5) ?_))); all_goals (first | exact Nat.le_refl _ | omega | (simp; done) | (simp; omega))) (hb6.mono (by first | omega | (simp; done) | (simp; omega)))))
  clear hb6
  have ne2 : ¬ w3.heap.size = w2.heap.size := by have := (unhide HV3).2; omega
  have ne3 : ¬ w3.heap.size = w.heap.size := by have := (unhide HP3).2; omega
  obtain ⟨x0, x1, x2, x3⟩ := (unhide HX6).c4.1
  obtain ⟨xf0, xf1, xf2, xf3⟩ := (unhide HX6).c4.2
  have xl := (unhide HX6).2
  have k2 := (unhide HP2).2
  have k3 := (unhide HV3).2
  go_wp2_with fail
  refine (same_same _ _ ((unhide HG).later (by have := (unhide HB6).size; exact (by (repeat' (first | exact Below.refl _ _ | refine Below.alloc ?_ ?_ _ | refine Below.setCell ?_ ?_ _ | refine Below.drew ?_ | refine Below.trans ?_ (Below.mono (unhide HB6) ?_))); all_goals (first | exact Nat.le_refl _ | omega | (simp; done) | (simp; omega)))))).mono ?_
  rintro e w7 ⟨rfl, hb7⟩
  clear x0 x1 x2 x3 xf0 xf1 xf2 xf3 xl
  have HV7 := hide ((((((((unhide HV6).later (by (repeat' (first | exact Below.refl _ _ | refine Below.alloc ?_ ?_ _ | refine Below.setCell ?_ ?_ _ | refine Below.drew ?_)); all_goals (first | exact Nat.le_refl _ | omega | (simp; done) | (simp; omega)))).far (c := w3.heap.size) (by have := (unhide HP2).2; have := (unhide HV3).2; have := (unhide HP3).2; have := (unhide HP6).2; have := (unhide HV6).2; have := (unhide HX6).2; have := (unhide HB6).size; omega) 0 (.int .i64 s)).far (c := w3.heap.size) (by have := (unhide HP2).2; have := (unhide HV3).2; have := (unhide HP3).2; have := (unhide HP6).2; have := (unhide HV6).2; have := (unhide HX6).2; have := (unhide HB6).size; omega) 1 (.int .i64 r)).far (c := w3.heap.size) (by have := (unhide HP2).2; have := (unhide HV3).2; have := (unhide HP3).2; have := (unhide HP6).2; have := (unhide HV6).2; have := (unhide HX6).2; have := (unhide HB6).size; omega) 2 (.int .i64 (H - n))).far (c := w3.heap.size) (by have := (unhide HP2).2; have := (unhide HV3).2; have := (unhide HP3).2; have := (unhide HP6).2; have := (unhide HV6).2; have := (unhide HX6).2; have := (unhide HB6).size; omega) 3 (.int .i64 x)).later (by (repeat' (first | exact Below.refl _ _ | refine Below.alloc ?_ ?_ _ | refine Below.setCell ?_ ?_ _ | refine Below.drew ?_)); all_goals (first | exact Nat.le_refl _ | omega | (simp; done) | (simp; omega)))).later hb7)
  have HX7 : Hid (Held w7 (w3.heap.size) (n4 s r (H - n) x)) := hide (((((((unhide HX6).put 0 (.int .i64 s)).put 1 (.int .i64 r)).put 2 (.int .i64 (H - n))).put 3 (.int .i64 x)).later (by (repeat' (first | exact Below.refl _ _ | refine Below.alloc ?_ ?_ _ | refine Below.setCell ?_ ?_ _ | refine Below.drew ?_)); all_goals (first | exact Nat.le_refl _ | omega | (simp; done) | (simp; omega)))).later hb7)
  have HB7 := hide (show Below w.heap.size w w7 from (by have := (unhide HP2).2; have := (unhide HV3).2; have := (unhide HP3).2; have := (unhide HP6).2; have := (unhide HV6).2; have := (unhide HX6).2; have := (unhide HB6).size; exact Below.trans (by (repeat' (first | exact Below.refl _ _ | refine Below.alloc ?_ ?_ _ | refine Below.setCell ?_ ?_ _ | refine Below.drew ?_ | refine Below.trans ?_ (Below.mono (unhide HB6) ?_))); all_goals (first | exact Nat.le_refl _ | omega | (simp; done) | (simp; omega))) (hb7.mono (by first | omega | (simp; done) | (simp; omega)))))
  clear hb7
  obtain ⟨v0, v1, v2, v3⟩ := (unhide HV7).c4.1
  have vl := (unhide HV7).2
  obtain ⟨x0, x1, x2, x3⟩ := (unhide HX7).c4.1
  have xl := (unhide HX7).2
  go_wp2
  go_ret
  exact ⟨rfl, (by have := (unhide HP2).2; have := (unhide HV3).2; have := (unhide HP3).2; have := (unhide HP6).2; have := (unhide HV6).2; have := (unhide HX6).2; have := (unhide HB7).size; exact (by (repeat' (first | exact Below.refl _ _ | refine Below.alloc ?_ ?_ _ | refine Below.setCell ?_ ?_ _ | refine Below.drew ?_ | refine Below.trans ?_ (Below.mono (unhide HB7) ?_))); all_goals (first | exact Nat.le_refl _ | omega | (simp; done) | (simp; omega))))⟩


theorem walk (s r h t x n : Int) (w : World) (_w0_0 : (Lit.int .i64 s).wf = true) (_w0_1 : (Lit.int .i64 r).wf = true) (_w0_2 : (Lit.int .i64 h).wf = true) (_w0_3 : (Lit.int .i64 t).wf = true) (_w1 : (Lit.int .i64 x).wf = true) (_w2 : (Lit.int .i64 n).wf = true) (hg : ErrType w) :
    Calls Tryd.prog 4 #[.agg #[.int .i64 s, .int .i64 r, .int .i64 h, .int .i64 t], .int .i64 x, .int .i64 n] w fun e w' => e = .returned (.bool true) ∧ Below w.heap.size w w' := by
  have CB := hide (fun w => rbucket_any s r h t w)
  have CC := hide (fun w => bcheck_any s r h t w)
  have CR := hide (fun w => rat_any s r h t x w)
  have CA := hide (fun w => bat_any s r h t x w)
  have CT := hide (fun w => btake_any s r h t x n w)
  by_cases e : BucketM.atErr s r h t x = 0
  · rw [e, BucketM.told_zero rfl, BucketM.told_zero rfl, BucketM.told_zero rfl, BucketM.told_zero rfl] at CR CA
    by_cases h0 : n < 0
    · rw [BucketM.take_range e (.inl h0), BucketM.told_pos (by omega), BucketM.told_pos (by omega), BucketM.told_pos (by omega), BucketM.told_pos (by omega)] at CT
      exact walk_low s r h t x n _ _ w (hide hg) h0 CB CC CR CA CT
    · by_cases h1 : 100 < n
      · rw [BucketM.take_range e (.inr h1), BucketM.told_pos (by omega), BucketM.told_pos (by omega), BucketM.told_pos (by omega), BucketM.told_pos (by omega)] at CT
        exact walk_high s r h t x n _ _ w (hide hg) (by omega) h1 CB CC CR CA CT
      · by_cases h2 : BucketM.has s r h t x < n
        · rw [BucketM.take_full e (by omega) h2, BucketM.told_pos (by omega), BucketM.told_pos (by omega), BucketM.told_pos (by omega), BucketM.told_pos (by omega)] at CT
          exact walk_full s r h t x n _ _ w (hide hg) (by omega) (by omega) h2 CB CC CR CA CT
        · have q := BucketM.at_right e
          have := q.h1
          have := q.s1
          rw [BucketM.take_good e (by omega) (by omega), BucketM.told_zero rfl, BucketM.told_zero rfl, BucketM.told_zero rfl, BucketM.told_zero rfl] at CT
          exact walk_good s r h t x n _ _ w (hide hg) (by omega) (by omega) (by omega) (by omega) CB CC CR CA CT
  · rw [BucketM.told_pos e, BucketM.told_pos e, BucketM.told_pos e, BucketM.told_pos e] at CR CA
    rw [BucketM.take_bad n e, BucketM.told_pos e, BucketM.told_pos e, BucketM.told_pos e, BucketM.told_pos e] at CT
    exact walk_bad s r h t x n _ _ w (hide hg) e CB CC CR CA CT


theorem gErr : Tryd.prog.globalNamed "errors.errorType" = some 0 := by kernel_rfl
theorem rtErr : (Tryd.prog.cutTypes.find? (·.1 == "internal/reflectlite.rtype")).map (·.2) = some 62 := by kernel_rfl
theorem oneRow : ((List.range 105).filter fun t => Tryd.prog.rowNamed t [101, 114, 114, 111, 114]) = [25] := by kernel_rfl
theorem sizeT : Tryd.prog.types.size = 105 := by kernel_rfl
theorem handle_of_laid {W : World} (h : laidMetH Tryd.prog Rows.bucketTellsRow.laid W) : ErrType W := by
  have h' : laidMet Tryd.prog [] W ∧ handlesMet Tryd.prog Rows.bucketTellsRow.laid W := h
  obtain ⟨name, u, ty, e1, e2, e3, e4, e5⟩ := h'.2 _ (List.mem_singleton.2 rfl)
  have en : name = [101, 114, 114, 111, 114] := (Option.some.inj e1).symm
  subst en
  obtain rfl := Option.some.inj (rtErr.symm.trans e2)
  have hm : ty ∈ (List.range 105).filter fun t => Tryd.prog.rowNamed t [101, 114, 114, 111, 114] := List.mem_filter.2 ⟨List.mem_range.2 (by rw [← sizeT]; exact e3), e4⟩
  rw [oneRow] at hm
  obtain rfl := List.mem_singleton.1 hm
  have hh : typeHandle Tryd.prog 25 = .pointer (some ⟨1, 25, none⟩) := by kernel_rfl
  rw [hh] at e5
  unfold ErrType
  simpa using World.var?_cell gErr e5 0
theorem door_met (os : Os) (args : Array Value) : laidMetH Tryd.prog Rows.bucketTellsRow.laid ((World.doorLaid Tryd.prog 400 os).forCall (fun _ _ => 0) ⟨#[], args, []⟩).memory :=
  laidMetH_of_parts (laidMet_nil _ _) (by kernel_rfl)


set_option maxRecDepth 100000 in
theorem lifted (os : Os) (started : os.Started) (H : Type) (enc : TypeId × Value → H) :
    ReturnsInHanded {} Tryd.checked os 4 .any (fun w args => (Rows.bucketTellsSpec.pre enc Tryd.prog Tryd.f4 [] false w args ∧ laidMetH Tryd.prog Rows.bucketTellsRow.laid w) ∧ sizedMet enc Tryd.prog Tryd.f4 (OpenSpec.ofChange Rows.bucketTellsSpec) false w args) (Rows.bucketTellsSpec.post enc Tryd.prog Tryd.f4 false true false false) := by
  refine returnsInHanded_of_change_and (C := Tryd.checked) (X := fun w _ => laidMetH Tryd.prog Rows.bucketTellsRow.laid w) (fun _ _ _ hh h => h.of_heap hh) own started (by kernel_rfl) Tryd.func4
    (ChangeSpec.witness_shaped (enc := enc) (C := Tryd.checked) (os := os) (X := fun w _ => laidMetH Tryd.prog Rows.bucketTellsRow.laid w) false (World.doorLaid Tryd.prog 400 os) #[.agg #[.int .i64 0, .int .i64 0, .int .i64 0, .int .i64 0], .int .i64 0, .int .i64 0] 8 rfl (World.shaped_of_RefB (by kernel_rfl) (by kernel_rfl)) (by kernel_rfl) (by kernel_rfl) (by kernel_rfl) (door_met os _)) ?_
  intro W base args ds gs before hval0 hW _ hsz hL _
  have hg := handle_of_laid hL
  have hval : ∀ (j : Nat) t v, Tryd.f4.params[j]? = some t → args[j]? = some v → Value.okWide Tryd.prog W .any base t v := hval0
  have hW' := hW
  obtain ⟨p, q, hA0, hV, rfl, hfz, hnd⟩ := hW
  have hA : DataW.TrodAll enc Tryd.prog W 0 (fun _ => true) true Tryd.f4.params.toList args.toList ds p := hA0
  rw [Tryd.params4] at hA hval
  obtain ⟨v0, vs0, d0, ds0, p0, q0, hargs, rfl, rfl, h0, r0⟩ := trodAll_cons hA
  obtain ⟨v1, vs1, d1, ds1, p1, q1, rfl, rfl, rfl, h1, r1⟩ := trodAll_cons r0
  obtain ⟨v2, vs2, d2, ds2, p2, q2, rfl, rfl, rfl, h2, r2⟩ := trodAll_cons r1
  obtain ⟨rfl, rfl, rfl⟩ := trodAll_nil r2
  obtain rfl : args = #[v0, v1, v2] := by cases args; simp_all
  obtain ⟨rfl, rfl⟩ := trodVars_none hV
  have k0 := h0
  have lt0 : ∀ x ∈ p0, x.block < W.heap.size := by obtain ⟨m, hm⟩ := k0; exact DataW.trod_lt m _ _ _ hm
  obtain ⟨c0_0, c0_1, c0_2, c0_3, y0_0, y0_1, y0_2, y0_3, m0, rfl, rfl, rfl, g0_0, g0_1, g0_2, g0_3⟩ := open_agg4 Tryd.underlying32 (by kernel_rfl) (by kernel_rfl) (hval 0 32 v0 rfl rfl) h0
  obtain ⟨a0_0, e0_0, rfl, w0_0⟩ := DataW.trod_int Tryd.underlying3 g0_0
  simp at e0_0; subst e0_0
  obtain ⟨a0_1, e0_1, rfl, w0_1⟩ := DataW.trod_int Tryd.underlying3 g0_1
  simp at e0_1; subst e0_1
  obtain ⟨a0_2, e0_2, rfl, w0_2⟩ := DataW.trod_int Tryd.underlying3 g0_2
  simp at e0_2; subst e0_2
  obtain ⟨a0_3, e0_3, rfl, w0_3⟩ := DataW.trod_int Tryd.underlying3 g0_3
  simp at e0_3; subst e0_3
  have k1 := h1
  have lt1 : ∀ x ∈ p1, x.block < W.heap.size := by obtain ⟨m, hm⟩ := k1; exact DataW.trod_lt m _ _ _ hm
  obtain ⟨a1, rfl, rfl, rfl, w1⟩ := open_int Tryd.underlying3 (hval 1 3 v1 rfl rfl) h1
  have k2 := h2
  have lt2 : ∀ x ∈ p2, x.block < W.heap.size := by obtain ⟨m, hm⟩ := k2; exact DataW.trod_lt m _ _ _ hm
  obtain ⟨a2, rfl, rfl, rfl, w2⟩ := open_int Tryd.underlying3 (hval 2 3 v2 rfl rfl) h2
  clear hA0 hval0
  refine (walk a0_0 a0_1 a0_2 a0_3 a1 a2 W w0_0 w0_1 w0_2 w0_3 w1 w2 hg).mono fun e W' ⟨he, bel⟩ => ?_
  subst he
  exact ⟨_, rfl, _, _, _, [], _, [], hW', trodAll_mk1 (shut_bool Tryd.underlying4 _), (trodAll_cons_mk (Below.trod laidOut (by kernel_rfl) (of_decide_eq_true (by kernel_rfl)) k0 bel lt0) (trodAll_cons_mk (Below.trod laidOut (by kernel_rfl) (of_decide_eq_true (by kernel_rfl)) k1 bel lt1) (trodAll_cons_mk (Below.trod laidOut (by kernel_rfl) (of_decide_eq_true (by kernel_rfl)) k2 bel lt2) trodAll_mk0))), rfl, bel.frame _, fun h => by cases h⟩

theorem over : Rows.bucketTellsRow.holds Tryd.pinned (OpenSpec.ofChange Rows.bucketTellsSpec) :=
  OpenClaim.holds_of_wide 4 Tryd.f4 rfl rfl rfl rfl rfl rfl rfl ⟨rfl, rfl, rfl, rfl, rfl⟩ rfl rfl rfl rfl rfl (by kernel_rfl) Tryd.func4 (by kernel_rfl)
    (of_decide_eq_true (by kernel_rfl)) (by unfold Func.isWrapper; first | (rw [if_pos (by decide +kernel)]; kernel_rfl) | (rw [if_neg (by decide +kernel)]; exact ⟨rfl, rfl⟩))
    (fun os started H enc _ => lifted os started H enc)

theorem card : Rows.BucketTellsCardSaid :=
  Claim7.holds_tied_plain_at .later [] [.handle] true (true, "8a0e0562fd47086b9327af30ce7697c96e2eb9a76cfc214af9c4ff5bbde10252") true
    over (fun _ h => by cases h) (by kernel_rfl) (fun _ h => by cases h) bucketTells_row_tie rfl ⟨rfl, rfl⟩ (by kernel_rfl) rfl
    (fun f fn hf hfn => by
      obtain rfl : f = 4 := Option.some.inj ((show Tryd.prog.funcNamed "tokenfold/foldlaw1.BucketTells" = some 4 by kernel_rfl).symm.trans hf) |>.symm
      obtain rfl : fn = Tryd.f4 := (Option.some.inj (Tryd.func4.symm.trans hfn)).symm
      exact ⟨by kernel_rfl, fun j t ht => by
        rw [Tryd.params4] at ht
        have hm : t ∈ [32, 3, 3] := by simpa using Array.mem_of_getElem? ht
        have hall : ([32, 3, 3].all fun u => !Tryd.prog.wantsStandIn u) = true := by kernel_rfl
        exact (show Tryd.prog.wantsStandIn t = false by simpa using List.all_eq_true.1 hall t hm)⟩)
    (by kernel_rfl)

end Go.Proofs.YtgmbbbdeoldfcadDoor.bucketTells
namespace Go.Proofs.YtgmbbbdeoldfcadDoor
theorem bucketTells_holds : Rows.BucketTellsCardSaid := bucketTells.card
#print axioms bucketTells_holds
end Go.Proofs.YtgmbbbdeoldfcadDoor

