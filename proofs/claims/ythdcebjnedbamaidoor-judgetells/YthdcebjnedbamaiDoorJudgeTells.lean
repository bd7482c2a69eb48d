/-
  JudgeTells holds for every ring, every hello, any that wait, every time and every life: Old and Answer of package judge tell what the reference reckons, errors told by plain.Told. The listed variable errors.errorType starts as the program's text lays it (the card's tie). No other condition.
-/
import Derived.Test.YthdcebjnedbamaiDoorJudgeWalks
import Derived.Test.YthdcebjnedbamaiDoorHello
import Derived.Test.YthdcebjnedbamaiDoorTie
import Derived.Test.YthdcebjnedbamaiDoorCards
import Derived.ProofKit
import Derived.Lib.SmallJoins
import Derived.LaidMore
import Derived.LaidHandle
import Derived.LaidLaws
import Derived.Stop.Joined
import Derived.SevenTiedAt
namespace Go.Proofs.YthdcebjnedbamaiDoor.judgeTells
open Go.ChangeShapes Go.WideShapes Go.ChangeAt Go.RowKit Go.Joins
set_option linter.unusedVariables false

theorem own : ownKnob Tryd.prog.godebug = none := by kernel_rfl
theorem laidOut : laidOutB Tryd.prog = true := by kernel_rfl
def IsRow (k : IntKind) (w : World) (a : Option Addr) (len cap : Nat) (zs : List Int) : Prop :=
  (a = none ∧ len = 0 ∧ cap = 0 ∧ zs = []) ∨
  ∃ x, a = some x ∧ len ≤ cap ∧ cap ≤ maxLen ∧ zs.length = cap ∧ (∀ i, i < zs.length → w.cell? (x.add i) = some (.int k (zs.getD i 0))) ∧ ∀ n ∈ zs, (Lit.int k n).wf = true
def IsStrs (w : World) (a : Option Addr) (len cap : Nat) (zs : List ByteArray) : Prop :=
  (a = none ∧ len = 0 ∧ cap = 0 ∧ zs = []) ∨
  ∃ x, a = some x ∧ len ≤ cap ∧ cap ≤ maxLen ∧ zs.length = cap ∧ (∀ i, i < zs.length → w.cell? (x.add i) = some (.string (zs.getD i ByteArray.empty))) ∧ ∀ s ∈ zs, s.size ≤ maxLen
def IsPairs (w : World) (a : Option Addr) (len cap : Nat) (zs : List (Int × Int)) : Prop :=
  (a = none ∧ len = 0 ∧ cap = 0 ∧ zs = []) ∨
  ∃ x, a = some x ∧ len ≤ cap ∧ cap ≤ maxLen ∧ zs.length = cap ∧ ∀ i, i < cap → w.cell? (x.add (i * 2)) = some (.int .i64 (zs.getD i (0, 0)).1) ∧ w.cell? (x.add (i * 2 + 1)) = some (.int .i64 (zs.getD i (0, 0)).2)
def IsRows (w : World) (a : Option Addr) (len cap : Nat) (A : Nat → Option Addr) (L C : Nat → Nat) (Z : Nat → List Int) : Prop :=
  (a = none ∧ len = 0 ∧ cap = 0) ∨
  ∃ x, a = some x ∧ len ≤ cap ∧ cap ≤ maxLen ∧ ∀ r, r < cap → w.cell? (x.add r) = some (.slice (A r) (L r) (C r)) ∧ L r ≤ C r ∧ C r ≤ maxLen ∧ (Z r).length = C r ∧ (∀ n ∈ Z r, (Lit.int .i64 n).wf = true) ∧ (A r = none → C r = 0) ∧
    ∀ a', A r = some a' → ∀ c, c < C r → w.cell? (a'.add c) = some (.int .i64 ((Z r).getD c 0))


set_option maxHeartbeats 6400000 in
set_option maxRecDepth 8000 in
theorem tells_ring (ep key old a te ta tt tg ke kn ku kg : Int) (s : ByteArray) (n now life : Int) (x F E : Int) (m q : Bool) (w : World) (HG : Hid (ErrType w)) (hE : ¬ E = 0) (DR : Hid (∀ w : World, Calls Tryd.prog 16 #[.agg #[.int .i64 ep, .int .i64 key, .int .i64 old]] w fun e w' => e = .returned (.int .i64 E) ∧ Below w.heap.size w w')) (DT : Hid (∀ w : World, Calls Tryd.prog 17 #[.int .i64 now] w fun e w' => e = .returned (.bool q) ∧ w' = w)) (CO : Hid (∀ w : World, Calls Tryd.prog 19 #[.agg #[.int .i64 ep, .int .i64 key, .int .i64 old], .agg #[.int .i64 ke, .int .i64 kn, .int .i64 ku, .int .i64 kg], .int .i64 now] w fun e w' => e = .returned (.tuple #[.bool false, errV E]) ∧ Below w.heap.size w w')) (DA : Hid (∀ w : World, Calls Tryd.prog 20 #[.agg #[.int .i64 ep, .int .i64 key, .int .i64 old], .agg #[.int .i64 a, .int .i64 te, .int .i64 ta, .int .i64 tt, .int .i64 tg, .int .i64 ke, .int .i64 kn, .int .i64 ku, .int .i64 kg, .string s], .int .i64 n, .int .i64 now, .int .i64 life] w fun e w' => e = .returned (.tuple #[.int .i64 x, .bool m, .int .i64 F]) ∧ Below w.heap.size w w')) (CA : Hid (∀ w : World, Calls Tryd.prog 21 #[.agg #[.int .i64 ep, .int .i64 key, .int .i64 old], .agg #[.int .i64 a, .int .i64 te, .int .i64 ta, .int .i64 tt, .int .i64 tg, .int .i64 ke, .int .i64 kn, .int .i64 ku, .int .i64 kg, .string s], .int .i64 n, .int .i64 now, .int .i64 life] w fun e w' => e = .returned (.tuple #[.int .i64 x, .bool m, errV F]) ∧ Below w.heap.size w w')) :
    Calls Tryd.prog 4 #[.agg #[.int .i64 ep, .int .i64 key, .int .i64 old], .agg #[.int .i64 a, .int .i64 te, .int .i64 ta, .int .i64 tt, .int .i64 tg, .int .i64 ke, .int .i64 kn, .int .i64 ku, .int .i64 kg, .string s], .int .i64 n, .int .i64 now, .int .i64 life] w fun e w' => e = .returned (.bool true) ∧ Below w.heap.size w w' := by
  have hE' := beq_no hE
  go_enter Tryd.func4, Tryd.ntmps4
  go_wp2_with fail
  refine (unhide DR _).mono ?_
  rintro e w1 ⟨rfl, hb1⟩
  have HR1 : Hid (Held w1 (w.heap.size) (n3 ep key old)) := hide (((Held.fresh (w := w) (n3 ep key old) 40 (by first | rfl | (simp; done))).later (by (repeat' (first | exact Below.refl _ _ | refine Below.alloc ?_ ?_ _ | refine Below.setCell ?_ ?_ _ | refine Below.drew ?_)); all_goals (first | exact Nat.le_refl _ | omega | (simp; done) | (simp; omega)))).later hb1)
  have HH1 : Hid (Held w1 (w.heap.size + 1) (nh a te ta tt tg ke kn ku kg s)) := hide (((Held.fresh (w := w.alloc (.cells (n3 ep key old).toArray 40)) (nh a te ta tt tg ke kn ku kg s) 46 (by first | rfl | (simp; done))).later (by (repeat' (first | exact Below.refl _ _ | refine Below.alloc ?_ ?_ _ | refine Below.setCell ?_ ?_ _ | refine Below.drew ?_)); all_goals (first | exact Nat.le_refl _ | omega | (simp; done) | (simp; omega)))).later hb1)
  have HB1 := hide (show Below w.heap.size w w1 from Below.trans (by (repeat' (first | exact Below.refl _ _ | refine Below.alloc ?_ ?_ _ | refine Below.setCell ?_ ?_ _ | refine Below.drew ?_)); all_goals (first | exact Nat.le_refl _ | omega | (simp; done) | (simp; omega))) (hb1.mono (by first | exact Nat.le_refl _ | (simp; done) | (simp; omega))))
  clear hb1
  go_wp2_with fail
  refine (unhide DT _).mono ?_
  rintro e w' ⟨rfl, hw⟩
  obtain rfl := hw.symm
  clear hw
  obtain ⟨r0, r1, r2⟩ := (unhide HR1).c3.1
  have rl := (unhide HR1).2
  obtain ⟨h0, h1, h2, h3, h4, h5, h6, h7, h8, h9⟩ := (unhide HH1).c10.1
  have hl := (unhide HH1).2
  go_wp2_with fail
  refine (unhide CO _).mono ?_
  rintro e w2 ⟨rfl, hb2⟩
  clear r0 r1 r2 rl h0 h1 h2 h3 h4 h5 h6 h7 h8 h9 hl
  have HR2 := hide (((unhide HR1).later (by (repeat' (first | exact Below.refl _ _ | refine Below.alloc ?_ ?_ _ | refine Below.setCell ?_ ?_ _ | refine Below.drew ?_)); all_goals (first | exact Nat.le_refl _ | omega | (simp; done) | (simp; omega)))).later hb2)
  have HH2 := hide (((unhide HH1).later (by (repeat' (first | exact Below.refl _ _ | refine Below.alloc ?_ ?_ _ | refine Below.setCell ?_ ?_ _ | refine Below.drew ?_)); all_goals (first | exact Nat.le_refl _ | omega | (simp; done) | (simp; omega)))).later hb2)
  have HB2 := hide (show Below w.heap.size w w2 from (by have := (unhide HB1).size; exact Below.trans (by (repeat' (first | exact Below.refl _ _ | refine Below.alloc ?_ ?_ _ | refine Below.setCell ?_ ?_ _ | refine Below.drew ?_ | refine Below.trans ?_ (Below.mono (unhide HB1) ?_))); all_goals (first | exact Nat.le_refl _ | omega | (simp; done) | (simp; omega))) (hb2.mono (by first | omega | (simp; done) | (simp; omega)))))
  clear hb2
  go_wp2_with fail
  refine (same_any _ _ _ ((unhide HG).later (by have := (unhide HB2).size; exact (by (repeat' (first | exact Below.refl _ _ | refine Below.alloc ?_ ?_ _ | refine Below.setCell ?_ ?_ _ | refine Below.drew ?_ | refine Below.trans ?_ (Below.mono (unhide HB2) ?_))); all_goals (first | exact Nat.le_refl _ | omega | (simp; done) | (simp; omega)))))).mono ?_
  rintro e w3 ⟨rfl, hb3⟩
  have HR3 := hide (((unhide HR2).later (by (repeat' (first | exact Below.refl _ _ | refine Below.alloc ?_ ?_ _ | refine Below.setCell ?_ ?_ _ | refine Below.drew ?_)); all_goals (first | exact Nat.le_refl _ | omega | (simp; done) | (simp; omega)))).later hb3)
  have HH3 := hide (((unhide HH2).later (by (repeat' (first | exact Below.refl _ _ | refine Below.alloc ?_ ?_ _ | refine Below.setCell ?_ ?_ _ | refine Below.drew ?_)); all_goals (first | exact Nat.le_refl _ | omega | (simp; done) | (simp; omega)))).later hb3)
  have HB3 := hide (show Below w.heap.size w w3 from (by have := (unhide HB2).size; exact Below.trans (by (repeat' (first | exact Below.refl _ _ | refine Below.alloc ?_ ?_ _ | refine Below.setCell ?_ ?_ _ | refine Below.drew ?_ | refine Below.trans ?_ (Below.mono (unhide HB2) ?_))); all_goals (first | exact Nat.le_refl _ | omega | (simp; done) | (simp; omega))) (hb3.mono (by first | omega | (simp; done) | (simp; omega)))))
  clear hb3
  obtain ⟨r0, r1, r2⟩ := (unhide HR3).c3.1
  have rl := (unhide HR3).2
  obtain ⟨h0, h1, h2, h3, h4, h5, h6, h7, h8, h9⟩ := (unhide HH3).c10.1
  have hl := (unhide HH3).2
  go_wp2_with fail
  refine (unhide DA _).mono ?_
  rintro e w4 ⟨rfl, hb4⟩
  clear r0 r1 r2 rl h0 h1 h2 h3 h4 h5 h6 h7 h8 h9 hl
  have HR4 := hide (((unhide HR3).later (by (repeat' (first | exact Below.refl _ _ | refine Below.alloc ?_ ?_ _ | refine Below.setCell ?_ ?_ _ | refine Below.drew ?_)); all_goals (first | exact Nat.le_refl _ | omega | (simp; done) | (simp; omega)))).later hb4)
  have HH4 := hide (((unhide HH3).later (by (repeat' (first | exact Below.refl _ _ | refine Below.alloc ?_ ?_ _ | refine Below.setCell ?_ ?_ _ | refine Below.drew ?_)); all_goals (first | exact Nat.le_refl _ | omega | (simp; done) | (simp; omega)))).later hb4)
  have HB4 := hide (show Below w.heap.size w w4 from (by have := (unhide HB3).size; exact Below.trans (by (repeat' (first | exact Below.refl _ _ | refine Below.alloc ?_ ?_ _ | refine Below.setCell ?_ ?_ _ | refine Below.drew ?_ | refine Below.trans ?_ (Below.mono (unhide HB3) ?_))); all_goals (first | exact Nat.le_refl _ | omega | (simp; done) | (simp; omega))) (hb4.mono (by first | omega | (simp; done) | (simp; omega)))))
  clear hb4
  obtain ⟨r0, r1, r2⟩ := (unhide HR4).c3.1
  have rl := (unhide HR4).2
  obtain ⟨h0, h1, h2, h3, h4, h5, h6, h7, h8, h9⟩ := (unhide HH4).c10.1
  have hl := (unhide HH4).2
  go_wp2_with fail
  refine (unhide CA _).mono ?_
  rintro e w5 ⟨rfl, hb5⟩
  clear r0 r1 r2 rl h0 h1 h2 h3 h4 h5 h6 h7 h8 h9 hl
  have HR5 := hide (((unhide HR4).later (by (repeat' (first | exact Below.refl _ _ | refine Below.alloc ?_ ?_ _ | refine Below.setCell ?_ ?_ _ | refine Below.drew ?_)); all_goals (first | exact Nat.le_refl _ | omega | (simp; done) | (simp; omega)))).later hb5)
  have HH5 := hide (((unhide HH4).later (by (repeat' (first | exact Below.refl _ _ | refine Below.alloc ?_ ?_ _ | refine Below.setCell ?_ ?_ _ | refine Below.drew ?_)); all_goals (first | exact Nat.le_refl _ | omega | (simp; done) | (simp; omega)))).later hb5)
  have HB5 := hide (show Below w.heap.size w w5 from (by have := (unhide HB4).size; exact Below.trans (by (repeat' (first | exact Below.refl _ _ | refine Below.alloc ?_ ?_ _ | refine Below.setCell ?_ ?_ _ | refine Below.drew ?_ | refine Below.trans ?_ (Below.mono (unhide HB4) ?_))); all_goals (first | exact Nat.le_refl _ | omega | (simp; done) | (simp; omega))) (hb5.mono (by first | omega | (simp; done) | (simp; omega)))))
  clear hb5
  go_wp2_with fail
  refine (same_any _ _ _ ((unhide HG).later (by have := (unhide HB5).size; exact (by (repeat' (first | exact Below.refl _ _ | refine Below.alloc ?_ ?_ _ | refine Below.setCell ?_ ?_ _ | refine Below.drew ?_ | refine Below.trans ?_ (Below.mono (unhide HB5) ?_))); all_goals (first | exact Nat.le_refl _ | omega | (simp; done) | (simp; omega)))))).mono ?_
  rintro e w6 ⟨rfl, hb6⟩
  have HR6 := hide (((unhide HR5).later (by (repeat' (first | exact Below.refl _ _ | refine Below.alloc ?_ ?_ _ | refine Below.setCell ?_ ?_ _ | refine Below.drew ?_)); all_goals (first | exact Nat.le_refl _ | omega | (simp; done) | (simp; omega)))).later hb6)
  have HH6 := hide (((unhide HH5).later (by (repeat' (first | exact Below.refl _ _ | refine Below.alloc ?_ ?_ _ | refine Below.setCell ?_ ?_ _ | refine Below.drew ?_)); all_goals (first | exact Nat.le_refl _ | omega | (simp; done) | (simp; omega)))).later hb6)
  have HB6 := hide (show Below w.heap.size w w6 from (by have := (unhide HB5).size; exact Below.trans (by (repeat' (first | exact Below.refl _ _ | refine Below.alloc ?_ ?_ _ | refine Below.setCell ?_ ?_ _ | refine Below.drew ?_ | refine Below.trans ?_ (Below.mono (unhide HB5) ?_))); all_goals (first | exact Nat.le_refl _ | omega | (simp; done) | (simp; omega))) (hb6.mono (by first | omega | (simp; done) | (simp; omega)))))
  clear hb6
  simp only [beq_self_eq_true]
  go_wp2
  go_ret
  exact ⟨rfl, (by have := (unhide HB6).size; exact (by (repeat' (first | exact Below.refl _ _ | refine Below.alloc ?_ ?_ _ | refine Below.setCell ?_ ?_ _ | refine Below.drew ?_ | refine Below.trans ?_ (Below.mono (unhide HB6) ?_))); all_goals (first | exact Nat.le_refl _ | omega | (simp; done) | (simp; omega))))⟩

set_option maxHeartbeats 6400000 in
set_option maxRecDepth 8000 in
theorem tells_time (ep key old a te ta tt tg ke kn ku kg : Int) (s : ByteArray) (n now life : Int) (x F : Int) (m : Bool) (w : World) (HG : Hid (ErrType w)) (DR : Hid (∀ w : World, Calls Tryd.prog 16 #[.agg #[.int .i64 ep, .int .i64 key, .int .i64 old]] w fun e w' => e = .returned (.int .i64 0) ∧ Below w.heap.size w w')) (DT : Hid (∀ w : World, Calls Tryd.prog 17 #[.int .i64 now] w fun e w' => e = .returned (.bool false) ∧ w' = w)) (CO : Hid (∀ w : World, Calls Tryd.prog 19 #[.agg #[.int .i64 ep, .int .i64 key, .int .i64 old], .agg #[.int .i64 ke, .int .i64 kn, .int .i64 ku, .int .i64 kg], .int .i64 now] w fun e w' => e = .returned (.tuple #[.bool false, errV 1]) ∧ Below w.heap.size w w')) (DA : Hid (∀ w : World, Calls Tryd.prog 20 #[.agg #[.int .i64 ep, .int .i64 key, .int .i64 old], .agg #[.int .i64 a, .int .i64 te, .int .i64 ta, .int .i64 tt, .int .i64 tg, .int .i64 ke, .int .i64 kn, .int .i64 ku, .int .i64 kg, .string s], .int .i64 n, .int .i64 now, .int .i64 life] w fun e w' => e = .returned (.tuple #[.int .i64 x, .bool m, .int .i64 F]) ∧ Below w.heap.size w w')) (CA : Hid (∀ w : World, Calls Tryd.prog 21 #[.agg #[.int .i64 ep, .int .i64 key, .int .i64 old], .agg #[.int .i64 a, .int .i64 te, .int .i64 ta, .int .i64 tt, .int .i64 tg, .int .i64 ke, .int .i64 kn, .int .i64 ku, .int .i64 kg, .string s], .int .i64 n, .int .i64 now, .int .i64 life] w fun e w' => e = .returned (.tuple #[.int .i64 x, .bool m, errV F]) ∧ Below w.heap.size w w')) :
    Calls Tryd.prog 4 #[.agg #[.int .i64 ep, .int .i64 key, .int .i64 old], .agg #[.int .i64 a, .int .i64 te, .int .i64 ta, .int .i64 tt, .int .i64 tg, .int .i64 ke, .int .i64 kn, .int .i64 ku, .int .i64 kg, .string s], .int .i64 n, .int .i64 now, .int .i64 life] w fun e w' => e = .returned (.bool true) ∧ Below w.heap.size w w' := by
  go_enter Tryd.func4, Tryd.ntmps4
  go_wp2_with fail
  refine (unhide DR _).mono ?_
  rintro e w1 ⟨rfl, hb1⟩
  have HR1 : Hid (Held w1 (w.heap.size) (n3 ep key old)) := hide (((Held.fresh (w := w) (n3 ep key old) 40 (by first | rfl | (simp; done))).later (by (repeat' (first | exact Below.refl _ _ | refine Below.alloc ?_ ?_ _ | refine Below.setCell ?_ ?_ _ | refine Below.drew ?_)); all_goals (first | exact Nat.le_refl _ | omega | (simp; done) | (simp; omega)))).later hb1)
  have HH1 : Hid (Held w1 (w.heap.size + 1) (nh a te ta tt tg ke kn ku kg s)) := hide (((Held.fresh (w := w.alloc (.cells (n3 ep key old).toArray 40)) (nh a te ta tt tg ke kn ku kg s) 46 (by first | rfl | (simp; done))).later (by (repeat' (first | exact Below.refl _ _ | refine Below.alloc ?_ ?_ _ | refine Below.setCell ?_ ?_ _ | refine Below.drew ?_)); all_goals (first | exact Nat.le_refl _ | omega | (simp; done) | (simp; omega)))).later hb1)
  have HB1 := hide (show Below w.heap.size w w1 from Below.trans (by (repeat' (first | exact Below.refl _ _ | refine Below.alloc ?_ ?_ _ | refine Below.setCell ?_ ?_ _ | refine Below.drew ?_)); all_goals (first | exact Nat.le_refl _ | omega | (simp; done) | (simp; omega))) (hb1.mono (by first | exact Nat.le_refl _ | (simp; done) | (simp; omega))))
  clear hb1
  go_wp2_with fail
  refine (unhide DT _).mono ?_
  rintro e w' ⟨rfl, hw⟩
  obtain rfl := hw.symm
  clear hw
  obtain ⟨r0, r1, r2⟩ := (unhide HR1).c3.1
  have rl := (unhide HR1).2
  obtain ⟨h0, h1, h2, h3, h4, h5, h6, h7, h8, h9⟩ := (unhide HH1).c10.1
  have hl := (unhide HH1).2
  go_wp2_with fail
  refine (unhide CO _).mono ?_
  rintro e w2 ⟨rfl, hb2⟩
  clear r0 r1 r2 rl h0 h1 h2 h3 h4 h5 h6 h7 h8 h9 hl
  have HR2 := hide (((unhide HR1).later (by (repeat' (first | exact Below.refl _ _ | refine Below.alloc ?_ ?_ _ | refine Below.setCell ?_ ?_ _ | refine Below.drew ?_)); all_goals (first | exact Nat.le_refl _ | omega | (simp; done) | (simp; omega)))).later hb2)
  have HH2 := hide (((unhide HH1).later (by (repeat' (first | exact Below.refl _ _ | refine Below.alloc ?_ ?_ _ | refine Below.setCell ?_ ?_ _ | refine Below.drew ?_)); all_goals (first | exact Nat.le_refl _ | omega | (simp; done) | (simp; omega)))).later hb2)
  have HB2 := hide (show Below w.heap.size w w2 from (by have := (unhide HB1).size; exact Below.trans (by (repeat' (first | exact Below.refl _ _ | refine Below.alloc ?_ ?_ _ | refine Below.setCell ?_ ?_ _ | refine Below.drew ?_ | refine Below.trans ?_ (Below.mono (unhide HB1) ?_))); all_goals (first | exact Nat.le_refl _ | omega | (simp; done) | (simp; omega))) (hb2.mono (by first | omega | (simp; done) | (simp; omega)))))
  clear hb2
  go_wp2_with fail
  refine (same_any _ _ _ ((unhide HG).later (by have := (unhide HB2).size; exact (by (repeat' (first | exact Below.refl _ _ | refine Below.alloc ?_ ?_ _ | refine Below.setCell ?_ ?_ _ | refine Below.drew ?_ | refine Below.trans ?_ (Below.mono (unhide HB2) ?_))); all_goals (first | exact Nat.le_refl _ | omega | (simp; done) | (simp; omega)))))).mono ?_
  rintro e w3 ⟨rfl, hb3⟩
  have HR3 := hide (((unhide HR2).later (by (repeat' (first | exact Below.refl _ _ | refine Below.alloc ?_ ?_ _ | refine Below.setCell ?_ ?_ _ | refine Below.drew ?_)); all_goals (first | exact Nat.le_refl _ | omega | (simp; done) | (simp; omega)))).later hb3)
  have HH3 := hide (((unhide HH2).later (by (repeat' (first | exact Below.refl _ _ | refine Below.alloc ?_ ?_ _ | refine Below.setCell ?_ ?_ _ | refine Below.drew ?_)); all_goals (first | exact Nat.le_refl _ | omega | (simp; done) | (simp; omega)))).later hb3)
  have HB3 := hide (show Below w.heap.size w w3 from (by have := (unhide HB2).size; exact Below.trans (by (repeat' (first | exact Below.refl _ _ | refine Below.alloc ?_ ?_ _ | refine Below.setCell ?_ ?_ _ | refine Below.drew ?_ | refine Below.trans ?_ (Below.mono (unhide HB2) ?_))); all_goals (first | exact Nat.le_refl _ | omega | (simp; done) | (simp; omega))) (hb3.mono (by first | omega | (simp; done) | (simp; omega)))))
  clear hb3
  obtain ⟨r0, r1, r2⟩ := (unhide HR3).c3.1
  have rl := (unhide HR3).2
  obtain ⟨h0, h1, h2, h3, h4, h5, h6, h7, h8, h9⟩ := (unhide HH3).c10.1
  have hl := (unhide HH3).2
  go_wp2_with fail
  refine (unhide DA _).mono ?_
  rintro e w4 ⟨rfl, hb4⟩
  clear r0 r1 r2 rl h0 h1 h2 h3 h4 h5 h6 h7 h8 h9 hl
  have HR4 := hide (((unhide HR3).later (by (repeat' (first | exact Below.refl _ _ | refine Below.alloc ?_ ?_ _ | refine Below.setCell ?_ ?_ _ | refine Below.drew ?_)); all_goals (first | exact Nat.le_refl _ | omega | (simp; done) | (simp; omega)))).later hb4)
  have HH4 := hide (((unhide HH3).later (by (repeat' (first | exact Below.refl _ _ | refine Below.alloc ?_ ?_ _ | refine Below.setCell ?_ ?_ _ | refine Below.drew ?_)); all_goals (first | exact Nat.le_refl _ | omega | (simp; done) | (simp; omega)))).later hb4)
  have HB4 := hide (show Below w.heap.size w w4 from (by have := (unhide HB3).size; exact Below.trans (by (repeat' (first | exact Below.refl _ _ | refine Below.alloc ?_ ?_ _ | refine Below.setCell ?_ ?_ _ | refine Below.drew ?_ | refine Below.trans ?_ (Below.mono (unhide HB3) ?_))); all_goals (first | exact Nat.le_refl _ | omega | (simp; done) | (simp; omega))) (hb4.mono (by first | omega | (simp; done) | (simp; omega)))))
  clear hb4
  obtain ⟨r0, r1, r2⟩ := (unhide HR4).c3.1
  have rl := (unhide HR4).2
  obtain ⟨h0, h1, h2, h3, h4, h5, h6, h7, h8, h9⟩ := (unhide HH4).c10.1
  have hl := (unhide HH4).2
  go_wp2_with fail
  refine (unhide CA _).mono ?_
  rintro e w5 ⟨rfl, hb5⟩
  clear r0 r1 r2 rl h0 h1 h2 h3 h4 h5 h6 h7 h8 h9 hl
  have HR5 := hide (((unhide HR4).later (by (repeat' (first | exact Below.refl _ _ | refine Below.alloc ?_ ?_ _ | refine Below.setCell ?_ ?_ _ | refine Below.drew ?_)); all_goals (first | exact Nat.le_refl _ | omega | (simp; done) | (simp; omega)))).later hb5)
  have HH5 := hide (((unhide HH4).later (by (repeat' (first | exact Below.refl _ _ | refine Below.alloc ?_ ?_ _ | refine Below.setCell ?_ ?_ _ | refine Below.drew ?_)); all_goals (first | exact Nat.le_refl _ | omega | (simp; done) | (simp; omega)))).later hb5)
  have HB5 := hide (show Below w.heap.size w w5 from (by have := (unhide HB4).size; exact Below.trans (by (repeat' (first | exact Below.refl _ _ | refine Below.alloc ?_ ?_ _ | refine Below.setCell ?_ ?_ _ | refine Below.drew ?_ | refine Below.trans ?_ (Below.mono (unhide HB4) ?_))); all_goals (first | exact Nat.le_refl _ | omega | (simp; done) | (simp; omega))) (hb5.mono (by first | omega | (simp; done) | (simp; omega)))))
  clear hb5
  go_wp2_with fail
  refine (same_any _ _ _ ((unhide HG).later (by have := (unhide HB5).size; exact (by (repeat' (first | exact Below.refl _ _ | refine Below.alloc ?_ ?_ _ | refine Below.setCell ?_ ?_ _ | refine Below.drew ?_ | refine Below.trans ?_ (Below.mono (unhide HB5) ?_))); all_goals (first | exact Nat.le_refl _ | omega | (simp; done) | (simp; omega)))))).mono ?_
  rintro e w6 ⟨rfl, hb6⟩
  have HR6 := hide (((unhide HR5).later (by (repeat' (first | exact Below.refl _ _ | refine Below.alloc ?_ ?_ _ | refine Below.setCell ?_ ?_ _ | refine Below.drew ?_)); all_goals (first | exact Nat.le_refl _ | omega | (simp; done) | (simp; omega)))).later hb6)
  have HH6 := hide (((unhide HH5).later (by (repeat' (first | exact Below.refl _ _ | refine Below.alloc ?_ ?_ _ | refine Below.setCell ?_ ?_ _ | refine Below.drew ?_)); all_goals (first | exact Nat.le_refl _ | omega | (simp; done) | (simp; omega)))).later hb6)
  have HB6 := hide (show Below w.heap.size w w6 from (by have := (unhide HB5).size; exact Below.trans (by (repeat' (first | exact Below.refl _ _ | refine Below.alloc ?_ ?_ _ | refine Below.setCell ?_ ?_ _ | refine Below.drew ?_ | refine Below.trans ?_ (Below.mono (unhide HB5) ?_))); all_goals (first | exact Nat.le_refl _ | omega | (simp; done) | (simp; omega))) (hb6.mono (by first | omega | (simp; done) | (simp; omega)))))
  clear hb6
  simp only [beq_self_eq_true]
  go_wp2
  go_ret
  exact ⟨rfl, (by have := (unhide HB6).size; exact (by (repeat' (first | exact Below.refl _ _ | refine Below.alloc ?_ ?_ _ | refine Below.setCell ?_ ?_ _ | refine Below.drew ?_ | refine Below.trans ?_ (Below.mono (unhide HB6) ?_))); all_goals (first | exact Nat.le_refl _ | omega | (simp; done) | (simp; omega))))⟩

set_option maxHeartbeats 6400000 in
set_option maxRecDepth 8000 in
theorem tells_good (ep key old a te ta tt tg ke kn ku kg : Int) (s : ByteArray) (n now life : Int) (x F : Int) (m o : Bool) (w : World) (HG : Hid (ErrType w)) (DR : Hid (∀ w : World, Calls Tryd.prog 16 #[.agg #[.int .i64 ep, .int .i64 key, .int .i64 old]] w fun e w' => e = .returned (.int .i64 0) ∧ Below w.heap.size w w')) (DT : Hid (∀ w : World, Calls Tryd.prog 17 #[.int .i64 now] w fun e w' => e = .returned (.bool true) ∧ w' = w)) (DO : Hid (∀ w : World, Calls Tryd.prog 18 #[.agg #[.int .i64 ep, .int .i64 key, .int .i64 old], .agg #[.int .i64 ke, .int .i64 kn, .int .i64 ku, .int .i64 kg], .int .i64 now] w fun e w' => e = .returned (.bool o) ∧ Below w.heap.size w w')) (CO : Hid (∀ w : World, Calls Tryd.prog 19 #[.agg #[.int .i64 ep, .int .i64 key, .int .i64 old], .agg #[.int .i64 ke, .int .i64 kn, .int .i64 ku, .int .i64 kg], .int .i64 now] w fun e w' => e = .returned (.tuple #[.bool o, errV 0]) ∧ Below w.heap.size w w')) (DA : Hid (∀ w : World, Calls Tryd.prog 20 #[.agg #[.int .i64 ep, .int .i64 key, .int .i64 old], .agg #[.int .i64 a, .int .i64 te, .int .i64 ta, .int .i64 tt, .int .i64 tg, .int .i64 ke, .int .i64 kn, .int .i64 ku, .int .i64 kg, .string s], .int .i64 n, .int .i64 now, .int .i64 life] w fun e w' => e = .returned (.tuple #[.int .i64 x, .bool m, .int .i64 F]) ∧ Below w.heap.size w w')) (CA : Hid (∀ w : World, Calls Tryd.prog 21 #[.agg #[.int .i64 ep, .int .i64 key, .int .i64 old], .agg #[.int .i64 a, .int .i64 te, .int .i64 ta, .int .i64 tt, .int .i64 tg, .int .i64 ke, .int .i64 kn, .int .i64 ku, .int .i64 kg, .string s], .int .i64 n, .int .i64 now, .int .i64 life] w fun e w' => e = .returned (.tuple #[.int .i64 x, .bool m, errV F]) ∧ Below w.heap.size w w')) :
    Calls Tryd.prog 4 #[.agg #[.int .i64 ep, .int .i64 key, .int .i64 old], .agg #[.int .i64 a, .int .i64 te, .int .i64 ta, .int .i64 tt, .int .i64 tg, .int .i64 ke, .int .i64 kn, .int .i64 ku, .int .i64 kg, .string s], .int .i64 n, .int .i64 now, .int .i64 life] w fun e w' => e = .returned (.bool true) ∧ Below w.heap.size w w' := by
  go_enter Tryd.func4, Tryd.ntmps4
  go_wp2_with fail
  refine (unhide DR _).mono ?_
  rintro e w1 ⟨rfl, hb1⟩
  have HR1 : Hid (Held w1 (w.heap.size) (n3 ep key old)) := hide (((Held.fresh (w := w) (n3 ep key old) 40 (by first | rfl | (simp; done))).later (by (repeat' (first | exact Below.refl _ _ | refine Below.alloc ?_ ?_ _ | refine Below.setCell ?_ ?_ _ | refine Below.drew ?_)); all_goals (first | exact Nat.le_refl _ | omega | (simp; done) | (simp; omega)))).later hb1)
  have HH1 : Hid (Held w1 (w.heap.size + 1) (nh a te ta tt tg ke kn ku kg s)) := hide (((Held.fresh (w := w.alloc (.cells (n3 ep key old).toArray 40)) (nh a te ta tt tg ke kn ku kg s) 46 (by first | rfl | (simp; done))).later (by (repeat' (first | exact Below.refl _ _ | refine Below.alloc ?_ ?_ _ | refine Below.setCell ?_ ?_ _ | refine Below.drew ?_)); all_goals (first | exact Nat.le_refl _ | omega | (simp; done) | (simp; omega)))).later hb1)
  have HB1 := hide (show Below w.heap.size w w1 from Below.trans (by (repeat' (first | exact Below.refl _ _ | refine Below.alloc ?_ ?_ _ | refine Below.setCell ?_ ?_ _ | refine Below.drew ?_)); all_goals (first | exact Nat.le_refl _ | omega | (simp; done) | (simp; omega))) (hb1.mono (by first | exact Nat.le_refl _ | (simp; done) | (simp; omega))))
  clear hb1
  go_wp2_with fail
  refine (unhide DT _).mono ?_
  rintro e w' ⟨rfl, hw⟩
  obtain rfl := hw.symm
  clear hw
  obtain ⟨r0, r1, r2⟩ := (unhide HR1).c3.1
  have rl := (unhide HR1).2
  obtain ⟨h0, h1, h2, h3, h4, h5, h6, h7, h8, h9⟩ := (unhide HH1).c10.1
  have hl := (unhide HH1).2
  go_wp2_with fail
  refine (unhide DO _).mono ?_
  rintro e w2 ⟨rfl, hb2⟩
  clear r0 r1 r2 rl h0 h1 h2 h3 h4 h5 h6 h7 h8 h9 hl
  have HR2 := hide (((unhide HR1).later (by (repeat' (first | exact Below.refl _ _ | refine Below.alloc ?_ ?_ _ | refine Below.setCell ?_ ?_ _ | refine Below.drew ?_)); all_goals (first | exact Nat.le_refl _ | omega | (simp; done) | (simp; omega)))).later hb2)
  have HH2 := hide (((unhide HH1).later (by (repeat' (first | exact Below.refl _ _ | refine Below.alloc ?_ ?_ _ | refine Below.setCell ?_ ?_ _ | refine Below.drew ?_)); all_goals (first | exact Nat.le_refl _ | omega | (simp; done) | (simp; omega)))).later hb2)
  have HB2 := hide (show Below w.heap.size w w2 from (by have := (unhide HB1).size; exact Below.trans (by (repeat' (first | exact Below.refl _ _ | refine Below.alloc ?_ ?_ _ | refine Below.setCell ?_ ?_ _ | refine Below.drew ?_ | refine Below.trans ?_ (Below.mono (unhide HB1) ?_))); all_goals (first | exact Nat.le_refl _ | omega | (simp; done) | (simp; omega))) (hb2.mono (by first | omega | (simp; done) | (simp; omega)))))
  clear hb2
  obtain ⟨r0, r1, r2⟩ := (unhide HR2).c3.1
  have rl := (unhide HR2).2
  obtain ⟨h0, h1, h2, h3, h4, h5, h6, h7, h8, h9⟩ := (unhide HH2).c10.1
  have hl := (unhide HH2).2
  go_wp2_with fail
  refine (unhide CO _).mono ?_
  rintro e w3 ⟨rfl, hb3⟩
  clear r0 r1 r2 rl h0 h1 h2 h3 h4 h5 h6 h7 h8 h9 hl
  have HR3 := hide (((unhide HR2).later (by (repeat' (first | exact Below.refl _ _ | refine Below.alloc ?_ ?_ _ | refine Below.setCell ?_ ?_ _ | refine Below.drew ?_)); all_goals (first | exact Nat.le_refl _ | omega | (simp; done) | (simp; omega)))).later hb3)
  have HH3 := hide (((unhide HH2).later (by (repeat' (first | exact Below.refl _ _ | refine Below.alloc ?_ ?_ _ | refine Below.setCell ?_ ?_ _ | refine Below.drew ?_)); all_goals (first | exact Nat.le_refl _ | omega | (simp; done) | (simp; omega)))).later hb3)
  have HB3 := hide (show Below w.heap.size w w3 from (by have := (unhide HB2).size; exact Below.trans (by (repeat' (first | exact Below.refl _ _ | refine Below.alloc ?_ ?_ _ | refine Below.setCell ?_ ?_ _ | refine Below.drew ?_ | refine Below.trans ?_ (Below.mono (unhide HB2) ?_))); all_goals (first | exact Nat.le_refl _ | omega | (simp; done) | (simp; omega))) (hb3.mono (by first | omega | (simp; done) | (simp; omega)))))
  clear hb3
  go_wp2_with fail
  refine (same_any _ _ _ ((unhide HG).later (by have := (unhide HB3).size; exact (by (repeat' (first | exact Below.refl _ _ | refine Below.alloc ?_ ?_ _ | refine Below.setCell ?_ ?_ _ | refine Below.drew ?_ | refine Below.trans ?_ (Below.mono (unhide HB3) ?_))); all_goals (first | exact Nat.le_refl _ | omega | (simp; done) | (simp; omega)))))).mono ?_
  rintro e w4 ⟨rfl, hb4⟩
  have HR4 := hide (((unhide HR3).later (by (repeat' (first | exact Below.refl _ _ | refine Below.alloc ?_ ?_ _ | refine Below.setCell ?_ ?_ _ | refine Below.drew ?_)); all_goals (first | exact Nat.le_refl _ | omega | (simp; done) | (simp; omega)))).later hb4)
  have HH4 := hide (((unhide HH3).later (by (repeat' (first | exact Below.refl _ _ | refine Below.alloc ?_ ?_ _ | refine Below.setCell ?_ ?_ _ | refine Below.drew ?_)); all_goals (first | exact Nat.le_refl _ | omega | (simp; done) | (simp; omega)))).later hb4)
  have HB4 := hide (show Below w.heap.size w w4 from (by have := (unhide HB3).size; exact Below.trans (by (repeat' (first | exact Below.refl _ _ | refine Below.alloc ?_ ?_ _ | refine Below.setCell ?_ ?_ _ | refine Below.drew ?_ | refine Below.trans ?_ (Below.mono (unhide HB3) ?_))); all_goals (first | exact Nat.le_refl _ | omega | (simp; done) | (simp; omega))) (hb4.mono (by first | omega | (simp; done) | (simp; omega)))))
  clear hb4
  obtain ⟨r0, r1, r2⟩ := (unhide HR4).c3.1
  have rl := (unhide HR4).2
  obtain ⟨h0, h1, h2, h3, h4, h5, h6, h7, h8, h9⟩ := (unhide HH4).c10.1
  have hl := (unhide HH4).2
  go_wp2_with fail
  refine (unhide DA _).mono ?_
  rintro e w5 ⟨rfl, hb5⟩
  clear r0 r1 r2 rl h0 h1 h2 h3 h4 h5 h6 h7 h8 h9 hl
  have HR5 := hide (((unhide HR4).later (by (repeat' (first | exact Below.refl _ _ | refine Below.alloc ?_ ?_ _ | refine Below.setCell ?_ ?_ _ | refine Below.drew ?_)); all_goals (first | exact Nat.le_refl _ | omega | (simp; done) | (simp; omega)))).later hb5)
  have HH5 := hide (((unhide HH4).later (by (repeat' (first | exact Below.refl _ _ | refine Below.alloc ?_ ?_ _ | refine Below.setCell ?_ ?_ _ | refine Below.drew ?_)); all_goals (first | exact Nat.le_refl _ | omega | (simp; done) | (simp; omega)))).later hb5)
  have HB5 := hide (show Below w.heap.size w w5 from (by have := (unhide HB4).size; exact Below.trans (by (repeat' (first | exact Below.refl _ _ | refine Below.alloc ?_ ?_ _ | refine Below.setCell ?_ ?_ _ | refine Below.drew ?_ | refine Below.trans ?_ (Below.mono (unhide HB4) ?_))); all_goals (first | exact Nat.le_refl _ | omega | (simp; done) | (simp; omega))) (hb5.mono (by first | omega | (simp; done) | (simp; omega)))))
  clear hb5
  obtain ⟨r0, r1, r2⟩ := (unhide HR5).c3.1
  have rl := (unhide HR5).2
  obtain ⟨h0, h1, h2, h3, h4, h5, h6, h7, h8, h9⟩ := (unhide HH5).c10.1
  have hl := (unhide HH5).2
  go_wp2_with fail
  refine (unhide CA _).mono ?_
  rintro e w6 ⟨rfl, hb6⟩
  clear r0 r1 r2 rl h0 h1 h2 h3 h4 h5 h6 h7 h8 h9 hl
  have HR6 := hide (((unhide HR5).later (by (repeat' (first | exact Below.refl _ _ | refine Below.alloc ?_ ?_ _ | refine Below.setCell ?_ ?_ _ | refine Below.drew ?_)); all_goals (first | exact Nat.le_refl _ | omega | (simp; done) | (simp; omega)))).later hb6)
  have HH6 := hide (((unhide HH5).later (by (repeat' (first | exact Below.refl _ _ | refine Below.alloc ?_ ?_ _ | refine Below.setCell ?_ ?_ _ | refine Below.drew ?_)); all_goals (first | exact Nat.le_refl _ | omega | (simp; done) | (simp; omega)))).later hb6)
  have HB6 := hide (show Below w.heap.size w w6 from (by have := (unhide HB5).size; exact Below.trans (by (repeat' (first | exact Below.refl _ _ | refine Below.alloc ?_ ?_ _ | refine Below.setCell ?_ ?_ _ | refine Below.drew ?_ | refine Below.trans ?_ (Below.mono (unhide HB5) ?_))); all_goals (first | exact Nat.le_refl _ | omega | (simp; done) | (simp; omega))) (hb6.mono (by first | omega | (simp; done) | (simp; omega)))))
  clear hb6
  go_wp2_with fail
  refine (same_any _ _ _ ((unhide HG).later (by have := (unhide HB6).size; exact (by (repeat' (first | exact Below.refl _ _ | refine Below.alloc ?_ ?_ _ | refine Below.setCell ?_ ?_ _ | refine Below.drew ?_ | refine Below.trans ?_ (Below.mono (unhide HB6) ?_))); all_goals (first | exact Nat.le_refl _ | omega | (simp; done) | (simp; omega)))))).mono ?_
  rintro e w7 ⟨rfl, hb7⟩
  have HR7 := hide (((unhide HR6).later (by (repeat' (first | exact Below.refl _ _ | refine Below.alloc ?_ ?_ _ | refine Below.setCell ?_ ?_ _ | refine Below.drew ?_)); all_goals (first | exact Nat.le_refl _ | omega | (simp; done) | (simp; omega)))).later hb7)
  have HH7 := hide (((unhide HH6).later (by (repeat' (first | exact Below.refl _ _ | refine Below.alloc ?_ ?_ _ | refine Below.setCell ?_ ?_ _ | refine Below.drew ?_)); all_goals (first | exact Nat.le_refl _ | omega | (simp; done) | (simp; omega)))).later hb7)
  have HB7 := hide (show Below w.heap.size w w7 from (by have := (unhide HB6).size; exact Below.trans (by (repeat' (first | exact Below.refl _ _ | refine Below.alloc ?_ ?_ _ | refine Below.setCell ?_ ?_ _ | refine Below.drew ?_ | refine Below.trans ?_ (Below.mono (unhide HB6) ?_))); all_goals (first | exact Nat.le_refl _ | omega | (simp; done) | (simp; omega))) (hb7.mono (by first | omega | (simp; done) | (simp; omega)))))
  clear hb7
  simp only [beq_self_eq_true]
  go_wp2
  go_ret
  exact ⟨rfl, (by have := (unhide HB7).size; exact (by (repeat' (first | exact Below.refl _ _ | refine Below.alloc ?_ ?_ _ | refine Below.setCell ?_ ?_ _ | refine Below.drew ?_ | refine Below.trans ?_ (Below.mono (unhide HB7) ?_))); all_goals (first | exact Nat.le_refl _ | omega | (simp; done) | (simp; omega))))⟩


theorem walk (ep key old a te ta tt tg ke kn ku kg : Int) (s : ByteArray) (n now life : Int) (w : World) (_f0 : (Lit.int .i64 ep).wf = true) (_f1 : (Lit.int .i64 key).wf = true) (_f2 : (Lit.int .i64 old).wf = true) (_f3 : (Lit.int .i64 a).wf = true) (_f4 : (Lit.int .i64 te).wf = true) (_f5 : (Lit.int .i64 ta).wf = true) (_f6 : (Lit.int .i64 tt).wf = true) (_f7 : (Lit.int .i64 tg).wf = true) (_f8 : (Lit.int .i64 ke).wf = true) (_f9 : (Lit.int .i64 kn).wf = true) (_f10 : (Lit.int .i64 ku).wf = true) (_f11 : (Lit.int .i64 kg).wf = true) (_x : s.size ≤ maxLen) (_g0 : (Lit.int .i64 n).wf = true) (_g1 : (Lit.int .i64 now).wf = true) (_g2 : (Lit.int .i64 life).wf = true) (hg : ErrType w) :
    Calls Tryd.prog 4 #[.agg #[.int .i64 ep, .int .i64 key, .int .i64 old], .agg #[.int .i64 a, .int .i64 te, .int .i64 ta, .int .i64 tt, .int .i64 tg, .int .i64 ke, .int .i64 kn, .int .i64 ku, .int .i64 kg, .string s], .int .i64 n, .int .i64 now, .int .i64 life] w fun e w' => e = .returned (.bool true) ∧ Below w.heap.size w w' := by
  have HG := hide hg
  have DR := hide (ref_ring ep key old)
  have DT := hide (rtime_any now)
  have CO := hide (jold_any ep key old ke kn ku kg now)
  have DA := hide (r2ans_any ep key old a te ta tt tg ke kn ku kg s n now life)
  have CA := hide (jans_any ep key old a te ta tt tg ke kn ku kg s n now life)
  by_cases he : RingM.err ep key old = 0
  · rw [he] at DR
    by_cases ht : TokenM.timeB now = true
    · have h0 := JudgeM.old_zero.2 ⟨he, ht⟩
      rw [JudgeM.oldB_yes h0, h0] at CO
      rw [ht] at DT
      exact tells_good ep key old a te ta tt tg ke kn ku kg s n now life _ _ _ _ w HG DR DT (hide (r2old_any ep key old ke kn ku kg now)) CO DA CA
    · have ht' : TokenM.timeB now = false := by simpa using ht
      have h1 : JudgeM.oldErr ep key old now = 1 := by unfold JudgeM.oldErr; rw [if_pos he, if_neg ht]
      rw [JudgeM.oldB_no (by rw [h1]; omega), h1] at CO
      rw [ht'] at DT
      exact tells_time ep key old a te ta tt tg ke kn ku kg s n now life _ _ _ w HG DR DT CO DA CA
  · have h1 : JudgeM.oldErr ep key old now = RingM.err ep key old := by unfold JudgeM.oldErr; rw [if_neg he]
    rw [JudgeM.oldB_no (by rw [h1]; exact he), h1] at CO
    exact tells_ring ep key old a te ta tt tg ke kn ku kg s n now life _ _ _ _ _ w HG he DR DT CO DA CA


theorem gErr : Tryd.prog.globalNamed "errors.errorType" = some 0 := by kernel_rfl
theorem rtErr : (Tryd.prog.cutTypes.find? (·.1 == "internal/reflectlite.rtype")).map (·.2) = some 115 := by kernel_rfl
theorem oneRow : ((List.range 158).filter fun t => Tryd.prog.rowNamed t [101, 114, 114, 111, 114]) = [32] := by kernel_rfl
theorem sizeT : Tryd.prog.types.size = 158 := by kernel_rfl
theorem handle_of_laid {W : World} (h : laidMetH Tryd.prog Rows.judgeTellsRow.laid W) : ErrType W := by
  have h' : laidMet Tryd.prog [] W ∧ handlesMet Tryd.prog Rows.judgeTellsRow.laid W := h
  obtain ⟨name, u, ty, e1, e2, e3, e4, e5⟩ := h'.2 _ (List.mem_singleton.2 rfl)
  have en : name = [101, 114, 114, 111, 114] := (Option.some.inj e1).symm
  subst en
  obtain rfl := Option.some.inj (rtErr.symm.trans e2)
  have hm : ty ∈ (List.range 158).filter fun t => Tryd.prog.rowNamed t [101, 114, 114, 111, 114] := List.mem_filter.2 ⟨List.mem_range.2 (by rw [← sizeT]; exact e3), e4⟩
  rw [oneRow] at hm
  obtain rfl := List.mem_singleton.1 hm
  have hh : typeHandle Tryd.prog 32 = .pointer (some ⟨1, 32, none⟩) := by kernel_rfl
  rw [hh] at e5
  unfold ErrType
  simpa using World.var?_cell gErr e5 0
theorem door_met (os : Os) (args : Array Value) : laidMetH Tryd.prog Rows.judgeTellsRow.laid ((World.doorLaid Tryd.prog 400 os).forCall (fun _ _ => 0) ⟨#[], args, []⟩).memory :=
  laidMetH_of_parts (laidMet_nil _ _) (by kernel_rfl)


set_option maxRecDepth 100000 in
theorem lifted (os : Os) (started : os.Started) (H : Type) (enc : TypeId × Value → H) :
    ReturnsInHanded {} Tryd.checked os 4 .any (fun w args => (Rows.judgeTellsSpec.pre enc Tryd.prog Tryd.f4 [] false w args ∧ laidMetH Tryd.prog Rows.judgeTellsRow.laid w) ∧ sizedMet enc Tryd.prog Tryd.f4 (OpenSpec.ofChange Rows.judgeTellsSpec) false w args) (Rows.judgeTellsSpec.post enc Tryd.prog Tryd.f4 false true false false) := by
  refine returnsInHanded_of_change_and (C := Tryd.checked) (X := fun w _ => laidMetH Tryd.prog Rows.judgeTellsRow.laid w) (fun _ _ _ hh h => h.of_heap hh) own started (by kernel_rfl) Tryd.func4
    (ChangeSpec.witness_shaped (enc := enc) (C := Tryd.checked) (os := os) (X := fun w _ => laidMetH Tryd.prog Rows.judgeTellsRow.laid w) false (World.doorLaid Tryd.prog 400 os) #[.agg #[.int .i64 0, .int .i64 0, .int .i64 0], .agg #[.int .i64 0, .int .i64 0, .int .i64 0, .int .i64 0, .int .i64 0, .int .i64 0, .int .i64 0, .int .i64 0, .int .i64 0, .string ByteArray.empty], .int .i64 0, .int .i64 0, .int .i64 0] 8 rfl (World.shaped_of_RefB (by kernel_rfl) (by kernel_rfl)) (by kernel_rfl) (by kernel_rfl) (by kernel_rfl) (door_met os _)) ?_
  intro W base args ds gs before hval0 hW _ hsz hL _
  have hg := handle_of_laid hL
  have hval : ∀ (j : Nat) t v, Tryd.f4.params[j]? = some t → args[j]? = some v → Value.okWide Tryd.prog W .any base t v := hval0
  have hW' := hW
  obtain ⟨p, q, hA0, hV, rfl, hfz, hnd⟩ := hW
  have hA : DataW.TrodAll enc Tryd.prog W 0 (fun _ => true) true Tryd.f4.params.toList args.toList ds p := hA0
  rw [Tryd.params4] at hA hval
  obtain ⟨v0, vs0, d0, ds0, p0, q0, hargs, rfl, rfl, h0, r0⟩ := trodAll_cons hA
  obtain ⟨v1, vs1, d1, ds1, p1, q1, rfl, rfl, rfl, h1, r1⟩ := trodAll_cons r0
  obtain ⟨v2, vs2, d2, ds2, p2, q2, rfl, rfl, rfl, h2, r2⟩ := trodAll_cons r1
  obtain ⟨v3, vs3, d3, ds3, p3, q3, rfl, rfl, rfl, h3, r3⟩ := trodAll_cons r2
  obtain ⟨v4, vs4, d4, ds4, p4, q4, rfl, rfl, rfl, h4, r4⟩ := trodAll_cons r3
  obtain ⟨rfl, rfl, rfl⟩ := trodAll_nil r4
  obtain rfl : args = #[v0, v1, v2, v3, v4] := by cases args; simp_all
  obtain ⟨rfl, rfl⟩ := trodVars_none hV
  have k0 := h0
  have lt0 : ∀ x ∈ p0, x.block < W.heap.size := by obtain ⟨m, hm⟩ := k0; exact DataW.trod_lt m _ _ _ hm
  obtain ⟨c0_0, c0_1, c0_2, y0_0, y0_1, y0_2, m0, rfl, rfl, rfl, g0_0, g0_1, g0_2⟩ := open_agg3 Tryd.underlying40 (by kernel_rfl) (by kernel_rfl) (hval 0 40 v0 rfl rfl) h0
  obtain ⟨a0_0, e0_0, rfl, w0_0⟩ := DataW.trod_int Tryd.underlying3 g0_0
  simp at e0_0; subst e0_0
  obtain ⟨a0_1, e0_1, rfl, w0_1⟩ := DataW.trod_int Tryd.underlying3 g0_1
  simp at e0_1; subst e0_1
  obtain ⟨a0_2, e0_2, rfl, w0_2⟩ := DataW.trod_int Tryd.underlying3 g0_2
  simp at e0_2; subst e0_2
  have k1 := h1
  have lt1 : ∀ x ∈ p1, x.block < W.heap.size := by obtain ⟨m, hm⟩ := k1; exact DataW.trod_lt m _ _ _ hm
  obtain ⟨a1_0, a1_1, a1_2, a1_3, a1_4, a1_5, a1_6, a1_7, a1_8, s1, rfl, w1_0, w1_1, w1_2, w1_3, w1_4, w1_5, w1_6, w1_7, w1_8, x1⟩ := open_hello (hval 1 46 v1 rfl rfl) h1
  have k2 := h2
  have lt2 : ∀ x ∈ p2, x.block < W.heap.size := by obtain ⟨m, hm⟩ := k2; exact DataW.trod_lt m _ _ _ hm
  obtain ⟨a2, rfl, rfl, rfl, w2⟩ := open_int Tryd.underlying3 (hval 2 3 v2 rfl rfl) h2
  have k3 := h3
  have lt3 : ∀ x ∈ p3, x.block < W.heap.size := by obtain ⟨m, hm⟩ := k3; exact DataW.trod_lt m _ _ _ hm
  obtain ⟨a3, rfl, rfl, rfl, w3⟩ := open_int Tryd.underlying3 (hval 3 3 v3 rfl rfl) h3
  have k4 := h4
  have lt4 : ∀ x ∈ p4, x.block < W.heap.size := by obtain ⟨m, hm⟩ := k4; exact DataW.trod_lt m _ _ _ hm
  obtain ⟨a4, rfl, rfl, rfl, w4⟩ := open_int Tryd.underlying3 (hval 4 3 v4 rfl rfl) h4
  clear hA0 hval0
  refine (walk a0_0 a0_1 a0_2 a1_0 a1_1 a1_2 a1_3 a1_4 a1_5 a1_6 a1_7 a1_8 s1 a2 a3 a4 W w0_0 w0_1 w0_2 w1_0 w1_1 w1_2 w1_3 w1_4 w1_5 w1_6 w1_7 w1_8 x1 w2 w3 w4 hg).mono fun e W' ⟨he, bel⟩ => ?_
  subst he
  exact ⟨_, rfl, _, _, _, [], _, [], hW', trodAll_mk1 (shut_bool Tryd.underlying4 _), (trodAll_cons_mk (Below.trod laidOut (by kernel_rfl) (of_decide_eq_true (by kernel_rfl)) k0 bel lt0) (trodAll_cons_mk (Below.trod laidOut (by kernel_rfl) (of_decide_eq_true (by kernel_rfl)) k1 bel lt1) (trodAll_cons_mk (Below.trod laidOut (by kernel_rfl) (of_decide_eq_true (by kernel_rfl)) k2 bel lt2) (trodAll_cons_mk (Below.trod laidOut (by kernel_rfl) (of_decide_eq_true (by kernel_rfl)) k3 bel lt3) (trodAll_cons_mk (Below.trod laidOut (by kernel_rfl) (of_decide_eq_true (by kernel_rfl)) k4 bel lt4) trodAll_mk0))))), rfl, bel.frame _, fun h => by cases h⟩

theorem over : Rows.judgeTellsRow.holds Tryd.pinned (OpenSpec.ofChange Rows.judgeTellsSpec) :=
  OpenClaim.holds_of_wide 4 Tryd.f4 rfl rfl rfl rfl rfl rfl rfl ⟨rfl, rfl, rfl, rfl, rfl⟩ rfl rfl rfl rfl rfl (by kernel_rfl) Tryd.func4 (by kernel_rfl)
    (of_decide_eq_true (by kernel_rfl)) (by unfold Func.isWrapper; first | (rw [if_pos (by decide +kernel)]; kernel_rfl) | (rw [if_neg (by decide +kernel)]; exact ⟨rfl, rfl⟩))
    (fun os started H enc _ => lifted os started H enc)

theorem card : Rows.JudgeTellsCardSaid :=
  Claim7.holds_tied_plain_at .later [] [.handle] true (true, "77896e915f569edf3cc9d2f720a07a0d5f7a7464bcf18ac9446db6845ffe3b40") true
    over (fun _ h => by cases h) (by kernel_rfl) (fun _ h => by cases h) judgeTells_row_tie rfl ⟨rfl, rfl⟩ (by kernel_rfl) rfl
    (fun f fn hf hfn => by
      obtain rfl : f = 4 := Option.some.inj ((show Tryd.prog.funcNamed "tokenfold/foldlaw2.JudgeTells" = some 4 by kernel_rfl).symm.trans hf) |>.symm
      obtain rfl : fn = Tryd.f4 := (Option.some.inj (Tryd.func4.symm.trans hfn)).symm
      exact ⟨by kernel_rfl, fun j t ht => by
        rw [Tryd.params4] at ht
        have hm : t ∈ [40, 46, 3, 3, 3] := by simpa using Array.mem_of_getElem? ht
        have hall : ([40, 46, 3, 3, 3].all fun u => !Tryd.prog.wantsStandIn u) = true := by kernel_rfl
        exact (show Tryd.prog.wantsStandIn t = false by simpa using List.all_eq_true.1 hall t hm)⟩)
    (by kernel_rfl)

end Go.Proofs.YthdcebjnedbamaiDoor.judgeTells
namespace Go.Proofs.YthdcebjnedbamaiDoor
theorem judgeTells_holds : Rows.JudgeTellsCardSaid := judgeTells.card
#print axioms judgeTells_holds
end Go.Proofs.YthdcebjnedbamaiDoor

