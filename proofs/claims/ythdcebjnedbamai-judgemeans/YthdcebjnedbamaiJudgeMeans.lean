/-
  JudgeMeans holds for every ring, every hello, any that wait, every time and every life: early bytes only of who is welcome and old, nobody welcome by a wrong token where one is asked for, and with a token that was told one is, where not all is full. No condition.
-/
import Derived.Test.YthdcebjnedbamaiJudgeWalks
import Derived.Test.YthdcebjnedbamaiHello
import Derived.Deep.Cut
import Derived.ProofKit
import Derived.Lib.SmallJoins
namespace Go.Proofs.Ythdcebjnedbamai.judgeMeans
open Go.ChangeShapes Go.WideShapes Go.ChangeAt Go.RowKit Go.Joins
set_option linter.unusedVariables false

theorem own : ownKnob Try.prog.godebug = none := by kernel_rfl
theorem laidOut : laidOutB Try.prog = true := by kernel_rfl
def IsRow (k : IntKind) (w : World) (a : Option Addr) (len cap : Nat) (zs : List Int) : Prop :=
  (a = none ∧ len = 0 ∧ cap = 0 ∧ zs = []) ∨
  ∃ x, a = some x ∧ len ≤ cap ∧ cap ≤ maxLen ∧ zs.length = cap ∧ (∀ i, i < zs.length → w.cell? (x.add i) = some (.int k (zs.getD i 0))) ∧ ∀ n ∈ zs, (Lit.int k n).wf = true
def IsStrs (w : World) (a : Option Addr) (len cap : Nat) (zs : List ByteArray) : Prop :=
  (a = none ∧ len = 0 ∧ cap = 0 ∧ zs = []) ∨
  ∃ x, a = some x ∧ len ≤ cap ∧ cap ≤ maxLen ∧ zs.length = cap ∧ (∀ i, i < zs.length → w.cell? (x.add i) = some (.string (zs.getD i ByteArray.empty))) ∧ ∀ s ∈ zs, s.size ≤ maxLen
def IsPairs (w : World) (a : Option Addr) (len cap : Nat) (zs : List (Int × Int)) : Prop :=
  (a = none ∧ len = 0 ∧ cap = 0 ∧ zs = []) ∨
  ∃ x, a = some x ∧ len ≤ cap ∧ cap ≤ maxLen ∧ zs.length = cap ∧ ∀ i, i < cap → w.cell? (x.add (i * 2)) = some (.int .i64 (zs.getD i (0, 0)).1) ∧ w.cell? (x.add (i * 2 + 1)) = some (.int .i64 (zs.getD i (0, 0)).2)
def IsRows (w : World) (a : Option Addr) (len cap : Nat) (A : Nat → Option Addr) (L C : Nat → Nat) (Z : Nat → List Int) : Prop :=
  (a = none ∧ len = 0 ∧ cap = 0) ∨
  ∃ x, a = some x ∧ len ≤ cap ∧ cap ≤ maxLen ∧ ∀ r, r < cap → w.cell? (x.add r) = some (.slice (A r) (L r) (C r)) ∧ L r ≤ C r ∧ C r ≤ maxLen ∧ (Z r).length = C r ∧ (∀ n ∈ Z r, (Lit.int .i64 n).wf = true) ∧ (A r = none → C r = 0) ∧
    ∀ a', A r = some a' → ∀ c, c < C r → w.cell? (a'.add c) = some (.int .i64 ((Z r).getD c 0))


set_option maxHeartbeats 6400000 in
set_option maxRecDepth 8000 in
theorem means_err (ep key old a te ta tt tg ke kn ku kg : Int) (s : ByteArray) (n now life K E x : Int) (m : Bool) (w : World) (hE : ¬ E = 0) (C0 : Hid (∀ w : World, Calls Try.prog 9 #[.int .i64 5] w fun e w' => e = .returned (.tuple #[.agg #[.int .i64 0, .int .i64 K, .int .i64 0], .nilIface]) ∧ Below w.heap.size w w')) (CA0 : Hid (∀ w : World, Calls Try.prog 10 #[.agg #[.int .i64 0, .int .i64 K, .int .i64 0], .agg #[.int .i64 3, .int .i64 0, .int .i64 0, .int .i64 0, .int .i64 0, .int .i64 0, .int .i64 0, .int .i64 0, .int .i64 0, .string ⟨#[120]⟩], .int .i64 5, .int .i64 1, .int .i64 9] w fun e w' => e = .returned (.tuple #[.int .i64 0, .bool false, .nilIface]) ∧ Below w.heap.size w w')) (CA1 : Hid (∀ w : World, Calls Try.prog 10 #[.agg #[.int .i64 ep, .int .i64 key, .int .i64 old], .agg #[.int .i64 a, .int .i64 te, .int .i64 ta, .int .i64 tt, .int .i64 tg, .int .i64 ke, .int .i64 kn, .int .i64 ku, .int .i64 kg, .string s], .int .i64 n, .int .i64 now, .int .i64 life] w fun e w' => e = .returned (.tuple #[.int .i64 x, .bool m, errV E]) ∧ Below w.heap.size w w')) :
    Calls Try.prog 4 #[.agg #[.int .i64 ep, .int .i64 key, .int .i64 old], .agg #[.int .i64 a, .int .i64 te, .int .i64 ta, .int .i64 tt, .int .i64 tg, .int .i64 ke, .int .i64 kn, .int .i64 ku, .int .i64 kg, .string s], .int .i64 n, .int .i64 now, .int .i64 life] w fun e w' => e = .returned (.bool true) ∧ Below w.heap.size w w' := by
  rw [errV_pos hE] at CA1
  clear hE
  go_enter Try.func4, Try.ntmps4
  go_wp2_with fail
  refine (unhide C0 _).mono ?_
  rintro e w1 ⟨rfl, hb1⟩
  have HR1 : Hid (Held w1 (w.heap.size) (n3 ep key old)) := hide (((Held.fresh (w := w) (n3 ep key old) 30 (by first | rfl | (simp; done))).later (by (repeat' (first | exact Below.refl _ _ | refine Below.alloc ?_ ?_ _ | refine Below.setCell ?_ ?_ _ | refine Below.drew ?_)); all_goals (first | exact Nat.le_refl _ | omega | (simp; done) | (simp; omega)))).later hb1)
  have HH1 : Hid (Held w1 (w.heap.size + 1) (nh a te ta tt tg ke kn ku kg s)) := hide (((Held.fresh (w := w.alloc (.cells (n3 ep key old).toArray 30)) (nh a te ta tt tg ke kn ku kg s) 36 (by first | rfl | (simp; done))).later (by (repeat' (first | exact Below.refl _ _ | refine Below.alloc ?_ ?_ _ | refine Below.setCell ?_ ?_ _ | refine Below.drew ?_)); all_goals (first | exact Nat.le_refl _ | omega | (simp; done) | (simp; omega)))).later hb1)
  have HB1 := hide (show Below w.heap.size w w1 from Below.trans (by (repeat' (first | exact Below.refl _ _ | refine Below.alloc ?_ ?_ _ | refine Below.setCell ?_ ?_ _ | refine Below.drew ?_)); all_goals (first | exact Nat.le_refl _ | omega | (simp; done) | (simp; omega))) (hb1.mono (by first | exact Nat.le_refl _ | (simp; done) | (simp; omega))))
  clear hb1
  go_wp2_with fail
  refine (unhide CA0 _).mono ?_
  rintro e w2 ⟨rfl, hb2⟩
  have HR2 := hide (((unhide HR1).later (by (repeat' (first | exact Below.refl _ _ | refine Below.alloc ?_ ?_ _ | refine Below.setCell ?_ ?_ _ | refine Below.drew ?_)); all_goals (first | exact Nat.le_refl _ | omega | (simp; done) | (simp; omega)))).later hb2)
  have HH2 := hide (((unhide HH1).later (by (repeat' (first | exact Below.refl _ _ | refine Below.alloc ?_ ?_ _ | refine Below.setCell ?_ ?_ _ | refine Below.drew ?_)); all_goals (first | exact Nat.le_refl _ | omega | (simp; done) | (simp; omega)))).later hb2)
  have HB2 := hide (show Below w.heap.size w w2 from (by have := (unhide HB1).size; exact Below.trans (by (repeat' (first | exact Below.refl _ _ | refine Below.alloc ?_ ?_ _ | refine Below.setCell ?_ ?_ _ | refine Below.drew ?_ | refine Below.trans ?_ (Below.mono (unhide HB1) ?_))); all_goals (first | exact Nat.le_refl _ | omega | (simp; done) | (simp; omega))) (hb2.mono (by first | omega | (simp; done) | (simp; omega)))))
  clear hb2
  obtain ⟨r0, r1, r2⟩ := (unhide HR2).c3.1
  have rl := (unhide HR2).2
  obtain ⟨h0, h1, h2, h3, h4, h5, h6, h7, h8, h9⟩ := (unhide HH2).c10.1
  have hl := (unhide HH2).2
  go_wp2_with fail
  refine (unhide CA1 _).mono ?_
  rintro e w3 ⟨rfl, hb3⟩
  clear r0 r1 r2 rl h0 h1 h2 h3 h4 h5 h6 h7 h8 h9 hl
  have HR3 := hide (((unhide HR2).later (by (repeat' (first | exact Below.refl _ _ | refine Below.alloc ?_ ?_ _ | refine Below.setCell ?_ ?_ _ | refine Below.drew ?_)); all_goals (first | exact Nat.le_refl _ | omega | (simp; done) | (simp; omega)))).later hb3)
  have HH3 := hide (((unhide HH2).later (by (repeat' (first | exact Below.refl _ _ | refine Below.alloc ?_ ?_ _ | refine Below.setCell ?_ ?_ _ | refine Below.drew ?_)); all_goals (first | exact Nat.le_refl _ | omega | (simp; done) | (simp; omega)))).later hb3)
  have HB3 := hide (show Below w.heap.size w w3 from (by have := (unhide HB2).size; exact Below.trans (by (repeat' (first | exact Below.refl _ _ | refine Below.alloc ?_ ?_ _ | refine Below.setCell ?_ ?_ _ | refine Below.drew ?_ | refine Below.trans ?_ (Below.mono (unhide HB2) ?_))); all_goals (first | exact Nat.le_refl _ | omega | (simp; done) | (simp; omega))) (hb3.mono (by first | omega | (simp; done) | (simp; omega)))))
  clear hb3
  go_wp2
  go_ret
  exact ⟨rfl, (by have := (unhide HB3).size; exact (by (repeat' (first | exact Below.refl _ _ | refine Below.alloc ?_ ?_ _ | refine Below.setCell ?_ ?_ _ | refine Below.drew ?_ | refine Below.trans ?_ (Below.mono (unhide HB3) ?_))); all_goals (first | exact Nat.le_refl _ | omega | (simp; done) | (simp; omega))))⟩

set_option maxHeartbeats 6400000 in
set_option maxRecDepth 8000 in
theorem means_calm_t (ep key old a te ta tt tg ke kn ku kg : Int) (s : ByteArray) (n now life K g c : Int) (m2 : Bool) (w : World) (hs : ¬ s.size = 0) (hn : n < 4) (hn1 : ¬ 4 ≤ n) (hn2 : n < 8) (hn3 : ¬ n = 8) (hn4 : (n == 8) = false) (C0 : Hid (∀ w : World, Calls Try.prog 9 #[.int .i64 5] w fun e w' => e = .returned (.tuple #[.agg #[.int .i64 0, .int .i64 K, .int .i64 0], .nilIface]) ∧ Below w.heap.size w w')) (CA0 : Hid (∀ w : World, Calls Try.prog 10 #[.agg #[.int .i64 0, .int .i64 K, .int .i64 0], .agg #[.int .i64 3, .int .i64 0, .int .i64 0, .int .i64 0, .int .i64 0, .int .i64 0, .int .i64 0, .int .i64 0, .int .i64 0, .string ⟨#[120]⟩], .int .i64 5, .int .i64 1, .int .i64 9] w fun e w' => e = .returned (.tuple #[.int .i64 0, .bool false, .nilIface]) ∧ Below w.heap.size w w')) (CA1 : Hid (∀ w : World, Calls Try.prog 10 #[.agg #[.int .i64 ep, .int .i64 key, .int .i64 old], .agg #[.int .i64 a, .int .i64 te, .int .i64 ta, .int .i64 tt, .int .i64 tg, .int .i64 ke, .int .i64 kn, .int .i64 ku, .int .i64 kg, .string s], .int .i64 n, .int .i64 now, .int .i64 life] w fun e w' => e = .returned (.tuple #[.int .i64 1, .bool true, .nilIface]) ∧ Below w.heap.size w w')) (CO : Hid (∀ w : World, Calls Try.prog 11 #[.agg #[.int .i64 ep, .int .i64 key, .int .i64 old], .agg #[.int .i64 ke, .int .i64 kn, .int .i64 ku, .int .i64 kg], .int .i64 now] w fun e w' => e = .returned (.tuple #[.bool true, .nilIface]) ∧ Below w.heap.size w w')) (CT : Hid (∀ w : World, Calls Try.prog 12 #[.agg #[.int .i64 ep, .int .i64 key, .int .i64 old], .agg #[.int .i64 te, .int .i64 ta, .int .i64 tt, .int .i64 tg], .int .i64 a, .int .i64 now, .int .i64 life] w fun e w' => e = .returned (errV c) ∧ Below w.heap.size w w')) (CK : Hid (∀ w : World, Calls Try.prog 13 #[.agg #[.int .i64 ep, .int .i64 key, .int .i64 old], .agg #[.int .i64 ke, .int .i64 kn, .int .i64 ku, .int .i64 kg], .int .i64 now] w fun e w' => e = .returned (.nilIface) ∧ Below w.heap.size w w')) (CM : Hid (∀ w : World, Calls Try.prog 14 #[.agg #[.int .i64 ep, .int .i64 key, .int .i64 old], .int .i64 a, .int .i64 now] w fun e w' => e = .returned (.tuple #[.agg #[.int .i64 ep, .int .i64 a, .int .i64 now, .int .i64 g], .nilIface]) ∧ Below w.heap.size w w')) (CA2 : Hid (∀ w : World, Calls Try.prog 10 #[.agg #[.int .i64 ep, .int .i64 key, .int .i64 old], .agg #[.int .i64 a, .int .i64 ep, .int .i64 a, .int .i64 now, .int .i64 g, .int .i64 ke, .int .i64 kn, .int .i64 ku, .int .i64 kg, .string s], .int .i64 n, .int .i64 now, .int .i64 life] w fun e w' => e = .returned (.tuple #[.int .i64 1, .bool m2, .nilIface]) ∧ Below w.heap.size w w')) :
    Calls Try.prog 4 #[.agg #[.int .i64 ep, .int .i64 key, .int .i64 old], .agg #[.int .i64 a, .int .i64 te, .int .i64 ta, .int .i64 tt, .int .i64 tg, .int .i64 ke, .int .i64 kn, .int .i64 ku, .int .i64 kg, .string s], .int .i64 n, .int .i64 now, .int .i64 life] w fun e w' => e = .returned (.bool true) ∧ Below w.heap.size w w' := by
  have q1 := JudgeM.str_some hs
  have q2 : ¬ s.toList = [] := by simpa using q1
  have q3 : s.toList.isEmpty = false := by simpa using q1
  clear hs
  go_enter Try.func4, Try.ntmps4
  go_wp2_with fail
  refine (unhide C0 _).mono ?_
  rintro e w1 ⟨rfl, hb1⟩
  have HR1 : Hid (Held w1 (w.heap.size) (n3 ep key old)) := hide (((Held.fresh (w := w) (n3 ep key old) 30 (by first | rfl | (simp; done))).later (by (repeat' (first | exact Below.refl _ _ | refine Below.alloc ?_ ?_ _ | refine Below.setCell ?_ ?_ _ | refine Below.drew ?_)); all_goals (first | exact Nat.le_refl _ | omega | (simp; done) | (simp; omega)))).later hb1)
  have HH1 : Hid (Held w1 (w.heap.size + 1) (nh a te ta tt tg ke kn ku kg s)) := hide (((Held.fresh (w := w.alloc (.cells (n3 ep key old).toArray 30)) (nh a te ta tt tg ke kn ku kg s) 36 (by first | rfl | (simp; done))).later (by (repeat' (first | exact Below.refl _ _ | refine Below.alloc ?_ ?_ _ | refine Below.setCell ?_ ?_ _ | refine Below.drew ?_)); all_goals (first | exact Nat.le_refl _ | omega | (simp; done) | (simp; omega)))).later hb1)
  have HB1 := hide (show Below w.heap.size w w1 from Below.trans (by (repeat' (first | exact Below.refl _ _ | refine Below.alloc ?_ ?_ _ | refine Below.setCell ?_ ?_ _ | refine Below.drew ?_)); all_goals (first | exact Nat.le_refl _ | omega | (simp; done) | (simp; omega))) (hb1.mono (by first | exact Nat.le_refl _ | (simp; done) | (simp; omega))))
  clear hb1
  go_wp2_with fail
  refine (unhide CA0 _).mono ?_
  rintro e w2 ⟨rfl, hb2⟩
  have HR2 := hide (((unhide HR1).later (by (repeat' (first | exact Below.refl _ _ | refine Below.alloc ?_ ?_ _ | refine Below.setCell ?_ ?_ _ | refine Below.drew ?_)); all_goals (first | exact Nat.le_refl _ | omega | (simp; done) | (simp; omega)))).later hb2)
  have HH2 := hide (((unhide HH1).later (by (repeat' (first | exact Below.refl _ _ | refine Below.alloc ?_ ?_ _ | refine Below.setCell ?_ ?_ _ | refine Below.drew ?_)); all_goals (first | exact Nat.le_refl _ | omega | (simp; done) | (simp; omega)))).later hb2)
  have HB2 := hide (show Below w.heap.size w w2 from (by have := (unhide HB1).size; exact Below.trans (by (repeat' (first | exact Below.refl _ _ | refine Below.alloc ?_ ?_ _ | refine Below.setCell ?_ ?_ _ | refine Below.drew ?_ | refine Below.trans ?_ (Below.mono (unhide HB1) ?_))); all_goals (first | exact Nat.le_refl _ | omega | (simp; done) | (simp; omega))) (hb2.mono (by first | omega | (simp; done) | (simp; omega)))))
  clear hb2
  obtain ⟨r0, r1, r2⟩ := (unhide HR2).c3.1
  have rl := (unhide HR2).2
  obtain ⟨h0, h1, h2, h3, h4, h5, h6, h7, h8, h9⟩ := (unhide HH2).c10.1
  have hl := (unhide HH2).2
  go_wp2_with fail
  refine (unhide CA1 _).mono ?_
  rintro e w3 ⟨rfl, hb3⟩
  clear r0 r1 r2 rl h0 h1 h2 h3 h4 h5 h6 h7 h8 h9 hl
  have HR3 := hide (((unhide HR2).later (by (repeat' (first | exact Below.refl _ _ | refine Below.alloc ?_ ?_ _ | refine Below.setCell ?_ ?_ _ | refine Below.drew ?_)); all_goals (first | exact Nat.le_refl _ | omega | (simp; done) | (simp; omega)))).later hb3)
  have HH3 := hide (((unhide HH2).later (by (repeat' (first | exact Below.refl _ _ | refine Below.alloc ?_ ?_ _ | refine Below.setCell ?_ ?_ _ | refine Below.drew ?_)); all_goals (first | exact Nat.le_refl _ | omega | (simp; done) | (simp; omega)))).later hb3)
  have HB3 := hide (show Below w.heap.size w w3 from (by have := (unhide HB2).size; exact Below.trans (by (repeat' (first | exact Below.refl _ _ | refine Below.alloc ?_ ?_ _ | refine Below.setCell ?_ ?_ _ | refine Below.drew ?_ | refine Below.trans ?_ (Below.mono (unhide HB2) ?_))); all_goals (first | exact Nat.le_refl _ | omega | (simp; done) | (simp; omega))) (hb3.mono (by first | omega | (simp; done) | (simp; omega)))))
  clear hb3
  obtain ⟨r0, r1, r2⟩ := (unhide HR3).c3.1
  have rl := (unhide HR3).2
  obtain ⟨h0, h1, h2, h3, h4, h5, h6, h7, h8, h9⟩ := (unhide HH3).c10.1
  have hl := (unhide HH3).2
  go_wp2_with fail
  refine (unhide CO _).mono ?_
  rintro e w4 ⟨rfl, hb4⟩
  clear r0 r1 r2 rl h0 h1 h2 h3 h4 h5 h6 h7 h8 h9 hl
  have HR4 := hide (((unhide HR3).later (by (repeat' (first | exact Below.refl _ _ | refine Below.alloc ?_ ?_ _ | refine Below.setCell ?_ ?_ _ | refine Below.drew ?_)); all_goals (first | exact Nat.le_refl _ | omega | (simp; done) | (simp; omega)))).later hb4)
  have HH4 := hide (((unhide HH3).later (by (repeat' (first | exact Below.refl _ _ | refine Below.alloc ?_ ?_ _ | refine Below.setCell ?_ ?_ _ | refine Below.drew ?_)); all_goals (first | exact Nat.le_refl _ | omega | (simp; done) | (simp; omega)))).later hb4)
  have HB4 := hide (show Below w.heap.size w w4 from (by have := (unhide HB3).size; exact Below.trans (by (repeat' (first | exact Below.refl _ _ | refine Below.alloc ?_ ?_ _ | refine Below.setCell ?_ ?_ _ | refine Below.drew ?_ | refine Below.trans ?_ (Below.mono (unhide HB3) ?_))); all_goals (first | exact Nat.le_refl _ | omega | (simp; done) | (simp; omega))) (hb4.mono (by first | omega | (simp; done) | (simp; omega)))))
  clear hb4
  obtain ⟨r0, r1, r2⟩ := (unhide HR4).c3.1
  have rl := (unhide HR4).2
  obtain ⟨h0, h1, h2, h3, h4, h5, h6, h7, h8, h9⟩ := (unhide HH4).c10.1
  have hl := (unhide HH4).2
  go_wp2_with fail
  refine (unhide CT _).mono ?_
  rintro e w5 ⟨rfl, hb5⟩
  clear r0 r1 r2 rl h0 h1 h2 h3 h4 h5 h6 h7 h8 h9 hl
  have HR5 := hide (((unhide HR4).later (by (repeat' (first | exact Below.refl _ _ | refine Below.alloc ?_ ?_ _ | refine Below.setCell ?_ ?_ _ | refine Below.drew ?_)); all_goals (first | exact Nat.le_refl _ | omega | (simp; done) | (simp; omega)))).later hb5)
  have HH5 := hide (((unhide HH4).later (by (repeat' (first | exact Below.refl _ _ | refine Below.alloc ?_ ?_ _ | refine Below.setCell ?_ ?_ _ | refine Below.drew ?_)); all_goals (first | exact Nat.le_refl _ | omega | (simp; done) | (simp; omega)))).later hb5)
  have HB5 := hide (show Below w.heap.size w w5 from (by have := (unhide HB4).size; exact Below.trans (by (repeat' (first | exact Below.refl _ _ | refine Below.alloc ?_ ?_ _ | refine Below.setCell ?_ ?_ _ | refine Below.drew ?_ | refine Below.trans ?_ (Below.mono (unhide HB4) ?_))); all_goals (first | exact Nat.le_refl _ | omega | (simp; done) | (simp; omega))) (hb5.mono (by first | omega | (simp; done) | (simp; omega)))))
  clear hb5
  obtain ⟨r0, r1, r2⟩ := (unhide HR5).c3.1
  have rl := (unhide HR5).2
  obtain ⟨h0, h1, h2, h3, h4, h5, h6, h7, h8, h9⟩ := (unhide HH5).c10.1
  have hl := (unhide HH5).2
  go_wp2_with fail
  refine (unhide CK _).mono ?_
  rintro e w6 ⟨rfl, hb6⟩
  clear r0 r1 r2 rl h0 h1 h2 h3 h4 h5 h6 h7 h8 h9 hl
  have HR6 := hide (((unhide HR5).later (by (repeat' (first | exact Below.refl _ _ | refine Below.alloc ?_ ?_ _ | refine Below.setCell ?_ ?_ _ | refine Below.drew ?_)); all_goals (first | exact Nat.le_refl _ | omega | (simp; done) | (simp; omega)))).later hb6)
  have HH6 := hide (((unhide HH5).later (by (repeat' (first | exact Below.refl _ _ | refine Below.alloc ?_ ?_ _ | refine Below.setCell ?_ ?_ _ | refine Below.drew ?_)); all_goals (first | exact Nat.le_refl _ | omega | (simp; done) | (simp; omega)))).later hb6)
  have HB6 := hide (show Below w.heap.size w w6 from (by have := (unhide HB5).size; exact Below.trans (by (repeat' (first | exact Below.refl _ _ | refine Below.alloc ?_ ?_ _ | refine Below.setCell ?_ ?_ _ | refine Below.drew ?_ | refine Below.trans ?_ (Below.mono (unhide HB5) ?_))); all_goals (first | exact Nat.le_refl _ | omega | (simp; done) | (simp; omega))) (hb6.mono (by first | omega | (simp; done) | (simp; omega)))))
  clear hb6
  obtain ⟨r0, r1, r2⟩ := (unhide HR6).c3.1
  have rl := (unhide HR6).2
  obtain ⟨h0, h1, h2, h3, h4, h5, h6, h7, h8, h9⟩ := (unhide HH6).c10.1
  have hl := (unhide HH6).2
  go_wp2_with fail
  refine (unhide CM _).mono ?_
  rintro e w7 ⟨rfl, hb7⟩
  clear r0 r1 r2 rl h0 h1 h2 h3 h4 h5 h6 h7 h8 h9 hl
  have HR7 := hide (((unhide HR6).later (by (repeat' (first | exact Below.refl _ _ | refine Below.alloc ?_ ?_ _ | refine Below.setCell ?_ ?_ _ | refine Below.drew ?_)); all_goals (first | exact Nat.le_refl _ | omega | (simp; done) | (simp; omega)))).later hb7)
  have HH7 := hide (((unhide HH6).later (by (repeat' (first | exact Below.refl _ _ | refine Below.alloc ?_ ?_ _ | refine Below.setCell ?_ ?_ _ | refine Below.drew ?_)); all_goals (first | exact Nat.le_refl _ | omega | (simp; done) | (simp; omega)))).later hb7)
  have HB7 := hide (show Below w.heap.size w w7 from (by have := (unhide HB6).size; exact Below.trans (by (repeat' (first | exact Below.refl _ _ | refine Below.alloc ?_ ?_ _ | refine Below.setCell ?_ ?_ _ | refine Below.drew ?_ | refine Below.trans ?_ (Below.mono (unhide HB6) ?_))); all_goals (first | exact Nat.le_refl _ | omega | (simp; done) | (simp; omega))) (hb7.mono (by first | omega | (simp; done) | (simp; omega)))))
  clear hb7
  go_upto_region 18 with fail
  have HR8 : Hid (Held ((w7.alloc (.cells #[.int .i64 ep, .int .i64 a, .int .i64 now, .int .i64 g] 32)).alloc (.cells #[.int .i64 0, .int .i64 0, .int .i64 0, .int .i64 0] 32)) _ _) := hide ((unhide HR7).later (by (repeat' (first | exact Below.refl _ _ | refine Below.alloc ?_ ?_ _ | refine Below.setCell ?_ ?_ _ | refine Below.drew ?_)); all_goals (first | exact Nat.le_refl _ | omega | (simp; done) | (simp; omega))))
  have HH8 : Hid (Held ((w7.alloc (.cells #[.int .i64 ep, .int .i64 a, .int .i64 now, .int .i64 g] 32)).alloc (.cells #[.int .i64 0, .int .i64 0, .int .i64 0, .int .i64 0] 32)) _ _) := hide ((unhide HH7).later (by (repeat' (first | exact Below.refl _ _ | refine Below.alloc ?_ ?_ _ | refine Below.setCell ?_ ?_ _ | refine Below.drew ?_)); all_goals (first | exact Nat.le_refl _ | omega | (simp; done) | (simp; omega))))
  have HT8 : Hid (Held ((w7.alloc (.cells #[.int .i64 ep, .int .i64 a, .int .i64 now, .int .i64 g] 32)).alloc (.cells #[.int .i64 0, .int .i64 0, .int .i64 0, .int .i64 0] 32)) w7.heap.size (n4 ep a now g)) := hide ((Held.fresh (w := w7) (n4 ep a now g) 32 rfl).later (Below.alloc (Below.refl _ _) (Nat.le_refl _) _))
  have HN8 : Hid (Held ((w7.alloc (.cells #[.int .i64 ep, .int .i64 a, .int .i64 now, .int .i64 g] 32)).alloc (.cells #[.int .i64 0, .int .i64 0, .int .i64 0, .int .i64 0] 32)) (w7.heap.size + 1) (n4 0 0 0 0)) := hide (Held.fresh (w := (w7.alloc (.cells #[.int .i64 ep, .int .i64 a, .int .i64 now, .int .i64 g] 32))) (n4 0 0 0 0) 32 (by simp))
  have HB8 : Hid (Below w.heap.size w ((w7.alloc (.cells #[.int .i64 ep, .int .i64 a, .int .i64 now, .int .i64 g] 32)).alloc (.cells #[.int .i64 0, .int .i64 0, .int .i64 0, .int .i64 0] 32))) := hide (by have := (unhide HB7).size; exact (by (repeat' (first | exact Below.refl _ _ | refine Below.alloc ?_ ?_ _ | refine Below.setCell ?_ ?_ _ | refine Below.drew ?_ | refine Below.trans ?_ (Below.mono (unhide HB7) ?_))); all_goals (first | exact Nat.le_refl _ | omega | (simp; done) | (simp; omega))))
  have z7 : w.heap.size + 1 < w7.heap.size := (unhide HH7).2
  generalize ((w7.alloc (.cells #[.int .i64 ep, .int .i64 a, .int .i64 now, .int .i64 g] 32)).alloc (.cells #[.int .i64 0, .int .i64 0, .int .i64 0, .int .i64 0] 32)) = w8 at HR8 HH8 HT8 HN8 HB8 ⊢
  obtain ⟨t0, t1, t2, t3⟩ := (unhide HT8).c4.1
  have tl := (unhide HT8).2
  obtain ⟨h0, h1, h2, h3, h4, h5, h6, h7, h8, h9⟩ := (unhide HH8).c10.1
  obtain ⟨hf0, hf1, hf2, hf3, hf4, hf5, hf6, hf7, hf8, hf9⟩ := (unhide HH8).c10.2
  have hl := (unhide HH8).2
  go_upto_region 19 with fail
  clear t0 t1 t2 t3 tl h0 h1 h2 h3 h4 h5 h6 h7 h8 h9 hf0 hf1 hf2 hf3 hf4 hf5 hf6 hf7 hf8 hf9 hl
  have HR9 := hide (((((unhide HR8).far (c := w.heap.size + 1) (by have := (unhide HB8).size; omega) 1 (.int .i64 ep)).far (c := w.heap.size + 1) (by have := (unhide HB8).size; omega) 2 (.int .i64 a)).far (c := w.heap.size + 1) (by have := (unhide HB8).size; omega) 3 (.int .i64 now)).far (c := w.heap.size + 1) (by have := (unhide HB8).size; omega) 4 (.int .i64 g))
  have HH9 : Hid (Held ((((w8.setCell ⟨w.heap.size + 1, 1, none⟩ (.int .i64 ep)).setCell ⟨w.heap.size + 1, 2, none⟩ (.int .i64 a)).setCell ⟨w.heap.size + 1, 3, none⟩ (.int .i64 now)).setCell ⟨w.heap.size + 1, 4, none⟩ (.int .i64 g)) (w.heap.size + 1) (nh a ep a now g ke kn ku kg s)) := hide (((((unhide HH8).put 1 (.int .i64 ep)).put 2 (.int .i64 a)).put 3 (.int .i64 now)).put 4 (.int .i64 g))
  have HT9 := hide (((((unhide HT8).far (c := w.heap.size + 1) (by have := (unhide HB8).size; omega) 1 (.int .i64 ep)).far (c := w.heap.size + 1) (by have := (unhide HB8).size; omega) 2 (.int .i64 a)).far (c := w.heap.size + 1) (by have := (unhide HB8).size; omega) 3 (.int .i64 now)).far (c := w.heap.size + 1) (by have := (unhide HB8).size; omega) 4 (.int .i64 g))
  have HN9 := hide (((((unhide HN8).far (c := w.heap.size + 1) (by have := (unhide HB8).size; omega) 1 (.int .i64 ep)).far (c := w.heap.size + 1) (by have := (unhide HB8).size; omega) 2 (.int .i64 a)).far (c := w.heap.size + 1) (by have := (unhide HB8).size; omega) 3 (.int .i64 now)).far (c := w.heap.size + 1) (by have := (unhide HB8).size; omega) 4 (.int .i64 g))
  have HB9 : Hid (Below w.heap.size w ((((w8.setCell ⟨w.heap.size + 1, 1, none⟩ (.int .i64 ep)).setCell ⟨w.heap.size + 1, 2, none⟩ (.int .i64 a)).setCell ⟨w.heap.size + 1, 3, none⟩ (.int .i64 now)).setCell ⟨w.heap.size + 1, 4, none⟩ (.int .i64 g))) := hide (by have := (unhide HB8).size; exact (by (repeat' (first | exact Below.refl _ _ | refine Below.alloc ?_ ?_ _ | refine Below.setCell ?_ ?_ _ | refine Below.drew ?_ | refine Below.trans ?_ (Below.mono (unhide HB8) ?_))); all_goals (first | exact Nat.le_refl _ | omega | (simp; done) | (simp; omega))))
  generalize ((((w8.setCell ⟨w.heap.size + 1, 1, none⟩ (.int .i64 ep)).setCell ⟨w.heap.size + 1, 2, none⟩ (.int .i64 a)).setCell ⟨w.heap.size + 1, 3, none⟩ (.int .i64 now)).setCell ⟨w.heap.size + 1, 4, none⟩ (.int .i64 g)) = w9 at HR9 HH9 HT9 HN9 HB9 ⊢
  obtain ⟨r0, r1, r2⟩ := (unhide HR9).c3.1
  have rl := (unhide HR9).2
  obtain ⟨h0, h1, h2, h3, h4, h5, h6, h7, h8, h9⟩ := (unhide HH9).c10.1
  have hl := (unhide HH9).2
  go_wp2_with fail
  refine (unhide CA2 _).mono ?_
  rintro e w10 ⟨rfl, hb10⟩
  clear r0 r1 r2 rl h0 h1 h2 h3 h4 h5 h6 h7 h8 h9 hl
  have HR10 := hide (((unhide HR9).later (by (repeat' (first | exact Below.refl _ _ | refine Below.alloc ?_ ?_ _ | refine Below.setCell ?_ ?_ _ | refine Below.drew ?_)); all_goals (first | exact Nat.le_refl _ | omega | (simp; done) | (simp; omega)))).later hb10)
  have HH10 := hide (((unhide HH9).later (by (repeat' (first | exact Below.refl _ _ | refine Below.alloc ?_ ?_ _ | refine Below.setCell ?_ ?_ _ | refine Below.drew ?_)); all_goals (first | exact Nat.le_refl _ | omega | (simp; done) | (simp; omega)))).later hb10)
  have HT10 := hide (((unhide HT9).later (by (repeat' (first | exact Below.refl _ _ | refine Below.alloc ?_ ?_ _ | refine Below.setCell ?_ ?_ _ | refine Below.drew ?_)); all_goals (first | exact Nat.le_refl _ | omega | (simp; done) | (simp; omega)))).later hb10)
  have HN10 := hide (((unhide HN9).later (by (repeat' (first | exact Below.refl _ _ | refine Below.alloc ?_ ?_ _ | refine Below.setCell ?_ ?_ _ | refine Below.drew ?_)); all_goals (first | exact Nat.le_refl _ | omega | (simp; done) | (simp; omega)))).later hb10)
  have HB10 := hide (show Below w.heap.size w w10 from (by have := (unhide HB9).size; exact Below.trans (by (repeat' (first | exact Below.refl _ _ | refine Below.alloc ?_ ?_ _ | refine Below.setCell ?_ ?_ _ | refine Below.drew ?_ | refine Below.trans ?_ (Below.mono (unhide HB9) ?_))); all_goals (first | exact Nat.le_refl _ | omega | (simp; done) | (simp; omega))) (hb10.mono (by first | omega | (simp; done) | (simp; omega)))))
  clear hb10
  obtain ⟨t0, t1, t2, t3⟩ := (unhide HT10).c4.1
  have tl := (unhide HT10).2
  obtain ⟨n0, n1, n2, n3⟩ := (unhide HN10).c4.1
  have nl := (unhide HN10).2
  go_wp2
  go_ret
  exact ⟨rfl, (by have := (unhide HB10).size; exact (by (repeat' (first | exact Below.refl _ _ | refine Below.alloc ?_ ?_ _ | refine Below.setCell ?_ ?_ _ | refine Below.drew ?_ | refine Below.trans ?_ (Below.mono (unhide HB10) ?_))); all_goals (first | exact Nat.le_refl _ | omega | (simp; done) | (simp; omega))))⟩

set_option maxHeartbeats 6400000 in
set_option maxRecDepth 8000 in
theorem means_calm_f (ep key old a te ta tt tg ke kn ku kg : Int) (s : ByteArray) (n now life K g c : Int) (o m2 : Bool) (w : World) (hn : n < 4) (hn1 : ¬ 4 ≤ n) (hn2 : n < 8) (hn3 : ¬ n = 8) (hn4 : (n == 8) = false) (C0 : Hid (∀ w : World, Calls Try.prog 9 #[.int .i64 5] w fun e w' => e = .returned (.tuple #[.agg #[.int .i64 0, .int .i64 K, .int .i64 0], .nilIface]) ∧ Below w.heap.size w w')) (CA0 : Hid (∀ w : World, Calls Try.prog 10 #[.agg #[.int .i64 0, .int .i64 K, .int .i64 0], .agg #[.int .i64 3, .int .i64 0, .int .i64 0, .int .i64 0, .int .i64 0, .int .i64 0, .int .i64 0, .int .i64 0, .int .i64 0, .string ⟨#[120]⟩], .int .i64 5, .int .i64 1, .int .i64 9] w fun e w' => e = .returned (.tuple #[.int .i64 0, .bool false, .nilIface]) ∧ Below w.heap.size w w')) (CA1 : Hid (∀ w : World, Calls Try.prog 10 #[.agg #[.int .i64 ep, .int .i64 key, .int .i64 old], .agg #[.int .i64 a, .int .i64 te, .int .i64 ta, .int .i64 tt, .int .i64 tg, .int .i64 ke, .int .i64 kn, .int .i64 ku, .int .i64 kg, .string s], .int .i64 n, .int .i64 now, .int .i64 life] w fun e w' => e = .returned (.tuple #[.int .i64 1, .bool false, .nilIface]) ∧ Below w.heap.size w w')) (CO : Hid (∀ w : World, Calls Try.prog 11 #[.agg #[.int .i64 ep, .int .i64 key, .int .i64 old], .agg #[.int .i64 ke, .int .i64 kn, .int .i64 ku, .int .i64 kg], .int .i64 now] w fun e w' => e = .returned (.tuple #[.bool o, .nilIface]) ∧ Below w.heap.size w w')) (CT : Hid (∀ w : World, Calls Try.prog 12 #[.agg #[.int .i64 ep, .int .i64 key, .int .i64 old], .agg #[.int .i64 te, .int .i64 ta, .int .i64 tt, .int .i64 tg], .int .i64 a, .int .i64 now, .int .i64 life] w fun e w' => e = .returned (errV c) ∧ Below w.heap.size w w')) (CM : Hid (∀ w : World, Calls Try.prog 14 #[.agg #[.int .i64 ep, .int .i64 key, .int .i64 old], .int .i64 a, .int .i64 now] w fun e w' => e = .returned (.tuple #[.agg #[.int .i64 ep, .int .i64 a, .int .i64 now, .int .i64 g], .nilIface]) ∧ Below w.heap.size w w')) (CA2 : Hid (∀ w : World, Calls Try.prog 10 #[.agg #[.int .i64 ep, .int .i64 key, .int .i64 old], .agg #[.int .i64 a, .int .i64 ep, .int .i64 a, .int .i64 now, .int .i64 g, .int .i64 ke, .int .i64 kn, .int .i64 ku, .int .i64 kg, .string s], .int .i64 n, .int .i64 now, .int .i64 life] w fun e w' => e = .returned (.tuple #[.int .i64 1, .bool m2, .nilIface]) ∧ Below w.heap.size w w')) :
    Calls Try.prog 4 #[.agg #[.int .i64 ep, .int .i64 key, .int .i64 old], .agg #[.int .i64 a, .int .i64 te, .int .i64 ta, .int .i64 tt, .int .i64 tg, .int .i64 ke, .int .i64 kn, .int .i64 ku, .int .i64 kg, .string s], .int .i64 n, .int .i64 now, .int .i64 life] w fun e w' => e = .returned (.bool true) ∧ Below w.heap.size w w' := by
  go_enter Try.func4, Try.ntmps4
  go_wp2_with fail
  refine (unhide C0 _).mono ?_
  rintro e w1 ⟨rfl, hb1⟩
  have HR1 : Hid (Held w1 (w.heap.size) (n3 ep key old)) := hide (((Held.fresh (w := w) (n3 ep key old) 30 (by first | rfl | (simp; done))).later (by (repeat' (first | exact Below.refl _ _ | refine Below.alloc ?_ ?_ _ | refine Below.setCell ?_ ?_ _ | refine Below.drew ?_)); all_goals (first | exact Nat.le_refl _ | omega | (simp; done) | (simp; omega)))).later hb1)
  have HH1 : Hid (Held w1 (w.heap.size + 1) (nh a te ta tt tg ke kn ku kg s)) := hide (((Held.fresh (w := w.alloc (.cells (n3 ep key old).toArray 30)) (nh a te ta tt tg ke kn ku kg s) 36 (by first | rfl | (simp; done))).later (by (repeat' (first | exact Below.refl _ _ | refine Below.alloc ?_ ?_ _ | refine Below.setCell ?_ ?_ _ | refine Below.drew ?_)); all_goals (first | exact Nat.le_refl _ | omega | (simp; done) | (simp; omega)))).later hb1)
  have HB1 := hide (show Below w.heap.size w w1 from Below.trans (by (repeat' (first | exact Below.refl _ _ | refine Below.alloc ?_ ?_ _ | refine Below.setCell ?_ ?_ _ | refine Below.drew ?_)); all_goals (first | exact Nat.le_refl _ | omega | (simp; done) | (simp; omega))) (hb1.mono (by first | exact Nat.le_refl _ | (simp; done) | (simp; omega))))
  clear hb1
  go_wp2_with fail
  refine (unhide CA0 _).mono ?_
  rintro e w2 ⟨rfl, hb2⟩
  have HR2 := hide (((unhide HR1).later (by (repeat' (first | exact Below.refl _ _ | refine Below.alloc ?_ ?_ _ | refine Below.setCell ?_ ?_ _ | refine Below.drew ?_)); all_goals (first | exact Nat.le_refl _ | omega | (simp; done) | (simp; omega)))).later hb2)
  have HH2 := hide (((unhide HH1).later (by (repeat' (first | exact Below.refl _ _ | refine Below.alloc ?_ ?_ _ | refine Below.setCell ?_ ?_ _ | refine Below.drew ?_)); all_goals (first | exact Nat.le_refl _ | omega | (simp; done) | (simp; omega)))).later hb2)
  have HB2 := hide (show Below w.heap.size w w2 from (by have := (unhide HB1).size; exact Below.trans (by (repeat' (first | exact Below.refl _ _ | refine Below.alloc ?_ ?_ _ | refine Below.setCell ?_ ?_ _ | refine Below.drew ?_ | refine Below.trans ?_ (Below.mono (unhide HB1) ?_))); all_goals (first | exact Nat.le_refl _ | omega | (simp; done) | (simp; omega))) (hb2.mono (by first | omega | (simp; done) | (simp; omega)))))
  clear hb2
  obtain ⟨r0, r1, r2⟩ := (unhide HR2).c3.1
  have rl := (unhide HR2).2
  obtain ⟨h0, h1, h2, h3, h4, h5, h6, h7, h8, h9⟩ := (unhide HH2).c10.1
  have hl := (unhide HH2).2
  go_wp2_with fail
  refine (unhide CA1 _).mono ?_
  rintro e w3 ⟨rfl, hb3⟩
  clear r0 r1 r2 rl h0 h1 h2 h3 h4 h5 h6 h7 h8 h9 hl
  have HR3 := hide (((unhide HR2).later (by (repeat' (first | exact Below.refl _ _ | refine Below.alloc ?_ ?_ _ | refine Below.setCell ?_ ?_ _ | refine Below.drew ?_)); all_goals (first | exact Nat.le_refl _ | omega | (simp; done) | (simp; omega)))).later hb3)
  have HH3 := hide (((unhide HH2).later (by (repeat' (first | exact Below.refl _ _ | refine Below.alloc ?_ ?_ _ | refine Below.setCell ?_ ?_ _ | refine Below.drew ?_)); all_goals (first | exact Nat.le_refl _ | omega | (simp; done) | (simp; omega)))).later hb3)
  have HB3 := hide (show Below w.heap.size w w3 from (by have := (unhide HB2).size; exact Below.trans (by (repeat' (first | exact Below.refl _ _ | refine Below.alloc ?_ ?_ _ | refine Below.setCell ?_ ?_ _ | refine Below.drew ?_ | refine Below.trans ?_ (Below.mono (unhide HB2) ?_))); all_goals (first | exact Nat.le_refl _ | omega | (simp; done) | (simp; omega))) (hb3.mono (by first | omega | (simp; done) | (simp; omega)))))
  clear hb3
  obtain ⟨r0, r1, r2⟩ := (unhide HR3).c3.1
  have rl := (unhide HR3).2
  obtain ⟨h0, h1, h2, h3, h4, h5, h6, h7, h8, h9⟩ := (unhide HH3).c10.1
  have hl := (unhide HH3).2
  go_wp2_with fail
  refine (unhide CO _).mono ?_
  rintro e w4 ⟨rfl, hb4⟩
  clear r0 r1 r2 rl h0 h1 h2 h3 h4 h5 h6 h7 h8 h9 hl
  have HR4 := hide (((unhide HR3).later (by (repeat' (first | exact Below.refl _ _ | refine Below.alloc ?_ ?_ _ | refine Below.setCell ?_ ?_ _ | refine Below.drew ?_)); all_goals (first | exact Nat.le_refl _ | omega | (simp; done) | (simp; omega)))).later hb4)
  have HH4 := hide (((unhide HH3).later (by (repeat' (first | exact Below.refl _ _ | refine Below.alloc ?_ ?_ _ | refine Below.setCell ?_ ?_ _ | refine Below.drew ?_)); all_goals (first | exact Nat.le_refl _ | omega | (simp; done) | (simp; omega)))).later hb4)
  have HB4 := hide (show Below w.heap.size w w4 from (by have := (unhide HB3).size; exact Below.trans (by (repeat' (first | exact Below.refl _ _ | refine Below.alloc ?_ ?_ _ | refine Below.setCell ?_ ?_ _ | refine Below.drew ?_ | refine Below.trans ?_ (Below.mono (unhide HB3) ?_))); all_goals (first | exact Nat.le_refl _ | omega | (simp; done) | (simp; omega))) (hb4.mono (by first | omega | (simp; done) | (simp; omega)))))
  clear hb4
  obtain ⟨r0, r1, r2⟩ := (unhide HR4).c3.1
  have rl := (unhide HR4).2
  obtain ⟨h0, h1, h2, h3, h4, h5, h6, h7, h8, h9⟩ := (unhide HH4).c10.1
  have hl := (unhide HH4).2
  go_wp2_with fail
  refine (unhide CT _).mono ?_
  rintro e w5 ⟨rfl, hb5⟩
  clear r0 r1 r2 rl h0 h1 h2 h3 h4 h5 h6 h7 h8 h9 hl
  have HR5 := hide (((unhide HR4).later (by (repeat' (first | exact Below.refl _ _ | refine Below.alloc ?_ ?_ _ | refine Below.setCell ?_ ?_ _ | refine Below.drew ?_)); all_goals (first | exact Nat.le_refl _ | omega | (simp; done) | (simp; omega)))).later hb5)
  have HH5 := hide (((unhide HH4).later (by (repeat' (first | exact Below.refl _ _ | refine Below.alloc ?_ ?_ _ | refine Below.setCell ?_ ?_ _ | refine Below.drew ?_)); all_goals (first | exact Nat.le_refl _ | omega | (simp; done) | (simp; omega)))).later hb5)
  have HB5 := hide (show Below w.heap.size w w5 from (by have := (unhide HB4).size; exact Below.trans (by (repeat' (first | exact Below.refl _ _ | refine Below.alloc ?_ ?_ _ | refine Below.setCell ?_ ?_ _ | refine Below.drew ?_ | refine Below.trans ?_ (Below.mono (unhide HB4) ?_))); all_goals (first | exact Nat.le_refl _ | omega | (simp; done) | (simp; omega))) (hb5.mono (by first | omega | (simp; done) | (simp; omega)))))
  clear hb5
  obtain ⟨r0, r1, r2⟩ := (unhide HR5).c3.1
  have rl := (unhide HR5).2
  obtain ⟨h0, h1, h2, h3, h4, h5, h6, h7, h8, h9⟩ := (unhide HH5).c10.1
  have hl := (unhide HH5).2
  go_wp2_with fail
  refine (unhide CM _).mono ?_
  rintro e w6 ⟨rfl, hb6⟩
  clear r0 r1 r2 rl h0 h1 h2 h3 h4 h5 h6 h7 h8 h9 hl
  have HR6 := hide (((unhide HR5).later (by (repeat' (first | exact Below.refl _ _ | refine Below.alloc ?_ ?_ _ | refine Below.setCell ?_ ?_ _ | refine Below.drew ?_)); all_goals (first | exact Nat.le_refl _ | omega | (simp; done) | (simp; omega)))).later hb6)
  have HH6 := hide (((unhide HH5).later (by (repeat' (first | exact Below.refl _ _ | refine Below.alloc ?_ ?_ _ | refine Below.setCell ?_ ?_ _ | refine Below.drew ?_)); all_goals (first | exact Nat.le_refl _ | omega | (simp; done) | (simp; omega)))).later hb6)
  have HB6 := hide (show Below w.heap.size w w6 from (by have := (unhide HB5).size; exact Below.trans (by (repeat' (first | exact Below.refl _ _ | refine Below.alloc ?_ ?_ _ | refine Below.setCell ?_ ?_ _ | refine Below.drew ?_ | refine Below.trans ?_ (Below.mono (unhide HB5) ?_))); all_goals (first | exact Nat.le_refl _ | omega | (simp; done) | (simp; omega))) (hb6.mono (by first | omega | (simp; done) | (simp; omega)))))
  clear hb6
  go_upto_region 18 with fail
  have HR7 : Hid (Held ((w6.alloc (.cells #[.int .i64 ep, .int .i64 a, .int .i64 now, .int .i64 g] 32)).alloc (.cells #[.int .i64 0, .int .i64 0, .int .i64 0, .int .i64 0] 32)) _ _) := hide ((unhide HR6).later (by (repeat' (first | exact Below.refl _ _ | refine Below.alloc ?_ ?_ _ | refine Below.setCell ?_ ?_ _ | refine Below.drew ?_)); all_goals (first | exact Nat.le_refl _ | omega | (simp; done) | (simp; omega))))
  have HH7 : Hid (Held ((w6.alloc (.cells #[.int .i64 ep, .int .i64 a, .int .i64 now, .int .i64 g] 32)).alloc (.cells #[.int .i64 0, .int .i64 0, .int .i64 0, .int .i64 0] 32)) _ _) := hide ((unhide HH6).later (by (repeat' (first | exact Below.refl _ _ | refine Below.alloc ?_ ?_ _ | refine Below.setCell ?_ ?_ _ | refine Below.drew ?_)); all_goals (first | exact Nat.le_refl _ | omega | (simp; done) | (simp; omega))))
  have HT7 : Hid (Held ((w6.alloc (.cells #[.int .i64 ep, .int .i64 a, .int .i64 now, .int .i64 g] 32)).alloc (.cells #[.int .i64 0, .int .i64 0, .int .i64 0, .int .i64 0] 32)) w6.heap.size (n4 ep a now g)) := hide ((Held.fresh (w := w6) (n4 ep a now g) 32 rfl).later (Below.alloc (Below.refl _ _) (Nat.le_refl _) _))
  have HN7 : Hid (Held ((w6.alloc (.cells #[.int .i64 ep, .int .i64 a, .int .i64 now, .int .i64 g] 32)).alloc (.cells #[.int .i64 0, .int .i64 0, .int .i64 0, .int .i64 0] 32)) (w6.heap.size + 1) (n4 0 0 0 0)) := hide (Held.fresh (w := (w6.alloc (.cells #[.int .i64 ep, .int .i64 a, .int .i64 now, .int .i64 g] 32))) (n4 0 0 0 0) 32 (by simp))
  have HB7 : Hid (Below w.heap.size w ((w6.alloc (.cells #[.int .i64 ep, .int .i64 a, .int .i64 now, .int .i64 g] 32)).alloc (.cells #[.int .i64 0, .int .i64 0, .int .i64 0, .int .i64 0] 32))) := hide (by have := (unhide HB6).size; exact (by (repeat' (first | exact Below.refl _ _ | refine Below.alloc ?_ ?_ _ | refine Below.setCell ?_ ?_ _ | refine Below.drew ?_ | refine Below.trans ?_ (Below.mono (unhide HB6) ?_))); all_goals (first | exact Nat.le_refl _ | omega | (simp; done) | (simp; omega))))
  have z6 : w.heap.size + 1 < w6.heap.size := (unhide HH6).2
  generalize ((w6.alloc (.cells #[.int .i64 ep, .int .i64 a, .int .i64 now, .int .i64 g] 32)).alloc (.cells #[.int .i64 0, .int .i64 0, .int .i64 0, .int .i64 0] 32)) = w7 at HR7 HH7 HT7 HN7 HB7 ⊢
  obtain ⟨t0, t1, t2, t3⟩ := (unhide HT7).c4.1
  have tl := (unhide HT7).2
  obtain ⟨h0, h1, h2, h3, h4, h5, h6, h7, h8, h9⟩ := (unhide HH7).c10.1
  obtain ⟨hf0, hf1, hf2, hf3, hf4, hf5, hf6, hf7, hf8, hf9⟩ := (unhide HH7).c10.2
  have hl := (unhide HH7).2
  go_upto_region 19 with fail
  clear t0 t1 t2 t3 tl h0 h1 h2 h3 h4 h5 h6 h7 h8 h9 hf0 hf1 hf2 hf3 hf4 hf5 hf6 hf7 hf8 hf9 hl
  have HR8 := hide (((((unhide HR7).far (c := w.heap.size + 1) (by have := (unhide HB7).size; omega) 1 (.int .i64 ep)).far (c := w.heap.size + 1) (by have := (unhide HB7).size; omega) 2 (.int .i64 a)).far (c := w.heap.size + 1) (by have := (unhide HB7).size; omega) 3 (.int .i64 now)).far (c := w.heap.size + 1) (by have := (unhide HB7).size; omega) 4 (.int .i64 g))
  have HH8 : Hid (Held ((((w7.setCell ⟨w.heap.size + 1, 1, none⟩ (.int .i64 ep)).setCell ⟨w.heap.size + 1, 2, none⟩ (.int .i64 a)).setCell ⟨w.heap.size + 1, 3, none⟩ (.int .i64 now)).setCell ⟨w.heap.size + 1, 4, none⟩ (.int .i64 g)) (w.heap.size + 1) (nh a ep a now g ke kn ku kg s)) := hide (((((unhide HH7).put 1 (.int .i64 ep)).put 2 (.int .i64 a)).put 3 (.int .i64 now)).put 4 (.int .i64 g))
  have HT8 := hide (((((unhide HT7).far (c := w.heap.size + 1) (by have := (unhide HB7).size; omega) 1 (.int .i64 ep)).far (c := w.heap.size + 1) (by have := (unhide HB7).size; omega) 2 (.int .i64 a)).far (c := w.heap.size + 1) (by have := (unhide HB7).size; omega) 3 (.int .i64 now)).far (c := w.heap.size + 1) (by have := (unhide HB7).size; omega) 4 (.int .i64 g))
  have HN8 := hide (((((unhide HN7).far (c := w.heap.size + 1) (by have := (unhide HB7).size; omega) 1 (.int .i64 ep)).far (c := w.heap.size + 1) (by have := (unhide HB7).size; omega) 2 (.int .i64 a)).far (c := w.heap.size + 1) (by have := (unhide HB7).size; omega) 3 (.int .i64 now)).far (c := w.heap.size + 1) (by have := (unhide HB7).size; omega) 4 (.int .i64 g))
  have HB8 : Hid (Below w.heap.size w ((((w7.setCell ⟨w.heap.size + 1, 1, none⟩ (.int .i64 ep)).setCell ⟨w.heap.size + 1, 2, none⟩ (.int .i64 a)).setCell ⟨w.heap.size + 1, 3, none⟩ (.int .i64 now)).setCell ⟨w.heap.size + 1, 4, none⟩ (.int .i64 g))) := hide (by have := (unhide HB7).size; exact (by (repeat' (first | exact Below.refl _ _ | refine Below.alloc ?_ ?_ _ | refine Below.setCell ?_ ?_ _ | refine Below.drew ?_ | refine Below.trans ?_ (Below.mono (unhide HB7) ?_))); all_goals (first | exact Nat.le_refl _ | omega | (simp; done) | (simp; omega))))
  generalize ((((w7.setCell ⟨w.heap.size + 1, 1, none⟩ (.int .i64 ep)).setCell ⟨w.heap.size + 1, 2, none⟩ (.int .i64 a)).setCell ⟨w.heap.size + 1, 3, none⟩ (.int .i64 now)).setCell ⟨w.heap.size + 1, 4, none⟩ (.int .i64 g)) = w8 at HR8 HH8 HT8 HN8 HB8 ⊢
  obtain ⟨r0, r1, r2⟩ := (unhide HR8).c3.1
  have rl := (unhide HR8).2
  obtain ⟨h0, h1, h2, h3, h4, h5, h6, h7, h8, h9⟩ := (unhide HH8).c10.1
  have hl := (unhide HH8).2
  go_wp2_with fail
  refine (unhide CA2 _).mono ?_
  rintro e w9 ⟨rfl, hb9⟩
  clear r0 r1 r2 rl h0 h1 h2 h3 h4 h5 h6 h7 h8 h9 hl
  have HR9 := hide (((unhide HR8).later (by (repeat' (first | exact Below.refl _ _ | refine Below.alloc ?_ ?_ _ | refine Below.setCell ?_ ?_ _ | refine Below.drew ?_)); all_goals (first | exact Nat.le_refl _ | omega | (simp; done) | (simp; omega)))).later hb9)
  have HH9 := hide (((unhide HH8).later (by (repeat' (first | exact Below.refl _ _ | refine Below.alloc ?_ ?_ _ | refine Below.setCell ?_ ?_ _ | refine Below.drew ?_)); all_goals (first | exact Nat.le_refl _ | omega | (simp; done) | (simp; omega)))).later hb9)
  have HT9 := hide (((unhide HT8).later (by (repeat' (first | exact Below.refl _ _ | refine Below.alloc ?_ ?_ _ | refine Below.setCell ?_ ?_ _ | refine Below.drew ?_)); all_goals (first | exact Nat.le_refl _ | omega | (simp; done) | (simp; omega)))).later hb9)
  have HN9 := hide (((unhide HN8).later (by (repeat' (first | exact Below.refl _ _ | refine Below.alloc ?_ ?_ _ | refine Below.setCell ?_ ?_ _ | refine Below.drew ?_)); all_goals (first | exact Nat.le_refl _ | omega | (simp; done) | (simp; omega)))).later hb9)
  have HB9 := hide (show Below w.heap.size w w9 from (by have := (unhide HB8).size; exact Below.trans (by (repeat' (first | exact Below.refl _ _ | refine Below.alloc ?_ ?_ _ | refine Below.setCell ?_ ?_ _ | refine Below.drew ?_ | refine Below.trans ?_ (Below.mono (unhide HB8) ?_))); all_goals (first | exact Nat.le_refl _ | omega | (simp; done) | (simp; omega))) (hb9.mono (by first | omega | (simp; done) | (simp; omega)))))
  clear hb9
  obtain ⟨t0, t1, t2, t3⟩ := (unhide HT9).c4.1
  have tl := (unhide HT9).2
  obtain ⟨n0, n1, n2, n3⟩ := (unhide HN9).c4.1
  have nl := (unhide HN9).2
  go_wp2
  go_ret
  exact ⟨rfl, (by have := (unhide HB9).size; exact (by (repeat' (first | exact Below.refl _ _ | refine Below.alloc ?_ ?_ _ | refine Below.setCell ?_ ?_ _ | refine Below.drew ?_ | refine Below.trans ?_ (Below.mono (unhide HB9) ?_))); all_goals (first | exact Nat.le_refl _ | omega | (simp; done) | (simp; omega))))⟩

set_option maxHeartbeats 6400000 in
set_option maxRecDepth 8000 in
theorem means_bare (ep key old a te ta tt tg ke kn ku kg : Int) (s : ByteArray) (n now life K g c : Int) (o m2 : Bool) (w : World) (hn : 4 ≤ n) (hn2 : n < 8) (hn3 : ¬ n = 8) (hn4 : (n == 8) = false) (C0 : Hid (∀ w : World, Calls Try.prog 9 #[.int .i64 5] w fun e w' => e = .returned (.tuple #[.agg #[.int .i64 0, .int .i64 K, .int .i64 0], .nilIface]) ∧ Below w.heap.size w w')) (CA0 : Hid (∀ w : World, Calls Try.prog 10 #[.agg #[.int .i64 0, .int .i64 K, .int .i64 0], .agg #[.int .i64 3, .int .i64 0, .int .i64 0, .int .i64 0, .int .i64 0, .int .i64 0, .int .i64 0, .int .i64 0, .int .i64 0, .string ⟨#[120]⟩], .int .i64 5, .int .i64 1, .int .i64 9] w fun e w' => e = .returned (.tuple #[.int .i64 0, .bool false, .nilIface]) ∧ Below w.heap.size w w')) (CA1 : Hid (∀ w : World, Calls Try.prog 10 #[.agg #[.int .i64 ep, .int .i64 key, .int .i64 old], .agg #[.int .i64 a, .int .i64 te, .int .i64 ta, .int .i64 tt, .int .i64 tg, .int .i64 ke, .int .i64 kn, .int .i64 ku, .int .i64 kg, .string s], .int .i64 n, .int .i64 now, .int .i64 life] w fun e w' => e = .returned (.tuple #[.int .i64 0, .bool false, .nilIface]) ∧ Below w.heap.size w w')) (CO : Hid (∀ w : World, Calls Try.prog 11 #[.agg #[.int .i64 ep, .int .i64 key, .int .i64 old], .agg #[.int .i64 ke, .int .i64 kn, .int .i64 ku, .int .i64 kg], .int .i64 now] w fun e w' => e = .returned (.tuple #[.bool o, .nilIface]) ∧ Below w.heap.size w w')) (CT : Hid (∀ w : World, Calls Try.prog 12 #[.agg #[.int .i64 ep, .int .i64 key, .int .i64 old], .agg #[.int .i64 te, .int .i64 ta, .int .i64 tt, .int .i64 tg], .int .i64 a, .int .i64 now, .int .i64 life] w fun e w' => e = .returned (errV c) ∧ Below w.heap.size w w')) (CM : Hid (∀ w : World, Calls Try.prog 14 #[.agg #[.int .i64 ep, .int .i64 key, .int .i64 old], .int .i64 a, .int .i64 now] w fun e w' => e = .returned (.tuple #[.agg #[.int .i64 ep, .int .i64 a, .int .i64 now, .int .i64 g], .nilIface]) ∧ Below w.heap.size w w')) (CA2 : Hid (∀ w : World, Calls Try.prog 10 #[.agg #[.int .i64 ep, .int .i64 key, .int .i64 old], .agg #[.int .i64 a, .int .i64 ep, .int .i64 a, .int .i64 now, .int .i64 g, .int .i64 ke, .int .i64 kn, .int .i64 ku, .int .i64 kg, .string s], .int .i64 n, .int .i64 now, .int .i64 life] w fun e w' => e = .returned (.tuple #[.int .i64 1, .bool m2, .nilIface]) ∧ Below w.heap.size w w')) :
    Calls Try.prog 4 #[.agg #[.int .i64 ep, .int .i64 key, .int .i64 old], .agg #[.int .i64 a, .int .i64 te, .int .i64 ta, .int .i64 tt, .int .i64 tg, .int .i64 ke, .int .i64 kn, .int .i64 ku, .int .i64 kg, .string s], .int .i64 n, .int .i64 now, .int .i64 life] w fun e w' => e = .returned (.bool true) ∧ Below w.heap.size w w' := by
  go_enter Try.func4, Try.ntmps4
  go_wp2_with fail
  refine (unhide C0 _).mono ?_
  rintro e w1 ⟨rfl, hb1⟩
  have HR1 : Hid (Held w1 (w.heap.size) (n3 ep key old)) := hide (((Held.fresh (w := w) (n3 ep key old) 30 (by first | rfl | (simp; done))).later (by (repeat' (first | exact Below.refl _ _ | refine Below.alloc ?_ ?_ _ | refine Below.setCell ?_ ?_ _ | refine Below.drew ?_)); all_goals (first | exact Nat.le_refl _ | omega | (simp; done) | (simp; omega)))).later hb1)
  have HH1 : Hid (Held w1 (w.heap.size + 1) (nh a te ta tt tg ke kn ku kg s)) := hide (((Held.fresh (w := w.alloc (.cells (n3 ep key old).toArray 30)) (nh a te ta tt tg ke kn ku kg s) 36 (by first | rfl | (simp; done))).later (by (repeat' (first | exact Below.refl _ _ | refine Below.alloc ?_ ?_ _ | refine Below.setCell ?_ ?_ _ | refine Below.drew ?_)); all_goals (first | exact Nat.le_refl _ | omega | (simp; done) | (simp; omega)))).later hb1)
  have HB1 := hide (show Below w.heap.size w w1 from Below.trans (by (repeat' (first | exact Below.refl _ _ | refine Below.alloc ?_ ?_ _ | refine Below.setCell ?_ ?_ _ | refine Below.drew ?_)); all_goals (first | exact Nat.le_refl _ | omega | (simp; done) | (simp; omega))) (hb1.mono (by first | exact Nat.le_refl _ | (simp; done) | (simp; omega))))
  clear hb1
  go_wp2_with fail
  refine (unhide CA0 _).mono ?_
  rintro e w2 ⟨rfl, hb2⟩
  have HR2 := hide (((unhide HR1).later (by (repeat' (first | exact Below.refl _ _ | refine Below.alloc ?_ ?_ _ | refine Below.setCell ?_ ?_ _ | refine Below.drew ?_)); all_goals (first | exact Nat.le_refl _ | omega | (simp; done) | (simp; omega)))).later hb2)
  have HH2 := hide (((unhide HH1).later (by (repeat' (first | exact Below.refl _ _ | refine Below.alloc ?_ ?_ _ | refine Below.setCell ?_ ?_ _ | refine Below.drew ?_)); all_goals (first | exact Nat.le_refl _ | omega | (simp; done) | (simp; omega)))).later hb2)
  have HB2 := hide (show Below w.heap.size w w2 from (by have := (unhide HB1).size; exact Below.trans (by (repeat' (first | exact Below.refl _ _ | refine Below.alloc ?_ ?_ _ | refine Below.setCell ?_ ?_ _ | refine Below.drew ?_ | refine Below.trans ?_ (Below.mono (unhide HB1) ?_))); all_goals (first | exact Nat.le_refl _ | omega | (simp; done) | (simp; omega))) (hb2.mono (by first | omega | (simp; done) | (simp; omega)))))
  clear hb2
  obtain ⟨r0, r1, r2⟩ := (unhide HR2).c3.1
  have rl := (unhide HR2).2
  obtain ⟨h0, h1, h2, h3, h4, h5, h6, h7, h8, h9⟩ := (unhide HH2).c10.1
  have hl := (unhide HH2).2
  go_wp2_with fail
  refine (unhide CA1 _).mono ?_
  rintro e w3 ⟨rfl, hb3⟩
  clear r0 r1 r2 rl h0 h1 h2 h3 h4 h5 h6 h7 h8 h9 hl
  have HR3 := hide (((unhide HR2).later (by (repeat' (first | exact Below.refl _ _ | refine Below.alloc ?_ ?_ _ | refine Below.setCell ?_ ?_ _ | refine Below.drew ?_)); all_goals (first | exact Nat.le_refl _ | omega | (simp; done) | (simp; omega)))).later hb3)
  have HH3 := hide (((unhide HH2).later (by (repeat' (first | exact Below.refl _ _ | refine Below.alloc ?_ ?_ _ | refine Below.setCell ?_ ?_ _ | refine Below.drew ?_)); all_goals (first | exact Nat.le_refl _ | omega | (simp; done) | (simp; omega)))).later hb3)
  have HB3 := hide (show Below w.heap.size w w3 from (by have := (unhide HB2).size; exact Below.trans (by (repeat' (first | exact Below.refl _ _ | refine Below.alloc ?_ ?_ _ | refine Below.setCell ?_ ?_ _ | refine Below.drew ?_ | refine Below.trans ?_ (Below.mono (unhide HB2) ?_))); all_goals (first | exact Nat.le_refl _ | omega | (simp; done) | (simp; omega))) (hb3.mono (by first | omega | (simp; done) | (simp; omega)))))
  clear hb3
  obtain ⟨r0, r1, r2⟩ := (unhide HR3).c3.1
  have rl := (unhide HR3).2
  obtain ⟨h0, h1, h2, h3, h4, h5, h6, h7, h8, h9⟩ := (unhide HH3).c10.1
  have hl := (unhide HH3).2
  go_wp2_with fail
  refine (unhide CO _).mono ?_
  rintro e w4 ⟨rfl, hb4⟩
  clear r0 r1 r2 rl h0 h1 h2 h3 h4 h5 h6 h7 h8 h9 hl
  have HR4 := hide (((unhide HR3).later (by (repeat' (first | exact Below.refl _ _ | refine Below.alloc ?_ ?_ _ | refine Below.setCell ?_ ?_ _ | refine Below.drew ?_)); all_goals (first | exact Nat.le_refl _ | omega | (simp; done) | (simp; omega)))).later hb4)
  have HH4 := hide (((unhide HH3).later (by (repeat' (first | exact Below.refl _ _ | refine Below.alloc ?_ ?_ _ | refine Below.setCell ?_ ?_ _ | refine Below.drew ?_)); all_goals (first | exact Nat.le_refl _ | omega | (simp; done) | (simp; omega)))).later hb4)
  have HB4 := hide (show Below w.heap.size w w4 from (by have := (unhide HB3).size; exact Below.trans (by (repeat' (first | exact Below.refl _ _ | refine Below.alloc ?_ ?_ _ | refine Below.setCell ?_ ?_ _ | refine Below.drew ?_ | refine Below.trans ?_ (Below.mono (unhide HB3) ?_))); all_goals (first | exact Nat.le_refl _ | omega | (simp; done) | (simp; omega))) (hb4.mono (by first | omega | (simp; done) | (simp; omega)))))
  clear hb4
  obtain ⟨r0, r1, r2⟩ := (unhide HR4).c3.1
  have rl := (unhide HR4).2
  obtain ⟨h0, h1, h2, h3, h4, h5, h6, h7, h8, h9⟩ := (unhide HH4).c10.1
  have hl := (unhide HH4).2
  go_wp2_with fail
  refine (unhide CT _).mono ?_
  rintro e w5 ⟨rfl, hb5⟩
  clear r0 r1 r2 rl h0 h1 h2 h3 h4 h5 h6 h7 h8 h9 hl
  have HR5 := hide (((unhide HR4).later (by (repeat' (first | exact Below.refl _ _ | refine Below.alloc ?_ ?_ _ | refine Below.setCell ?_ ?_ _ | refine Below.drew ?_)); all_goals (first | exact Nat.le_refl _ | omega | (simp; done) | (simp; omega)))).later hb5)
  have HH5 := hide (((unhide HH4).later (by (repeat' (first | exact Below.refl _ _ | refine Below.alloc ?_ ?_ _ | refine Below.setCell ?_ ?_ _ | refine Below.drew ?_)); all_goals (first | exact Nat.le_refl _ | omega | (simp; done) | (simp; omega)))).later hb5)
  have HB5 := hide (show Below w.heap.size w w5 from (by have := (unhide HB4).size; exact Below.trans (by (repeat' (first | exact Below.refl _ _ | refine Below.alloc ?_ ?_ _ | refine Below.setCell ?_ ?_ _ | refine Below.drew ?_ | refine Below.trans ?_ (Below.mono (unhide HB4) ?_))); all_goals (first | exact Nat.le_refl _ | omega | (simp; done) | (simp; omega))) (hb5.mono (by first | omega | (simp; done) | (simp; omega)))))
  clear hb5
  obtain ⟨r0, r1, r2⟩ := (unhide HR5).c3.1
  have rl := (unhide HR5).2
  obtain ⟨h0, h1, h2, h3, h4, h5, h6, h7, h8, h9⟩ := (unhide HH5).c10.1
  have hl := (unhide HH5).2
  go_wp2_with fail
  refine (unhide CM _).mono ?_
  rintro e w6 ⟨rfl, hb6⟩
  clear r0 r1 r2 rl h0 h1 h2 h3 h4 h5 h6 h7 h8 h9 hl
  have HR6 := hide (((unhide HR5).later (by (repeat' (first | exact Below.refl _ _ | refine Below.alloc ?_ ?_ _ | refine Below.setCell ?_ ?_ _ | refine Below.drew ?_)); all_goals (first | exact Nat.le_refl _ | omega | (simp; done) | (simp; omega)))).later hb6)
  have HH6 := hide (((unhide HH5).later (by (repeat' (first | exact Below.refl _ _ | refine Below.alloc ?_ ?_ _ | refine Below.setCell ?_ ?_ _ | refine Below.drew ?_)); all_goals (first | exact Nat.le_refl _ | omega | (simp; done) | (simp; omega)))).later hb6)
  have HB6 := hide (show Below w.heap.size w w6 from (by have := (unhide HB5).size; exact Below.trans (by (repeat' (first | exact Below.refl _ _ | refine Below.alloc ?_ ?_ _ | refine Below.setCell ?_ ?_ _ | refine Below.drew ?_ | refine Below.trans ?_ (Below.mono (unhide HB5) ?_))); all_goals (first | exact Nat.le_refl _ | omega | (simp; done) | (simp; omega))) (hb6.mono (by first | omega | (simp; done) | (simp; omega)))))
  clear hb6
  go_upto_region 18 with fail
  have HR7 : Hid (Held ((w6.alloc (.cells #[.int .i64 ep, .int .i64 a, .int .i64 now, .int .i64 g] 32)).alloc (.cells #[.int .i64 0, .int .i64 0, .int .i64 0, .int .i64 0] 32)) _ _) := hide ((unhide HR6).later (by (repeat' (first | exact Below.refl _ _ | refine Below.alloc ?_ ?_ _ | refine Below.setCell ?_ ?_ _ | refine Below.drew ?_)); all_goals (first | exact Nat.le_refl _ | omega | (simp; done) | (simp; omega))))
  have HH7 : Hid (Held ((w6.alloc (.cells #[.int .i64 ep, .int .i64 a, .int .i64 now, .int .i64 g] 32)).alloc (.cells #[.int .i64 0, .int .i64 0, .int .i64 0, .int .i64 0] 32)) _ _) := hide ((unhide HH6).later (by (repeat' (first | exact Below.refl _ _ | refine Below.alloc ?_ ?_ _ | refine Below.setCell ?_ ?_ _ | refine Below.drew ?_)); all_goals (first | exact Nat.le_refl _ | omega | (simp; done) | (simp; omega))))
  have HT7 : Hid (Held ((w6.alloc (.cells #[.int .i64 ep, .int .i64 a, .int .i64 now, .int .i64 g] 32)).alloc (.cells #[.int .i64 0, .int .i64 0, .int .i64 0, .int .i64 0] 32)) w6.heap.size (n4 ep a now g)) := hide ((Held.fresh (w := w6) (n4 ep a now g) 32 rfl).later (Below.alloc (Below.refl _ _) (Nat.le_refl _) _))
  have HN7 : Hid (Held ((w6.alloc (.cells #[.int .i64 ep, .int .i64 a, .int .i64 now, .int .i64 g] 32)).alloc (.cells #[.int .i64 0, .int .i64 0, .int .i64 0, .int .i64 0] 32)) (w6.heap.size + 1) (n4 0 0 0 0)) := hide (Held.fresh (w := (w6.alloc (.cells #[.int .i64 ep, .int .i64 a, .int .i64 now, .int .i64 g] 32))) (n4 0 0 0 0) 32 (by simp))
  have HB7 : Hid (Below w.heap.size w ((w6.alloc (.cells #[.int .i64 ep, .int .i64 a, .int .i64 now, .int .i64 g] 32)).alloc (.cells #[.int .i64 0, .int .i64 0, .int .i64 0, .int .i64 0] 32))) := hide (by have := (unhide HB6).size; exact (by (repeat' (first | exact Below.refl _ _ | refine Below.alloc ?_ ?_ _ | refine Below.setCell ?_ ?_ _ | refine Below.drew ?_ | refine Below.trans ?_ (Below.mono (unhide HB6) ?_))); all_goals (first | exact Nat.le_refl _ | omega | (simp; done) | (simp; omega))))
  have z6 : w.heap.size + 1 < w6.heap.size := (unhide HH6).2
  generalize ((w6.alloc (.cells #[.int .i64 ep, .int .i64 a, .int .i64 now, .int .i64 g] 32)).alloc (.cells #[.int .i64 0, .int .i64 0, .int .i64 0, .int .i64 0] 32)) = w7 at HR7 HH7 HT7 HN7 HB7 ⊢
  obtain ⟨t0, t1, t2, t3⟩ := (unhide HT7).c4.1
  have tl := (unhide HT7).2
  obtain ⟨h0, h1, h2, h3, h4, h5, h6, h7, h8, h9⟩ := (unhide HH7).c10.1
  obtain ⟨hf0, hf1, hf2, hf3, hf4, hf5, hf6, hf7, hf8, hf9⟩ := (unhide HH7).c10.2
  have hl := (unhide HH7).2
  go_upto_region 19 with fail
  clear t0 t1 t2 t3 tl h0 h1 h2 h3 h4 h5 h6 h7 h8 h9 hf0 hf1 hf2 hf3 hf4 hf5 hf6 hf7 hf8 hf9 hl
  have HR8 := hide (((((unhide HR7).far (c := w.heap.size + 1) (by have := (unhide HB7).size; omega) 1 (.int .i64 ep)).far (c := w.heap.size + 1) (by have := (unhide HB7).size; omega) 2 (.int .i64 a)).far (c := w.heap.size + 1) (by have := (unhide HB7).size; omega) 3 (.int .i64 now)).far (c := w.heap.size + 1) (by have := (unhide HB7).size; omega) 4 (.int .i64 g))
  have HH8 : Hid (Held ((((w7.setCell ⟨w.heap.size + 1, 1, none⟩ (.int .i64 ep)).setCell ⟨w.heap.size + 1, 2, none⟩ (.int .i64 a)).setCell ⟨w.heap.size + 1, 3, none⟩ (.int .i64 now)).setCell ⟨w.heap.size + 1, 4, none⟩ (.int .i64 g)) (w.heap.size + 1) (nh a ep a now g ke kn ku kg s)) := hide (((((unhide HH7).put 1 (.int .i64 ep)).put 2 (.int .i64 a)).put 3 (.int .i64 now)).put 4 (.int .i64 g))
  have HT8 := hide (((((unhide HT7).far (c := w.heap.size + 1) (by have := (unhide HB7).size; omega) 1 (.int .i64 ep)).far (c := w.heap.size + 1) (by have := (unhide HB7).size; omega) 2 (.int .i64 a)).far (c := w.heap.size + 1) (by have := (unhide HB7).size; omega) 3 (.int .i64 now)).far (c := w.heap.size + 1) (by have := (unhide HB7).size; omega) 4 (.int .i64 g))
  have HN8 := hide (((((unhide HN7).far (c := w.heap.size + 1) (by have := (unhide HB7).size; omega) 1 (.int .i64 ep)).far (c := w.heap.size + 1) (by have := (unhide HB7).size; omega) 2 (.int .i64 a)).far (c := w.heap.size + 1) (by have := (unhide HB7).size; omega) 3 (.int .i64 now)).far (c := w.heap.size + 1) (by have := (unhide HB7).size; omega) 4 (.int .i64 g))
  have HB8 : Hid (Below w.heap.size w ((((w7.setCell ⟨w.heap.size + 1, 1, none⟩ (.int .i64 ep)).setCell ⟨w.heap.size + 1, 2, none⟩ (.int .i64 a)).setCell ⟨w.heap.size + 1, 3, none⟩ (.int .i64 now)).setCell ⟨w.heap.size + 1, 4, none⟩ (.int .i64 g))) := hide (by have := (unhide HB7).size; exact (by (repeat' (first | exact Below.refl _ _ | refine Below.alloc ?_ ?_ _ | refine Below.setCell ?_ ?_ _ | refine Below.drew ?_ | refine Below.trans ?_ (Below.mono (unhide HB7) ?_))); all_goals (first | exact Nat.le_refl _ | omega | (simp; done) | (simp; omega))))
  generalize ((((w7.setCell ⟨w.heap.size + 1, 1, none⟩ (.int .i64 ep)).setCell ⟨w.heap.size + 1, 2, none⟩ (.int .i64 a)).setCell ⟨w.heap.size + 1, 3, none⟩ (.int .i64 now)).setCell ⟨w.heap.size + 1, 4, none⟩ (.int .i64 g)) = w8 at HR8 HH8 HT8 HN8 HB8 ⊢
  obtain ⟨r0, r1, r2⟩ := (unhide HR8).c3.1
  have rl := (unhide HR8).2
  obtain ⟨h0, h1, h2, h3, h4, h5, h6, h7, h8, h9⟩ := (unhide HH8).c10.1
  have hl := (unhide HH8).2
  go_wp2_with fail
  refine (unhide CA2 _).mono ?_
  rintro e w9 ⟨rfl, hb9⟩
  clear r0 r1 r2 rl h0 h1 h2 h3 h4 h5 h6 h7 h8 h9 hl
  have HR9 := hide (((unhide HR8).later (by (repeat' (first | exact Below.refl _ _ | refine Below.alloc ?_ ?_ _ | refine Below.setCell ?_ ?_ _ | refine Below.drew ?_)); all_goals (first | exact Nat.le_refl _ | omega | (simp; done) | (simp; omega)))).later hb9)
  have HH9 := hide (((unhide HH8).later (by (repeat' (first | exact Below.refl _ _ | refine Below.alloc ?_ ?_ _ | refine Below.setCell ?_ ?_ _ | refine Below.drew ?_)); all_goals (first | exact Nat.le_refl _ | omega | (simp; done) | (simp; omega)))).later hb9)
  have HT9 := hide (((unhide HT8).later (by (repeat' (first | exact Below.refl _ _ | refine Below.alloc ?_ ?_ _ | refine Below.setCell ?_ ?_ _ | refine Below.drew ?_)); all_goals (first | exact Nat.le_refl _ | omega | (simp; done) | (simp; omega)))).later hb9)
  have HN9 := hide (((unhide HN8).later (by (repeat' (first | exact Below.refl _ _ | refine Below.alloc ?_ ?_ _ | refine Below.setCell ?_ ?_ _ | refine Below.drew ?_)); all_goals (first | exact Nat.le_refl _ | omega | (simp; done) | (simp; omega)))).later hb9)
  have HB9 := hide (show Below w.heap.size w w9 from (by have := (unhide HB8).size; exact Below.trans (by (repeat' (first | exact Below.refl _ _ | refine Below.alloc ?_ ?_ _ | refine Below.setCell ?_ ?_ _ | refine Below.drew ?_ | refine Below.trans ?_ (Below.mono (unhide HB8) ?_))); all_goals (first | exact Nat.le_refl _ | omega | (simp; done) | (simp; omega))) (hb9.mono (by first | omega | (simp; done) | (simp; omega)))))
  clear hb9
  obtain ⟨t0, t1, t2, t3⟩ := (unhide HT9).c4.1
  have tl := (unhide HT9).2
  obtain ⟨n0, n1, n2, n3⟩ := (unhide HN9).c4.1
  have nl := (unhide HN9).2
  go_wp2
  go_ret
  exact ⟨rfl, (by have := (unhide HB9).size; exact (by (repeat' (first | exact Below.refl _ _ | refine Below.alloc ?_ ?_ _ | refine Below.setCell ?_ ?_ _ | refine Below.drew ?_ | refine Below.trans ?_ (Below.mono (unhide HB9) ?_))); all_goals (first | exact Nat.le_refl _ | omega | (simp; done) | (simp; omega))))⟩

set_option maxHeartbeats 6400000 in
set_option maxRecDepth 8000 in
theorem means_bare_none (key old te ta tt tg ke kn ku kg : Int) (s : ByteArray) (n life K c : Int) (o m2 : Bool) (w : World) (hn : 4 ≤ n) (hn2 : n < 8) (hn3 : ¬ n = 8) (hn4 : (n == 8) = false) (C0 : Hid (∀ w : World, Calls Try.prog 9 #[.int .i64 5] w fun e w' => e = .returned (.tuple #[.agg #[.int .i64 0, .int .i64 K, .int .i64 0], .nilIface]) ∧ Below w.heap.size w w')) (CA0 : Hid (∀ w : World, Calls Try.prog 10 #[.agg #[.int .i64 0, .int .i64 K, .int .i64 0], .agg #[.int .i64 3, .int .i64 0, .int .i64 0, .int .i64 0, .int .i64 0, .int .i64 0, .int .i64 0, .int .i64 0, .int .i64 0, .string ⟨#[120]⟩], .int .i64 5, .int .i64 1, .int .i64 9] w fun e w' => e = .returned (.tuple #[.int .i64 0, .bool false, .nilIface]) ∧ Below w.heap.size w w')) (CA1 : Hid (∀ w : World, Calls Try.prog 10 #[.agg #[.int .i64 0, .int .i64 key, .int .i64 old], .agg #[.int .i64 0, .int .i64 te, .int .i64 ta, .int .i64 tt, .int .i64 tg, .int .i64 ke, .int .i64 kn, .int .i64 ku, .int .i64 kg, .string s], .int .i64 n, .int .i64 0, .int .i64 life] w fun e w' => e = .returned (.tuple #[.int .i64 0, .bool false, .nilIface]) ∧ Below w.heap.size w w')) (CO : Hid (∀ w : World, Calls Try.prog 11 #[.agg #[.int .i64 0, .int .i64 key, .int .i64 old], .agg #[.int .i64 ke, .int .i64 kn, .int .i64 ku, .int .i64 kg], .int .i64 0] w fun e w' => e = .returned (.tuple #[.bool o, .nilIface]) ∧ Below w.heap.size w w')) (CT : Hid (∀ w : World, Calls Try.prog 12 #[.agg #[.int .i64 0, .int .i64 key, .int .i64 old], .agg #[.int .i64 te, .int .i64 ta, .int .i64 tt, .int .i64 tg], .int .i64 0, .int .i64 0, .int .i64 life] w fun e w' => e = .returned (errV c) ∧ Below w.heap.size w w')) (CM : Hid (∀ w : World, Calls Try.prog 14 #[.agg #[.int .i64 0, .int .i64 key, .int .i64 old], .int .i64 0, .int .i64 0] w fun e w' => e = .returned (.tuple #[.agg #[.int .i64 0, .int .i64 0, .int .i64 0, .int .i64 0], .nilIface]) ∧ Below w.heap.size w w')) (CA2 : Hid (∀ w : World, Calls Try.prog 10 #[.agg #[.int .i64 0, .int .i64 key, .int .i64 old], .agg #[.int .i64 0, .int .i64 0, .int .i64 0, .int .i64 0, .int .i64 0, .int .i64 ke, .int .i64 kn, .int .i64 ku, .int .i64 kg, .string s], .int .i64 n, .int .i64 0, .int .i64 life] w fun e w' => e = .returned (.tuple #[.int .i64 0, .bool m2, .nilIface]) ∧ Below w.heap.size w w')) :
    Calls Try.prog 4 #[.agg #[.int .i64 0, .int .i64 key, .int .i64 old], .agg #[.int .i64 0, .int .i64 te, .int .i64 ta, .int .i64 tt, .int .i64 tg, .int .i64 ke, .int .i64 kn, .int .i64 ku, .int .i64 kg, .string s], .int .i64 n, .int .i64 0, .int .i64 life] w fun e w' => e = .returned (.bool true) ∧ Below w.heap.size w w' := by
  go_enter Try.func4, Try.ntmps4
  go_wp2_with fail
  refine (unhide C0 _).mono ?_
  rintro e w1 ⟨rfl, hb1⟩
  have HR1 : Hid (Held w1 (w.heap.size) (n3 0 key old)) := hide (((Held.fresh (w := w) (n3 0 key old) 30 (by first | rfl | (simp; done))).later (by (repeat' (first | exact Below.refl _ _ | refine Below.alloc ?_ ?_ _ | refine Below.setCell ?_ ?_ _ | refine Below.drew ?_)); all_goals (first | exact Nat.le_refl _ | omega | (simp; done) | (simp; omega)))).later hb1)
  have HH1 : Hid (Held w1 (w.heap.size + 1) (nh 0 te ta tt tg ke kn ku kg s)) := hide (((Held.fresh (w := w.alloc (.cells (n3 0 key old).toArray 30)) (nh 0 te ta tt tg ke kn ku kg s) 36 (by first | rfl | (simp; done))).later (by (repeat' (first | exact Below.refl _ _ | refine Below.alloc ?_ ?_ _ | refine Below.setCell ?_ ?_ _ | refine Below.drew ?_)); all_goals (first | exact Nat.le_refl _ | omega | (simp; done) | (simp; omega)))).later hb1)
  have HB1 := hide (show Below w.heap.size w w1 from Below.trans (by (repeat' (first | exact Below.refl _ _ | refine Below.alloc ?_ ?_ _ | refine Below.setCell ?_ ?_ _ | refine Below.drew ?_)); all_goals (first | exact Nat.le_refl _ | omega | (simp; done) | (simp; omega))) (hb1.mono (by first | exact Nat.le_refl _ | (simp; done) | (simp; omega))))
  clear hb1
  go_wp2_with fail
  refine (unhide CA0 _).mono ?_
  rintro e w2 ⟨rfl, hb2⟩
  have HR2 := hide (((unhide HR1).later (by (repeat' (first | exact Below.refl _ _ | refine Below.alloc ?_ ?_ _ | refine Below.setCell ?_ ?_ _ | refine Below.drew ?_)); all_goals (first | exact Nat.le_refl _ | omega | (simp; done) | (simp; omega)))).later hb2)
  have HH2 := hide (((unhide HH1).later (by (repeat' (first | exact Below.refl _ _ | refine Below.alloc ?_ ?_ _ | refine Below.setCell ?_ ?_ _ | refine Below.drew ?_)); all_goals (first | exact Nat.le_refl _ | omega | (simp; done) | (simp; omega)))).later hb2)
  have HB2 := hide (show Below w.heap.size w w2 from (by have := (unhide HB1).size; exact Below.trans (by (repeat' (first | exact Below.refl _ _ | refine Below.alloc ?_ ?_ _ | refine Below.setCell ?_ ?_ _ | refine Below.drew ?_ | refine Below.trans ?_ (Below.mono (unhide HB1) ?_))); all_goals (first | exact Nat.le_refl _ | omega | (simp; done) | (simp; omega))) (hb2.mono (by first | omega | (simp; done) | (simp; omega)))))
  clear hb2
  obtain ⟨r0, r1, r2⟩ := (unhide HR2).c3.1
  have rl := (unhide HR2).2
  obtain ⟨h0, h1, h2, h3, h4, h5, h6, h7, h8, h9⟩ := (unhide HH2).c10.1
  have hl := (unhide HH2).2
  go_wp2_with fail
  refine (unhide CA1 _).mono ?_
  rintro e w3 ⟨rfl, hb3⟩
  clear r0 r1 r2 rl h0 h1 h2 h3 h4 h5 h6 h7 h8 h9 hl
  have HR3 := hide (((unhide HR2).later (by (repeat' (first | exact Below.refl _ _ | refine Below.alloc ?_ ?_ _ | refine Below.setCell ?_ ?_ _ | refine Below.drew ?_)); all_goals (first | exact Nat.le_refl _ | omega | (simp; done) | (simp; omega)))).later hb3)
  have HH3 := hide (((unhide HH2).later (by (repeat' (first | exact Below.refl _ _ | refine Below.alloc ?_ ?_ _ | refine Below.setCell ?_ ?_ _ | refine Below.drew ?_)); all_goals (first | exact Nat.le_refl _ | omega | (simp; done) | (simp; omega)))).later hb3)
  have HB3 := hide (show Below w.heap.size w w3 from (by have := (unhide HB2).size; exact Below.trans (by (repeat' (first | exact Below.refl _ _ | refine Below.alloc ?_ ?_ _ | refine Below.setCell ?_ ?_ _ | refine Below.drew ?_ | refine Below.trans ?_ (Below.mono (unhide HB2) ?_))); all_goals (first | exact Nat.le_refl _ | omega | (simp; done) | (simp; omega))) (hb3.mono (by first | omega | (simp; done) | (simp; omega)))))
  clear hb3
  obtain ⟨r0, r1, r2⟩ := (unhide HR3).c3.1
  have rl := (unhide HR3).2
  obtain ⟨h0, h1, h2, h3, h4, h5, h6, h7, h8, h9⟩ := (unhide HH3).c10.1
  have hl := (unhide HH3).2
  go_wp2_with fail
  refine (unhide CO _).mono ?_
  rintro e w4 ⟨rfl, hb4⟩
  clear r0 r1 r2 rl h0 h1 h2 h3 h4 h5 h6 h7 h8 h9 hl
  have HR4 := hide (((unhide HR3).later (by (repeat' (first | exact Below.refl _ _ | refine Below.alloc ?_ ?_ _ | refine Below.setCell ?_ ?_ _ | refine Below.drew ?_)); all_goals (first | exact Nat.le_refl _ | omega | (simp; done) | (simp; omega)))).later hb4)
  have HH4 := hide (((unhide HH3).later (by (repeat' (first | exact Below.refl _ _ | refine Below.alloc ?_ ?_ _ | refine Below.setCell ?_ ?_ _ | refine Below.drew ?_)); all_goals (first | exact Nat.le_refl _ | omega | (simp; done) | (simp; omega)))).later hb4)
  have HB4 := hide (show Below w.heap.size w w4 from (by have := (unhide HB3).size; exact Below.trans (by (repeat' (first | exact Below.refl _ _ | refine Below.alloc ?_ ?_ _ | refine Below.setCell ?_ ?_ _ | refine Below.drew ?_ | refine Below.trans ?_ (Below.mono (unhide HB3) ?_))); all_goals (first | exact Nat.le_refl _ | omega | (simp; done) | (simp; omega))) (hb4.mono (by first | omega | (simp; done) | (simp; omega)))))
  clear hb4
  obtain ⟨r0, r1, r2⟩ := (unhide HR4).c3.1
  have rl := (unhide HR4).2
  obtain ⟨h0, h1, h2, h3, h4, h5, h6, h7, h8, h9⟩ := (unhide HH4).c10.1
  have hl := (unhide HH4).2
  go_wp2_with fail
  refine (unhide CT _).mono ?_
  rintro e w5 ⟨rfl, hb5⟩
  clear r0 r1 r2 rl h0 h1 h2 h3 h4 h5 h6 h7 h8 h9 hl
  have HR5 := hide (((unhide HR4).later (by (repeat' (first | exact Below.refl _ _ | refine Below.alloc ?_ ?_ _ | refine Below.setCell ?_ ?_ _ | refine Below.drew ?_)); all_goals (first | exact Nat.le_refl _ | omega | (simp; done) | (simp; omega)))).later hb5)
  have HH5 := hide (((unhide HH4).later (by (repeat' (first | exact Below.refl _ _ | refine Below.alloc ?_ ?_ _ | refine Below.setCell ?_ ?_ _ | refine Below.drew ?_)); all_goals (first | exact Nat.le_refl _ | omega | (simp; done) | (simp; omega)))).later hb5)
  have HB5 := hide (show Below w.heap.size w w5 from (by have := (unhide HB4).size; exact Below.trans (by (repeat' (first | exact Below.refl _ _ | refine Below.alloc ?_ ?_ _ | refine Below.setCell ?_ ?_ _ | refine Below.drew ?_ | refine Below.trans ?_ (Below.mono (unhide HB4) ?_))); all_goals (first | exact Nat.le_refl _ | omega | (simp; done) | (simp; omega))) (hb5.mono (by first | omega | (simp; done) | (simp; omega)))))
  clear hb5
  obtain ⟨r0, r1, r2⟩ := (unhide HR5).c3.1
  have rl := (unhide HR5).2
  obtain ⟨h0, h1, h2, h3, h4, h5, h6, h7, h8, h9⟩ := (unhide HH5).c10.1
  have hl := (unhide HH5).2
  go_wp2_with fail
  refine (unhide CM _).mono ?_
  rintro e w6 ⟨rfl, hb6⟩
  clear r0 r1 r2 rl h0 h1 h2 h3 h4 h5 h6 h7 h8 h9 hl
  have HR6 := hide (((unhide HR5).later (by (repeat' (first | exact Below.refl _ _ | refine Below.alloc ?_ ?_ _ | refine Below.setCell ?_ ?_ _ | refine Below.drew ?_)); all_goals (first | exact Nat.le_refl _ | omega | (simp; done) | (simp; omega)))).later hb6)
  have HH6 := hide (((unhide HH5).later (by (repeat' (first | exact Below.refl _ _ | refine Below.alloc ?_ ?_ _ | refine Below.setCell ?_ ?_ _ | refine Below.drew ?_)); all_goals (first | exact Nat.le_refl _ | omega | (simp; done) | (simp; omega)))).later hb6)
  have HB6 := hide (show Below w.heap.size w w6 from (by have := (unhide HB5).size; exact Below.trans (by (repeat' (first | exact Below.refl _ _ | refine Below.alloc ?_ ?_ _ | refine Below.setCell ?_ ?_ _ | refine Below.drew ?_ | refine Below.trans ?_ (Below.mono (unhide HB5) ?_))); all_goals (first | exact Nat.le_refl _ | omega | (simp; done) | (simp; omega))) (hb6.mono (by first | omega | (simp; done) | (simp; omega)))))
  clear hb6
  go_upto_region 18 with fail
  have HR7 : Hid (Held ((w6.alloc (.cells #[.int .i64 0, .int .i64 0, .int .i64 0, .int .i64 0] 32)).alloc (.cells #[.int .i64 0, .int .i64 0, .int .i64 0, .int .i64 0] 32)) _ _) := hide ((unhide HR6).later (by (repeat' (first | exact Below.refl _ _ | refine Below.alloc ?_ ?_ _ | refine Below.setCell ?_ ?_ _ | refine Below.drew ?_)); all_goals (first | exact Nat.le_refl _ | omega | (simp; done) | (simp; omega))))
  have HH7 : Hid (Held ((w6.alloc (.cells #[.int .i64 0, .int .i64 0, .int .i64 0, .int .i64 0] 32)).alloc (.cells #[.int .i64 0, .int .i64 0, .int .i64 0, .int .i64 0] 32)) _ _) := hide ((unhide HH6).later (by (repeat' (first | exact Below.refl _ _ | refine Below.alloc ?_ ?_ _ | refine Below.setCell ?_ ?_ _ | refine Below.drew ?_)); all_goals (first | exact Nat.le_refl _ | omega | (simp; done) | (simp; omega))))
  have HT7 : Hid (Held ((w6.alloc (.cells #[.int .i64 0, .int .i64 0, .int .i64 0, .int .i64 0] 32)).alloc (.cells #[.int .i64 0, .int .i64 0, .int .i64 0, .int .i64 0] 32)) w6.heap.size (n4 0 0 0 0)) := hide ((Held.fresh (w := w6) (n4 0 0 0 0) 32 rfl).later (Below.alloc (Below.refl _ _) (Nat.le_refl _) _))
  have HN7 : Hid (Held ((w6.alloc (.cells #[.int .i64 0, .int .i64 0, .int .i64 0, .int .i64 0] 32)).alloc (.cells #[.int .i64 0, .int .i64 0, .int .i64 0, .int .i64 0] 32)) (w6.heap.size + 1) (n4 0 0 0 0)) := hide (Held.fresh (w := (w6.alloc (.cells #[.int .i64 0, .int .i64 0, .int .i64 0, .int .i64 0] 32))) (n4 0 0 0 0) 32 (by simp))
  have HB7 : Hid (Below w.heap.size w ((w6.alloc (.cells #[.int .i64 0, .int .i64 0, .int .i64 0, .int .i64 0] 32)).alloc (.cells #[.int .i64 0, .int .i64 0, .int .i64 0, .int .i64 0] 32))) := hide (by have := (unhide HB6).size; exact (by (repeat' (first | exact Below.refl _ _ | refine Below.alloc ?_ ?_ _ | refine Below.setCell ?_ ?_ _ | refine Below.drew ?_ | refine Below.trans ?_ (Below.mono (unhide HB6) ?_))); all_goals (first | exact Nat.le_refl _ | omega | (simp; done) | (simp; omega))))
  have z6 : w.heap.size + 1 < w6.heap.size := (unhide HH6).2
  generalize ((w6.alloc (.cells #[.int .i64 0, .int .i64 0, .int .i64 0, .int .i64 0] 32)).alloc (.cells #[.int .i64 0, .int .i64 0, .int .i64 0, .int .i64 0] 32)) = w7 at HR7 HH7 HT7 HN7 HB7 ⊢
  obtain ⟨t0, t1, t2, t3⟩ := (unhide HT7).c4.1
  have tl := (unhide HT7).2
  obtain ⟨h0, h1, h2, h3, h4, h5, h6, h7, h8, h9⟩ := (unhide HH7).c10.1
  obtain ⟨hf0, hf1, hf2, hf3, hf4, hf5, hf6, hf7, hf8, hf9⟩ := (unhide HH7).c10.2
  have hl := (unhide HH7).2
  go_upto_region 19 with fail
  clear t0 t1 t2 t3 tl h0 h1 h2 h3 h4 h5 h6 h7 h8 h9 hf0 hf1 hf2 hf3 hf4 hf5 hf6 hf7 hf8 hf9 hl
  have HR8 := hide (((((unhide HR7).far (c := w.heap.size + 1) (by have := (unhide HB7).size; omega) 1 (.int .i64 0)).far (c := w.heap.size + 1) (by have := (unhide HB7).size; omega) 2 (.int .i64 0)).far (c := w.heap.size + 1) (by have := (unhide HB7).size; omega) 3 (.int .i64 0)).far (c := w.heap.size + 1) (by have := (unhide HB7).size; omega) 4 (.int .i64 0))
  have HH8 : Hid (Held ((((w7.setCell ⟨w.heap.size + 1, 1, none⟩ (.int .i64 0)).setCell ⟨w.heap.size + 1, 2, none⟩ (.int .i64 0)).setCell ⟨w.heap.size + 1, 3, none⟩ (.int .i64 0)).setCell ⟨w.heap.size + 1, 4, none⟩ (.int .i64 0)) (w.heap.size + 1) (nh 0 0 0 0 0 ke kn ku kg s)) := hide (((((unhide HH7).put 1 (.int .i64 0)).put 2 (.int .i64 0)).put 3 (.int .i64 0)).put 4 (.int .i64 0))
  have HT8 := hide (((((unhide HT7).far (c := w.heap.size + 1) (by have := (unhide HB7).size; omega) 1 (.int .i64 0)).far (c := w.heap.size + 1) (by have := (unhide HB7).size; omega) 2 (.int .i64 0)).far (c := w.heap.size + 1) (by have := (unhide HB7).size; omega) 3 (.int .i64 0)).far (c := w.heap.size + 1) (by have := (unhide HB7).size; omega) 4 (.int .i64 0))
  have HN8 := hide (((((unhide HN7).far (c := w.heap.size + 1) (by have := (unhide HB7).size; omega) 1 (.int .i64 0)).far (c := w.heap.size + 1) (by have := (unhide HB7).size; omega) 2 (.int .i64 0)).far (c := w.heap.size + 1) (by have := (unhide HB7).size; omega) 3 (.int .i64 0)).far (c := w.heap.size + 1) (by have := (unhide HB7).size; omega) 4 (.int .i64 0))
  have HB8 : Hid (Below w.heap.size w ((((w7.setCell ⟨w.heap.size + 1, 1, none⟩ (.int .i64 0)).setCell ⟨w.heap.size + 1, 2, none⟩ (.int .i64 0)).setCell ⟨w.heap.size + 1, 3, none⟩ (.int .i64 0)).setCell ⟨w.heap.size + 1, 4, none⟩ (.int .i64 0))) := hide (by have := (unhide HB7).size; exact (by (repeat' (first | exact Below.refl _ _ | refine Below.alloc ?_ ?_ _ | refine Below.setCell ?_ ?_ _ | refine Below.drew ?_ | refine Below.trans ?_ (Below.mono (unhide HB7) ?_))); all_goals (first | exact Nat.le_refl _ | omega | (simp; done) | (simp; omega))))
  generalize ((((w7.setCell ⟨w.heap.size + 1, 1, none⟩ (.int .i64 0)).setCell ⟨w.heap.size + 1, 2, none⟩ (.int .i64 0)).setCell ⟨w.heap.size + 1, 3, none⟩ (.int .i64 0)).setCell ⟨w.heap.size + 1, 4, none⟩ (.int .i64 0)) = w8 at HR8 HH8 HT8 HN8 HB8 ⊢
  obtain ⟨r0, r1, r2⟩ := (unhide HR8).c3.1
  have rl := (unhide HR8).2
  obtain ⟨h0, h1, h2, h3, h4, h5, h6, h7, h8, h9⟩ := (unhide HH8).c10.1
  have hl := (unhide HH8).2
  go_wp2_with fail
  refine (unhide CA2 _).mono ?_
  rintro e w9 ⟨rfl, hb9⟩
  clear r0 r1 r2 rl h0 h1 h2 h3 h4 h5 h6 h7 h8 h9 hl
  have HR9 := hide (((unhide HR8).later (by (repeat' (first | exact Below.refl _ _ | refine Below.alloc ?_ ?_ _ | refine Below.setCell ?_ ?_ _ | refine Below.drew ?_)); all_goals (first | exact Nat.le_refl _ | omega | (simp; done) | (simp; omega)))).later hb9)
  have HH9 := hide (((unhide HH8).later (by (repeat' (first | exact Below.refl _ _ | refine Below.alloc ?_ ?_ _ | refine Below.setCell ?_ ?_ _ | refine Below.drew ?_)); all_goals (first | exact Nat.le_refl _ | omega | (simp; done) | (simp; omega)))).later hb9)
  have HT9 := hide (((unhide HT8).later (by (repeat' (first | exact Below.refl _ _ | refine Below.alloc ?_ ?_ _ | refine Below.setCell ?_ ?_ _ | refine Below.drew ?_)); all_goals (first | exact Nat.le_refl _ | omega | (simp; done) | (simp; omega)))).later hb9)
  have HN9 := hide (((unhide HN8).later (by (repeat' (first | exact Below.refl _ _ | refine Below.alloc ?_ ?_ _ | refine Below.setCell ?_ ?_ _ | refine Below.drew ?_)); all_goals (first | exact Nat.le_refl _ | omega | (simp; done) | (simp; omega)))).later hb9)
  have HB9 := hide (show Below w.heap.size w w9 from (by have := (unhide HB8).size; exact Below.trans (by (repeat' (first | exact Below.refl _ _ | refine Below.alloc ?_ ?_ _ | refine Below.setCell ?_ ?_ _ | refine Below.drew ?_ | refine Below.trans ?_ (Below.mono (unhide HB8) ?_))); all_goals (first | exact Nat.le_refl _ | omega | (simp; done) | (simp; omega))) (hb9.mono (by first | omega | (simp; done) | (simp; omega)))))
  clear hb9
  obtain ⟨t0, t1, t2, t3⟩ := (unhide HT9).c4.1
  have tl := (unhide HT9).2
  obtain ⟨n0, n1, n2, n3⟩ := (unhide HN9).c4.1
  have nl := (unhide HN9).2
  go_wp2
  go_ret
  exact ⟨rfl, (by have := (unhide HB9).size; exact (by (repeat' (first | exact Below.refl _ _ | refine Below.alloc ?_ ?_ _ | refine Below.setCell ?_ ?_ _ | refine Below.drew ?_ | refine Below.trans ?_ (Below.mono (unhide HB9) ?_))); all_goals (first | exact Nat.le_refl _ | omega | (simp; done) | (simp; omega))))⟩

set_option maxHeartbeats 6400000 in
set_option maxRecDepth 8000 in
theorem means_old_t (ep key old a te ta tt tg ke kn ku kg : Int) (s : ByteArray) (n now life K g c : Int) (m2 : Bool) (w : World) (hs : ¬ s.size = 0) (hn : 4 ≤ n) (hn2 : n < 8) (hn3 : ¬ n = 8) (hn4 : (n == 8) = false) (C0 : Hid (∀ w : World, Calls Try.prog 9 #[.int .i64 5] w fun e w' => e = .returned (.tuple #[.agg #[.int .i64 0, .int .i64 K, .int .i64 0], .nilIface]) ∧ Below w.heap.size w w')) (CA0 : Hid (∀ w : World, Calls Try.prog 10 #[.agg #[.int .i64 0, .int .i64 K, .int .i64 0], .agg #[.int .i64 3, .int .i64 0, .int .i64 0, .int .i64 0, .int .i64 0, .int .i64 0, .int .i64 0, .int .i64 0, .int .i64 0, .string ⟨#[120]⟩], .int .i64 5, .int .i64 1, .int .i64 9] w fun e w' => e = .returned (.tuple #[.int .i64 0, .bool false, .nilIface]) ∧ Below w.heap.size w w')) (CA1 : Hid (∀ w : World, Calls Try.prog 10 #[.agg #[.int .i64 ep, .int .i64 key, .int .i64 old], .agg #[.int .i64 a, .int .i64 te, .int .i64 ta, .int .i64 tt, .int .i64 tg, .int .i64 ke, .int .i64 kn, .int .i64 ku, .int .i64 kg, .string s], .int .i64 n, .int .i64 now, .int .i64 life] w fun e w' => e = .returned (.tuple #[.int .i64 1, .bool true, .nilIface]) ∧ Below w.heap.size w w')) (CO : Hid (∀ w : World, Calls Try.prog 11 #[.agg #[.int .i64 ep, .int .i64 key, .int .i64 old], .agg #[.int .i64 ke, .int .i64 kn, .int .i64 ku, .int .i64 kg], .int .i64 now] w fun e w' => e = .returned (.tuple #[.bool true, .nilIface]) ∧ Below w.heap.size w w')) (CT : Hid (∀ w : World, Calls Try.prog 12 #[.agg #[.int .i64 ep, .int .i64 key, .int .i64 old], .agg #[.int .i64 te, .int .i64 ta, .int .i64 tt, .int .i64 tg], .int .i64 a, .int .i64 now, .int .i64 life] w fun e w' => e = .returned (errV c) ∧ Below w.heap.size w w')) (CK : Hid (∀ w : World, Calls Try.prog 13 #[.agg #[.int .i64 ep, .int .i64 key, .int .i64 old], .agg #[.int .i64 ke, .int .i64 kn, .int .i64 ku, .int .i64 kg], .int .i64 now] w fun e w' => e = .returned (.nilIface) ∧ Below w.heap.size w w')) (CM : Hid (∀ w : World, Calls Try.prog 14 #[.agg #[.int .i64 ep, .int .i64 key, .int .i64 old], .int .i64 a, .int .i64 now] w fun e w' => e = .returned (.tuple #[.agg #[.int .i64 ep, .int .i64 a, .int .i64 now, .int .i64 g], .nilIface]) ∧ Below w.heap.size w w')) (CA2 : Hid (∀ w : World, Calls Try.prog 10 #[.agg #[.int .i64 ep, .int .i64 key, .int .i64 old], .agg #[.int .i64 a, .int .i64 ep, .int .i64 a, .int .i64 now, .int .i64 g, .int .i64 ke, .int .i64 kn, .int .i64 ku, .int .i64 kg, .string s], .int .i64 n, .int .i64 now, .int .i64 life] w fun e w' => e = .returned (.tuple #[.int .i64 1, .bool m2, .nilIface]) ∧ Below w.heap.size w w')) :
    Calls Try.prog 4 #[.agg #[.int .i64 ep, .int .i64 key, .int .i64 old], .agg #[.int .i64 a, .int .i64 te, .int .i64 ta, .int .i64 tt, .int .i64 tg, .int .i64 ke, .int .i64 kn, .int .i64 ku, .int .i64 kg, .string s], .int .i64 n, .int .i64 now, .int .i64 life] w fun e w' => e = .returned (.bool true) ∧ Below w.heap.size w w' := by
  have q1 := JudgeM.str_some hs
  have q2 : ¬ s.toList = [] := by simpa using q1
  have q3 : s.toList.isEmpty = false := by simpa using q1
  clear hs
  go_enter Try.func4, Try.ntmps4
  go_wp2_with fail
  refine (unhide C0 _).mono ?_
  rintro e w1 ⟨rfl, hb1⟩
  have HR1 : Hid (Held w1 (w.heap.size) (n3 ep key old)) := hide (((Held.fresh (w := w) (n3 ep key old) 30 (by first | rfl | (simp; done))).later (by (repeat' (first | exact Below.refl _ _ | refine Below.alloc ?_ ?_ _ | refine Below.setCell ?_ ?_ _ | refine Below.drew ?_)); all_goals (first | exact Nat.le_refl _ | omega | (simp; done) | (simp; omega)))).later hb1)
  have HH1 : Hid (Held w1 (w.heap.size + 1) (nh a te ta tt tg ke kn ku kg s)) := hide (((Held.fresh (w := w.alloc (.cells (n3 ep key old).toArray 30)) (nh a te ta tt tg ke kn ku kg s) 36 (by first | rfl | (simp; done))).later (by (repeat' (first | exact Below.refl _ _ | refine Below.alloc ?_ ?_ _ | refine Below.setCell ?_ ?_ _ | refine Below.drew ?_)); all_goals (first | exact Nat.le_refl _ | omega | (simp; done) | (simp; omega)))).later hb1)
  have HB1 := hide (show Below w.heap.size w w1 from Below.trans (by (repeat' (first | exact Below.refl _ _ | refine Below.alloc ?_ ?_ _ | refine Below.setCell ?_ ?_ _ | refine Below.drew ?_)); all_goals (first | exact Nat.le_refl _ | omega | (simp; done) | (simp; omega))) (hb1.mono (by first | exact Nat.le_refl _ | (simp; done) | (simp; omega))))
  clear hb1
  go_wp2_with fail
  refine (unhide CA0 _).mono ?_
  rintro e w2 ⟨rfl, hb2⟩
  have HR2 := hide (((unhide HR1).later (by (repeat' (first | exact Below.refl _ _ | refine Below.alloc ?_ ?_ _ | refine Below.setCell ?_ ?_ _ | refine Below.drew ?_)); all_goals (first | exact Nat.le_refl _ | omega | (simp; done) | (simp; omega)))).later hb2)
  have HH2 := hide (((unhide HH1).later (by (repeat' (first | exact Below.refl _ _ | refine Below.alloc ?_ ?_ _ | refine Below.setCell ?_ ?_ _ | refine Below.drew ?_)); all_goals (first | exact Nat.le_refl _ | omega | (simp; done) | (simp; omega)))).later hb2)
  have HB2 := hide (show Below w.heap.size w w2 from (by have := (unhide HB1).size; exact Below.trans (by (repeat' (first | exact Below.refl _ _ | refine Below.alloc ?_ ?_ _ | refine Below.setCell ?_ ?_ _ | refine Below.drew ?_ | refine Below.trans ?_ (Below.mono (unhide HB1) ?_))); all_goals (first | exact Nat.le_refl _ | omega | (simp; done) | (simp; omega))) (hb2.mono (by first | omega | (simp; done) | (simp; omega)))))
  clear hb2
  obtain ⟨r0, r1, r2⟩ := (unhide HR2).c3.1
  have rl := (unhide HR2).2
  obtain ⟨h0, h1, h2, h3, h4, h5, h6, h7, h8, h9⟩ := (unhide HH2).c10.1
  have hl := (unhide HH2).2
  go_wp2_with fail
  refine (unhide CA1 _).mono ?_
  rintro e w3 ⟨rfl, hb3⟩
  clear r0 r1 r2 rl h0 h1 h2 h3 h4 h5 h6 h7 h8 h9 hl
  have HR3 := hide (((unhide HR2).later (by (repeat' (first | exact Below.refl _ _ | refine Below.alloc ?_ ?_ _ | refine Below.setCell ?_ ?_ _ | refine Below.drew ?_)); all_goals (first | exact Nat.le_refl _ | omega | (simp; done) | (simp; omega)))).later hb3)
  have HH3 := hide (((unhide HH2).later (by (repeat' (first | exact Below.refl _ _ | refine Below.alloc ?_ ?_ _ | refine Below.setCell ?_ ?_ _ | refine Below.drew ?_)); all_goals (first | exact Nat.le_refl _ | omega | (simp; done) | (simp; omega)))).later hb3)
  have HB3 := hide (show Below w.heap.size w w3 from (by have := (unhide HB2).size; exact Below.trans (by (repeat' (first | exact Below.refl _ _ | refine Below.alloc ?_ ?_ _ | refine Below.setCell ?_ ?_ _ | refine Below.drew ?_ | refine Below.trans ?_ (Below.mono (unhide HB2) ?_))); all_goals (first | exact Nat.le_refl _ | omega | (simp; done) | (simp; omega))) (hb3.mono (by first | omega | (simp; done) | (simp; omega)))))
  clear hb3
  obtain ⟨r0, r1, r2⟩ := (unhide HR3).c3.1
  have rl := (unhide HR3).2
  obtain ⟨h0, h1, h2, h3, h4, h5, h6, h7, h8, h9⟩ := (unhide HH3).c10.1
  have hl := (unhide HH3).2
  go_wp2_with fail
  refine (unhide CO _).mono ?_
  rintro e w4 ⟨rfl, hb4⟩
  clear r0 r1 r2 rl h0 h1 h2 h3 h4 h5 h6 h7 h8 h9 hl
  have HR4 := hide (((unhide HR3).later (by (repeat' (first | exact Below.refl _ _ | refine Below.alloc ?_ ?_ _ | refine Below.setCell ?_ ?_ _ | refine Below.drew ?_)); all_goals (first | exact Nat.le_refl _ | omega | (simp; done) | (simp; omega)))).later hb4)
  have HH4 := hide (((unhide HH3).later (by (repeat' (first | exact Below.refl _ _ | refine Below.alloc ?_ ?_ _ | refine Below.setCell ?_ ?_ _ | refine Below.drew ?_)); all_goals (first | exact Nat.le_refl _ | omega | (simp; done) | (simp; omega)))).later hb4)
  have HB4 := hide (show Below w.heap.size w w4 from (by have := (unhide HB3).size; exact Below.trans (by (repeat' (first | exact Below.refl _ _ | refine Below.alloc ?_ ?_ _ | refine Below.setCell ?_ ?_ _ | refine Below.drew ?_ | refine Below.trans ?_ (Below.mono (unhide HB3) ?_))); all_goals (first | exact Nat.le_refl _ | omega | (simp; done) | (simp; omega))) (hb4.mono (by first | omega | (simp; done) | (simp; omega)))))
  clear hb4
  obtain ⟨r0, r1, r2⟩ := (unhide HR4).c3.1
  have rl := (unhide HR4).2
  obtain ⟨h0, h1, h2, h3, h4, h5, h6, h7, h8, h9⟩ := (unhide HH4).c10.1
  have hl := (unhide HH4).2
  go_wp2_with fail
  refine (unhide CT _).mono ?_
  rintro e w5 ⟨rfl, hb5⟩
  clear r0 r1 r2 rl h0 h1 h2 h3 h4 h5 h6 h7 h8 h9 hl
  have HR5 := hide (((unhide HR4).later (by (repeat' (first | exact Below.refl _ _ | refine Below.alloc ?_ ?_ _ | refine Below.setCell ?_ ?_ _ | refine Below.drew ?_)); all_goals (first | exact Nat.le_refl _ | omega | (simp; done) | (simp; omega)))).later hb5)
  have HH5 := hide (((unhide HH4).later (by (repeat' (first | exact Below.refl _ _ | refine Below.alloc ?_ ?_ _ | refine Below.setCell ?_ ?_ _ | refine Below.drew ?_)); all_goals (first | exact Nat.le_refl _ | omega | (simp; done) | (simp; omega)))).later hb5)
  have HB5 := hide (show Below w.heap.size w w5 from (by have := (unhide HB4).size; exact Below.trans (by (repeat' (first | exact Below.refl _ _ | refine Below.alloc ?_ ?_ _ | refine Below.setCell ?_ ?_ _ | refine Below.drew ?_ | refine Below.trans ?_ (Below.mono (unhide HB4) ?_))); all_goals (first | exact Nat.le_refl _ | omega | (simp; done) | (simp; omega))) (hb5.mono (by first | omega | (simp; done) | (simp; omega)))))
  clear hb5
  obtain ⟨r0, r1, r2⟩ := (unhide HR5).c3.1
  have rl := (unhide HR5).2
  obtain ⟨h0, h1, h2, h3, h4, h5, h6, h7, h8, h9⟩ := (unhide HH5).c10.1
  have hl := (unhide HH5).2
  go_wp2_with fail
  refine (unhide CK _).mono ?_
  rintro e w6 ⟨rfl, hb6⟩
  clear r0 r1 r2 rl h0 h1 h2 h3 h4 h5 h6 h7 h8 h9 hl
  have HR6 := hide (((unhide HR5).later (by (repeat' (first | exact Below.refl _ _ | refine Below.alloc ?_ ?_ _ | refine Below.setCell ?_ ?_ _ | refine Below.drew ?_)); all_goals (first | exact Nat.le_refl _ | omega | (simp; done) | (simp; omega)))).later hb6)
  have HH6 := hide (((unhide HH5).later (by (repeat' (first | exact Below.refl _ _ | refine Below.alloc ?_ ?_ _ | refine Below.setCell ?_ ?_ _ | refine Below.drew ?_)); all_goals (first | exact Nat.le_refl _ | omega | (simp; done) | (simp; omega)))).later hb6)
  have HB6 := hide (show Below w.heap.size w w6 from (by have := (unhide HB5).size; exact Below.trans (by (repeat' (first | exact Below.refl _ _ | refine Below.alloc ?_ ?_ _ | refine Below.setCell ?_ ?_ _ | refine Below.drew ?_ | refine Below.trans ?_ (Below.mono (unhide HB5) ?_))); all_goals (first | exact Nat.le_refl _ | omega | (simp; done) | (simp; omega))) (hb6.mono (by first | omega | (simp; done) | (simp; omega)))))
  clear hb6
  obtain ⟨r0, r1, r2⟩ := (unhide HR6).c3.1
  have rl := (unhide HR6).2
  obtain ⟨h0, h1, h2, h3, h4, h5, h6, h7, h8, h9⟩ := (unhide HH6).c10.1
  have hl := (unhide HH6).2
  go_wp2_with fail
  refine (unhide CM _).mono ?_
  rintro e w7 ⟨rfl, hb7⟩
  clear r0 r1 r2 rl h0 h1 h2 h3 h4 h5 h6 h7 h8 h9 hl
  have HR7 := hide (((unhide HR6).later (by (repeat' (first | exact Below.refl _ _ | refine Below.alloc ?_ ?_ _ | refine Below.setCell ?_ ?_ _ | refine Below.drew ?_)); all_goals (first | exact Nat.le_refl _ | omega | (simp; done) | (simp; omega)))).later hb7)
  have HH7 := hide (((unhide HH6).later (by (repeat' (first | exact Below.refl _ _ | refine Below.alloc ?_ ?_ _ | refine Below.setCell ?_ ?_ _ | refine Below.drew ?_)); all_goals (first | exact Nat.le_refl _ | omega | (simp; done) | (simp; omega)))).later hb7)
  have HB7 := hide (show Below w.heap.size w w7 from (by have := (unhide HB6).size; exact Below.trans (by (repeat' (first | exact Below.refl _ _ | refine Below.alloc ?_ ?_ _ | refine Below.setCell ?_ ?_ _ | refine Below.drew ?_ | refine Below.trans ?_ (Below.mono (unhide HB6) ?_))); all_goals (first | exact Nat.le_refl _ | omega | (simp; done) | (simp; omega))) (hb7.mono (by first | omega | (simp; done) | (simp; omega)))))
  clear hb7
  go_upto_region 18 with fail
  have HR8 : Hid (Held ((w7.alloc (.cells #[.int .i64 ep, .int .i64 a, .int .i64 now, .int .i64 g] 32)).alloc (.cells #[.int .i64 0, .int .i64 0, .int .i64 0, .int .i64 0] 32)) _ _) := hide ((unhide HR7).later (by (repeat' (first | exact Below.refl _ _ | refine Below.alloc ?_ ?_ _ | refine Below.setCell ?_ ?_ _ | refine Below.drew ?_)); all_goals (first | exact Nat.le_refl _ | omega | (simp; done) | (simp; omega))))
  have HH8 : Hid (Held ((w7.alloc (.cells #[.int .i64 ep, .int .i64 a, .int .i64 now, .int .i64 g] 32)).alloc (.cells #[.int .i64 0, .int .i64 0, .int .i64 0, .int .i64 0] 32)) _ _) := hide ((unhide HH7).later (by (repeat' (first | exact Below.refl _ _ | refine Below.alloc ?_ ?_ _ | refine Below.setCell ?_ ?_ _ | refine Below.drew ?_)); all_goals (first | exact Nat.le_refl _ | omega | (simp; done) | (simp; omega))))
  have HT8 : Hid (Held ((w7.alloc (.cells #[.int .i64 ep, .int .i64 a, .int .i64 now, .int .i64 g] 32)).alloc (.cells #[.int .i64 0, .int .i64 0, .int .i64 0, .int .i64 0] 32)) w7.heap.size (n4 ep a now g)) := hide ((Held.fresh (w := w7) (n4 ep a now g) 32 rfl).later (Below.alloc (Below.refl _ _) (Nat.le_refl _) _))
  have HN8 : Hid (Held ((w7.alloc (.cells #[.int .i64 ep, .int .i64 a, .int .i64 now, .int .i64 g] 32)).alloc (.cells #[.int .i64 0, .int .i64 0, .int .i64 0, .int .i64 0] 32)) (w7.heap.size + 1) (n4 0 0 0 0)) := hide (Held.fresh (w := (w7.alloc (.cells #[.int .i64 ep, .int .i64 a, .int .i64 now, .int .i64 g] 32))) (n4 0 0 0 0) 32 (by simp))
  have HB8 : Hid (Below w.heap.size w ((w7.alloc (.cells #[.int .i64 ep, .int .i64 a, .int .i64 now, .int .i64 g] 32)).alloc (.cells #[.int .i64 0, .int .i64 0, .int .i64 0, .int .i64 0] 32))) := hide (by have := (unhide HB7).size; exact (by (repeat' (first | exact Below.refl _ _ | refine Below.alloc ?_ ?_ _ | refine Below.setCell ?_ ?_ _ | refine Below.drew ?_ | refine Below.trans ?_ (Below.mono (unhide HB7) ?_))); all_goals (first | exact Nat.le_refl _ | omega | (simp; done) | (simp; omega))))
  have z7 : w.heap.size + 1 < w7.heap.size := (unhide HH7).2
  generalize ((w7.alloc (.cells #[.int .i64 ep, .int .i64 a, .int .i64 now, .int .i64 g] 32)).alloc (.cells #[.int .i64 0, .int .i64 0, .int .i64 0, .int .i64 0] 32)) = w8 at HR8 HH8 HT8 HN8 HB8 ⊢
  obtain ⟨t0, t1, t2, t3⟩ := (unhide HT8).c4.1
  have tl := (unhide HT8).2
  obtain ⟨h0, h1, h2, h3, h4, h5, h6, h7, h8, h9⟩ := (unhide HH8).c10.1
  obtain ⟨hf0, hf1, hf2, hf3, hf4, hf5, hf6, hf7, hf8, hf9⟩ := (unhide HH8).c10.2
  have hl := (unhide HH8).2
  go_upto_region 19 with fail
  clear t0 t1 t2 t3 tl h0 h1 h2 h3 h4 h5 h6 h7 h8 h9 hf0 hf1 hf2 hf3 hf4 hf5 hf6 hf7 hf8 hf9 hl
  have HR9 := hide (((((unhide HR8).far (c := w.heap.size + 1) (by have := (unhide HB8).size; omega) 1 (.int .i64 ep)).far (c := w.heap.size + 1) (by have := (unhide HB8).size; omega) 2 (.int .i64 a)).far (c := w.heap.size + 1) (by have := (unhide HB8).size; omega) 3 (.int .i64 now)).far (c := w.heap.size + 1) (by have := (unhide HB8).size; omega) 4 (.int .i64 g))
  have HH9 : Hid (Held ((((w8.setCell ⟨w.heap.size + 1, 1, none⟩ (.int .i64 ep)).setCell ⟨w.heap.size + 1, 2, none⟩ (.int .i64 a)).setCell ⟨w.heap.size + 1, 3, none⟩ (.int .i64 now)).setCell ⟨w.heap.size + 1, 4, none⟩ (.int .i64 g)) (w.heap.size + 1) (nh a ep a now g ke kn ku kg s)) := hide (((((unhide HH8).put 1 (.int .i64 ep)).put 2 (.int .i64 a)).put 3 (.int .i64 now)).put 4 (.int .i64 g))
  have HT9 := hide (((((unhide HT8).far (c := w.heap.size + 1) (by have := (unhide HB8).size; omega) 1 (.int .i64 ep)).far (c := w.heap.size + 1) (by have := (unhide HB8).size; omega) 2 (.int .i64 a)).far (c := w.heap.size + 1) (by have := (unhide HB8).size; omega) 3 (.int .i64 now)).far (c := w.heap.size + 1) (by have := (unhide HB8).size; omega) 4 (.int .i64 g))
  have HN9 := hide (((((unhide HN8).far (c := w.heap.size + 1) (by have := (unhide HB8).size; omega) 1 (.int .i64 ep)).far (c := w.heap.size + 1) (by have := (unhide HB8).size; omega) 2 (.int .i64 a)).far (c := w.heap.size + 1) (by have := (unhide HB8).size; omega) 3 (.int .i64 now)).far (c := w.heap.size + 1) (by have := (unhide HB8).size; omega) 4 (.int .i64 g))
  have HB9 : Hid (Below w.heap.size w ((((w8.setCell ⟨w.heap.size + 1, 1, none⟩ (.int .i64 ep)).setCell ⟨w.heap.size + 1, 2, none⟩ (.int .i64 a)).setCell ⟨w.heap.size + 1, 3, none⟩ (.int .i64 now)).setCell ⟨w.heap.size + 1, 4, none⟩ (.int .i64 g))) := hide (by have := (unhide HB8).size; exact (by (repeat' (first | exact Below.refl _ _ | refine Below.alloc ?_ ?_ _ | refine Below.setCell ?_ ?_ _ | refine Below.drew ?_ | refine Below.trans ?_ (Below.mono (unhide HB8) ?_))); all_goals (first | exact Nat.le_refl _ | omega | (simp; done) | (simp; omega))))
  generalize ((((w8.setCell ⟨w.heap.size + 1, 1, none⟩ (.int .i64 ep)).setCell ⟨w.heap.size + 1, 2, none⟩ (.int .i64 a)).setCell ⟨w.heap.size + 1, 3, none⟩ (.int .i64 now)).setCell ⟨w.heap.size + 1, 4, none⟩ (.int .i64 g)) = w9 at HR9 HH9 HT9 HN9 HB9 ⊢
  obtain ⟨r0, r1, r2⟩ := (unhide HR9).c3.1
  have rl := (unhide HR9).2
  obtain ⟨h0, h1, h2, h3, h4, h5, h6, h7, h8, h9⟩ := (unhide HH9).c10.1
  have hl := (unhide HH9).2
  go_wp2_with fail
  refine (unhide CA2 _).mono ?_
  rintro e w10 ⟨rfl, hb10⟩
  clear r0 r1 r2 rl h0 h1 h2 h3 h4 h5 h6 h7 h8 h9 hl
  have HR10 := hide (((unhide HR9).later (by (repeat' (first | exact Below.refl _ _ | refine Below.alloc ?_ ?_ _ | refine Below.setCell ?_ ?_ _ | refine Below.drew ?_)); all_goals (first | exact Nat.le_refl _ | omega | (simp; done) | (simp; omega)))).later hb10)
  have HH10 := hide (((unhide HH9).later (by (repeat' (first | exact Below.refl _ _ | refine Below.alloc ?_ ?_ _ | refine Below.setCell ?_ ?_ _ | refine Below.drew ?_)); all_goals (first | exact Nat.le_refl _ | omega | (simp; done) | (simp; omega)))).later hb10)
  have HT10 := hide (((unhide HT9).later (by (repeat' (first | exact Below.refl _ _ | refine Below.alloc ?_ ?_ _ | refine Below.setCell ?_ ?_ _ | refine Below.drew ?_)); all_goals (first | exact Nat.le_refl _ | omega | (simp; done) | (simp; omega)))).later hb10)
  have HN10 := hide (((unhide HN9).later (by (repeat' (first | exact Below.refl _ _ | refine Below.alloc ?_ ?_ _ | refine Below.setCell ?_ ?_ _ | refine Below.drew ?_)); all_goals (first | exact Nat.le_refl _ | omega | (simp; done) | (simp; omega)))).later hb10)
  have HB10 := hide (show Below w.heap.size w w10 from (by have := (unhide HB9).size; exact Below.trans (by (repeat' (first | exact Below.refl _ _ | refine Below.alloc ?_ ?_ _ | refine Below.setCell ?_ ?_ _ | refine Below.drew ?_ | refine Below.trans ?_ (Below.mono (unhide HB9) ?_))); all_goals (first | exact Nat.le_refl _ | omega | (simp; done) | (simp; omega))) (hb10.mono (by first | omega | (simp; done) | (simp; omega)))))
  clear hb10
  obtain ⟨t0, t1, t2, t3⟩ := (unhide HT10).c4.1
  have tl := (unhide HT10).2
  obtain ⟨n0, n1, n2, n3⟩ := (unhide HN10).c4.1
  have nl := (unhide HN10).2
  go_wp2
  go_ret
  exact ⟨rfl, (by have := (unhide HB10).size; exact (by (repeat' (first | exact Below.refl _ _ | refine Below.alloc ?_ ?_ _ | refine Below.setCell ?_ ?_ _ | refine Below.drew ?_ | refine Below.trans ?_ (Below.mono (unhide HB10) ?_))); all_goals (first | exact Nat.le_refl _ | omega | (simp; done) | (simp; omega))))⟩

set_option maxHeartbeats 6400000 in
set_option maxRecDepth 8000 in
theorem means_old_f (ep key old a te ta tt tg ke kn ku kg : Int) (s : ByteArray) (n now life K g c : Int) (m2 : Bool) (w : World) (hn : 4 ≤ n) (hn2 : n < 8) (hn3 : ¬ n = 8) (hn4 : (n == 8) = false) (C0 : Hid (∀ w : World, Calls Try.prog 9 #[.int .i64 5] w fun e w' => e = .returned (.tuple #[.agg #[.int .i64 0, .int .i64 K, .int .i64 0], .nilIface]) ∧ Below w.heap.size w w')) (CA0 : Hid (∀ w : World, Calls Try.prog 10 #[.agg #[.int .i64 0, .int .i64 K, .int .i64 0], .agg #[.int .i64 3, .int .i64 0, .int .i64 0, .int .i64 0, .int .i64 0, .int .i64 0, .int .i64 0, .int .i64 0, .int .i64 0, .string ⟨#[120]⟩], .int .i64 5, .int .i64 1, .int .i64 9] w fun e w' => e = .returned (.tuple #[.int .i64 0, .bool false, .nilIface]) ∧ Below w.heap.size w w')) (CA1 : Hid (∀ w : World, Calls Try.prog 10 #[.agg #[.int .i64 ep, .int .i64 key, .int .i64 old], .agg #[.int .i64 a, .int .i64 te, .int .i64 ta, .int .i64 tt, .int .i64 tg, .int .i64 ke, .int .i64 kn, .int .i64 ku, .int .i64 kg, .string s], .int .i64 n, .int .i64 now, .int .i64 life] w fun e w' => e = .returned (.tuple #[.int .i64 1, .bool false, .nilIface]) ∧ Below w.heap.size w w')) (CO : Hid (∀ w : World, Calls Try.prog 11 #[.agg #[.int .i64 ep, .int .i64 key, .int .i64 old], .agg #[.int .i64 ke, .int .i64 kn, .int .i64 ku, .int .i64 kg], .int .i64 now] w fun e w' => e = .returned (.tuple #[.bool true, .nilIface]) ∧ Below w.heap.size w w')) (CT : Hid (∀ w : World, Calls Try.prog 12 #[.agg #[.int .i64 ep, .int .i64 key, .int .i64 old], .agg #[.int .i64 te, .int .i64 ta, .int .i64 tt, .int .i64 tg], .int .i64 a, .int .i64 now, .int .i64 life] w fun e w' => e = .returned (errV c) ∧ Below w.heap.size w w')) (CM : Hid (∀ w : World, Calls Try.prog 14 #[.agg #[.int .i64 ep, .int .i64 key, .int .i64 old], .int .i64 a, .int .i64 now] w fun e w' => e = .returned (.tuple #[.agg #[.int .i64 ep, .int .i64 a, .int .i64 now, .int .i64 g], .nilIface]) ∧ Below w.heap.size w w')) (CA2 : Hid (∀ w : World, Calls Try.prog 10 #[.agg #[.int .i64 ep, .int .i64 key, .int .i64 old], .agg #[.int .i64 a, .int .i64 ep, .int .i64 a, .int .i64 now, .int .i64 g, .int .i64 ke, .int .i64 kn, .int .i64 ku, .int .i64 kg, .string s], .int .i64 n, .int .i64 now, .int .i64 life] w fun e w' => e = .returned (.tuple #[.int .i64 1, .bool m2, .nilIface]) ∧ Below w.heap.size w w')) :
    Calls Try.prog 4 #[.agg #[.int .i64 ep, .int .i64 key, .int .i64 old], .agg #[.int .i64 a, .int .i64 te, .int .i64 ta, .int .i64 tt, .int .i64 tg, .int .i64 ke, .int .i64 kn, .int .i64 ku, .int .i64 kg, .string s], .int .i64 n, .int .i64 now, .int .i64 life] w fun e w' => e = .returned (.bool true) ∧ Below w.heap.size w w' := by
  go_enter Try.func4, Try.ntmps4
  go_wp2_with fail
  refine (unhide C0 _).mono ?_
  rintro e w1 ⟨rfl, hb1⟩
  have HR1 : Hid (Held w1 (w.heap.size) (n3 ep key old)) := hide (((Held.fresh (w := w) (n3 ep key old) 30 (by first | rfl | (simp; done))).later (by (repeat' (first | exact Below.refl _ _ | refine Below.alloc ?_ ?_ _ | refine Below.setCell ?_ ?_ _ | refine Below.drew ?_)); all_goals (first | exact Nat.le_refl _ | omega | (simp; done) | (simp; omega)))).later hb1)
  have HH1 : Hid (Held w1 (w.heap.size + 1) (nh a te ta tt tg ke kn ku kg s)) := hide (((Held.fresh (w := w.alloc (.cells (n3 ep key old).toArray 30)) (nh a te ta tt tg ke kn ku kg s) 36 (by first | rfl | (simp; done))).later (by (repeat' (first | exact Below.refl _ _ | refine Below.alloc ?_ ?_ _ | refine Below.setCell ?_ ?_ _ | refine Below.drew ?_)); all_goals (first | exact Nat.le_refl _ | omega | (simp; done) | (simp; omega)))).later hb1)
  have HB1 := hide (show Below w.heap.size w w1 from Below.trans (by (repeat' (first | exact Below.refl _ _ | refine Below.alloc ?_ ?_ _ | refine Below.setCell ?_ ?_ _ | refine Below.drew ?_)); all_goals (first | exact Nat.le_refl _ | omega | (simp; done) | (simp; omega))) (hb1.mono (by first | exact Nat.le_refl _ | (simp; done) | (simp; omega))))
  clear hb1
  go_wp2_with fail
  refine (unhide CA0 _).mono ?_
  rintro e w2 ⟨rfl, hb2⟩
  have HR2 := hide (((unhide HR1).later (by (repeat' (first | exact Below.refl _ _ | refine Below.alloc ?_ ?_ _ | refine Below.setCell ?_ ?_ _ | refine Below.drew ?_)); all_goals (first | exact Nat.le_refl _ | omega | (simp; done) | (simp; omega)))).later hb2)
  have HH2 := hide (((unhide HH1).later (by (repeat' (first | exact Below.refl _ _ | refine Below.alloc ?_ ?_ _ | refine Below.setCell ?_ ?_ _ | refine Below.drew ?_)); all_goals (first | exact Nat.le_refl _ | omega | (simp; done) | (simp; omega)))).later hb2)
  have HB2 := hide (show Below w.heap.size w w2 from (by have := (unhide HB1).size; exact Below.trans (by (repeat' (first | exact Below.refl _ _ | refine Below.alloc ?_ ?_ _ | refine Below.setCell ?_ ?_ _ | refine Below.drew ?_ | refine Below.trans ?_ (Below.mono (unhide HB1) ?_))); all_goals (first | exact Nat.le_refl _ | omega | (simp; done) | (simp; omega))) (hb2.mono (by first | omega | (simp; done) | (simp; omega)))))
  clear hb2
  obtain ⟨r0, r1, r2⟩ := (unhide HR2).c3.1
  have rl := (unhide HR2).2
  obtain ⟨h0, h1, h2, h3, h4, h5, h6, h7, h8, h9⟩ := (unhide HH2).c10.1
  have hl := (unhide HH2).2
  go_wp2_with fail
  refine (unhide CA1 _).mono ?_
  rintro e w3 ⟨rfl, hb3⟩
  clear r0 r1 r2 rl h0 h1 h2 h3 h4 h5 h6 h7 h8 h9 hl
  have HR3 := hide (((unhide HR2).later (by (repeat' (first | exact Below.refl _ _ | refine Below.alloc ?_ ?_ _ | refine Below.setCell ?_ ?_ _ | refine Below.drew ?_)); all_goals (first | exact Nat.le_refl _ | omega | (simp; done) | (simp; omega)))).later hb3)
  have HH3 := hide (((unhide HH2).later (by (repeat' (first | exact Below.refl _ _ | refine Below.alloc ?_ ?_ _ | refine Below.setCell ?_ ?_ _ | refine Below.drew ?_)); all_goals (first | exact Nat.le_refl _ | omega | (simp; done) | (simp; omega)))).later hb3)
  have HB3 := hide (show Below w.heap.size w w3 from (by have := (unhide HB2).size; exact Below.trans (by (repeat' (first | exact Below.refl _ _ | refine Below.alloc ?_ ?_ _ | refine Below.setCell ?_ ?_ _ | refine Below.drew ?_ | refine Below.trans ?_ (Below.mono (unhide HB2) ?_))); all_goals (first | exact Nat.le_refl _ | omega | (simp; done) | (simp; omega))) (hb3.mono (by first | omega | (simp; done) | (simp; omega)))))
  clear hb3
  obtain ⟨r0, r1, r2⟩ := (unhide HR3).c3.1
  have rl := (unhide HR3).2
  obtain ⟨h0, h1, h2, h3, h4, h5, h6, h7, h8, h9⟩ := (unhide HH3).c10.1
  have hl := (unhide HH3).2
  go_wp2_with fail
  refine (unhide CO _).mono ?_
  rintro e w4 ⟨rfl, hb4⟩
  clear r0 r1 r2 rl h0 h1 h2 h3 h4 h5 h6 h7 h8 h9 hl
  have HR4 := hide (((unhide HR3).later (by (repeat' (first | exact Below.refl _ _ | refine Below.alloc ?_ ?_ _ | refine Below.setCell ?_ ?_ _ | refine Below.drew ?_)); all_goals (first | exact Nat.le_refl _ | omega | (simp; done) | (simp; omega)))).later hb4)
  have HH4 := hide (((unhide HH3).later (by (repeat' (first | exact Below.refl _ _ | refine Below.alloc ?_ ?_ _ | refine Below.setCell ?_ ?_ _ | refine Below.drew ?_)); all_goals (first | exact Nat.le_refl _ | omega | (simp; done) | (simp; omega)))).later hb4)
  have HB4 := hide (show Below w.heap.size w w4 from (by have := (unhide HB3).size; exact Below.trans (by (repeat' (first | exact Below.refl _ _ | refine Below.alloc ?_ ?_ _ | refine Below.setCell ?_ ?_ _ | refine Below.drew ?_ | refine Below.trans ?_ (Below.mono (unhide HB3) ?_))); all_goals (first | exact Nat.le_refl _ | omega | (simp; done) | (simp; omega))) (hb4.mono (by first | omega | (simp; done) | (simp; omega)))))
  clear hb4
  obtain ⟨r0, r1, r2⟩ := (unhide HR4).c3.1
  have rl := (unhide HR4).2
  obtain ⟨h0, h1, h2, h3, h4, h5, h6, h7, h8, h9⟩ := (unhide HH4).c10.1
  have hl := (unhide HH4).2
  go_wp2_with fail
  refine (unhide CT _).mono ?_
  rintro e w5 ⟨rfl, hb5⟩
  clear r0 r1 r2 rl h0 h1 h2 h3 h4 h5 h6 h7 h8 h9 hl
  have HR5 := hide (((unhide HR4).later (by (repeat' (first | exact Below.refl _ _ | refine Below.alloc ?_ ?_ _ | refine Below.setCell ?_ ?_ _ | refine Below.drew ?_)); all_goals (first | exact Nat.le_refl _ | omega | (simp; done) | (simp; omega)))).later hb5)
  have HH5 := hide (((unhide HH4).later (by (repeat' (first | exact Below.refl _ _ | refine Below.alloc ?_ ?_ _ | refine Below.setCell ?_ ?_ _ | refine Below.drew ?_)); all_goals (first | exact Nat.le_refl _ | omega | (simp; done) | (simp; omega)))).later hb5)
  have HB5 := hide (show Below w.heap.size w w5 from (by have := (unhide HB4).size; exact Below.trans (by (repeat' (first | exact Below.refl _ _ | refine Below.alloc ?_ ?_ _ | refine Below.setCell ?_ ?_ _ | refine Below.drew ?_ | refine Below.trans ?_ (Below.mono (unhide HB4) ?_))); all_goals (first | exact Nat.le_refl _ | omega | (simp; done) | (simp; omega))) (hb5.mono (by first | omega | (simp; done) | (simp; omega)))))
  clear hb5
  obtain ⟨r0, r1, r2⟩ := (unhide HR5).c3.1
  have rl := (unhide HR5).2
  obtain ⟨h0, h1, h2, h3, h4, h5, h6, h7, h8, h9⟩ := (unhide HH5).c10.1
  have hl := (unhide HH5).2
  go_wp2_with fail
  refine (unhide CM _).mono ?_
  rintro e w6 ⟨rfl, hb6⟩
  clear r0 r1 r2 rl h0 h1 h2 h3 h4 h5 h6 h7 h8 h9 hl
  have HR6 := hide (((unhide HR5).later (by (repeat' (first | exact Below.refl _ _ | refine Below.alloc ?_ ?_ _ | refine Below.setCell ?_ ?_ _ | refine Below.drew ?_)); all_goals (first | exact Nat.le_refl _ | omega | (simp; done) | (simp; omega)))).later hb6)
  have HH6 := hide (((unhide HH5).later (by (repeat' (first | exact Below.refl _ _ | refine Below.alloc ?_ ?_ _ | refine Below.setCell ?_ ?_ _ | refine Below.drew ?_)); all_goals (first | exact Nat.le_refl _ | omega | (simp; done) | (simp; omega)))).later hb6)
  have HB6 := hide (show Below w.heap.size w w6 from (by have := (unhide HB5).size; exact Below.trans (by (repeat' (first | exact Below.refl _ _ | refine Below.alloc ?_ ?_ _ | refine Below.setCell ?_ ?_ _ | refine Below.drew ?_ | refine Below.trans ?_ (Below.mono (unhide HB5) ?_))); all_goals (first | exact Nat.le_refl _ | omega | (simp; done) | (simp; omega))) (hb6.mono (by first | omega | (simp; done) | (simp; omega)))))
  clear hb6
  go_upto_region 18 with fail
  have HR7 : Hid (Held ((w6.alloc (.cells #[.int .i64 ep, .int .i64 a, .int .i64 now, .int .i64 g] 32)).alloc (.cells #[.int .i64 0, .int .i64 0, .int .i64 0, .int .i64 0] 32)) _ _) := hide ((unhide HR6).later (by (repeat' (first | exact Below.refl _ _ | refine Below.alloc ?_ ?_ _ | refine Below.setCell ?_ ?_ _ | refine Below.drew ?_)); all_goals (first | exact Nat.le_refl _ | omega | (simp; done) | (simp; omega))))
  have HH7 : Hid (Held ((w6.alloc (.cells #[.int .i64 ep, .int .i64 a, .int .i64 now, .int .i64 g] 32)).alloc (.cells #[.int .i64 0, .int .i64 0, .int .i64 0, .int .i64 0] 32)) _ _) := hide ((unhide HH6).later (by (repeat' (first | exact Below.refl _ _ | refine Below.alloc ?_ ?_ _ | refine Below.setCell ?_ ?_ _ | refine Below.drew ?_)); all_goals (first | exact Nat.le_refl _ | omega | (simp; done) | (simp; omega))))
  have HT7 : Hid (Held ((w6.alloc (.cells #[.int .i64 ep, .int .i64 a, .int .i64 now, .int .i64 g] 32)).alloc (.cells #[.int .i64 0, .int .i64 0, .int .i64 0, .int .i64 0] 32)) w6.heap.size (n4 ep a now g)) := hide ((Held.fresh (w := w6) (n4 ep a now g) 32 rfl).later (Below.alloc (Below.refl _ _) (Nat.le_refl _) _))
  have HN7 : Hid (Held ((w6.alloc (.cells #[.int .i64 ep, .int .i64 a, .int .i64 now, .int .i64 g] 32)).alloc (.cells #[.int .i64 0, .int .i64 0, .int .i64 0, .int .i64 0] 32)) (w6.heap.size + 1) (n4 0 0 0 0)) := hide (Held.fresh (w := (w6.alloc (.cells #[.int .i64 ep, .int .i64 a, .int .i64 now, .int .i64 g] 32))) (n4 0 0 0 0) 32 (by simp))
  have HB7 : Hid (Below w.heap.size w ((w6.alloc (.cells #[.int .i64 ep, .int .i64 a, .int .i64 now, .int .i64 g] 32)).alloc (.cells #[.int .i64 0, .int .i64 0, .int .i64 0, .int .i64 0] 32))) := hide (by have := (unhide HB6).size; exact (by (repeat' (first | exact Below.refl _ _ | refine Below.alloc ?_ ?_ _ | refine Below.setCell ?_ ?_ _ | refine Below.drew ?_ | refine Below.trans ?_ (Below.mono (unhide HB6) ?_))); all_goals (first | exact Nat.le_refl _ | omega | (simp; done) | (simp; omega))))
  have z6 : w.heap.size + 1 < w6.heap.size := (unhide HH6).2
  generalize ((w6.alloc (.cells #[.int .i64 ep, .int .i64 a, .int .i64 now, .int .i64 g] 32)).alloc (.cells #[.int .i64 0, .int .i64 0, .int .i64 0, .int .i64 0] 32)) = w7 at HR7 HH7 HT7 HN7 HB7 ⊢
  obtain ⟨t0, t1, t2, t3⟩ := (unhide HT7).c4.1
  have tl := (unhide HT7).2
  obtain ⟨h0, h1, h2, h3, h4, h5, h6, h7, h8, h9⟩ := (unhide HH7).c10.1
  obtain ⟨hf0, hf1, hf2, hf3, hf4, hf5, hf6, hf7, hf8, hf9⟩ := (unhide HH7).c10.2
  have hl := (unhide HH7).2
  go_upto_region 19 with fail
  clear t0 t1 t2 t3 tl h0 h1 h2 h3 h4 h5 h6 h7 h8 h9 hf0 hf1 hf2 hf3 hf4 hf5 hf6 hf7 hf8 hf9 hl
  have HR8 := hide (((((unhide HR7).far (c := w.heap.size + 1) (by have := (unhide HB7).size; omega) 1 (.int .i64 ep)).far (c := w.heap.size + 1) (by have := (unhide HB7).size; omega) 2 (.int .i64 a)).far (c := w.heap.size + 1) (by have := (unhide HB7).size; omega) 3 (.int .i64 now)).far (c := w.heap.size + 1) (by have := (unhide HB7).size; omega) 4 (.int .i64 g))
  have HH8 : Hid (Held ((((w7.setCell ⟨w.heap.size + 1, 1, none⟩ (.int .i64 ep)).setCell ⟨w.heap.size + 1, 2, none⟩ (.int .i64 a)).setCell ⟨w.heap.size + 1, 3, none⟩ (.int .i64 now)).setCell ⟨w.heap.size + 1, 4, none⟩ (.int .i64 g)) (w.heap.size + 1) (nh a ep a now g ke kn ku kg s)) := hide (((((unhide HH7).put 1 (.int .i64 ep)).put 2 (.int .i64 a)).put 3 (.int .i64 now)).put 4 (.int .i64 g))
  have HT8 := hide (((((unhide HT7).far (c := w.heap.size + 1) (by have := (unhide HB7).size; omega) 1 (.int .i64 ep)).far (c := w.heap.size + 1) (by have := (unhide HB7).size; omega) 2 (.int .i64 a)).far (c := w.heap.size + 1) (by have := (unhide HB7).size; omega) 3 (.int .i64 now)).far (c := w.heap.size + 1) (by have := (unhide HB7).size; omega) 4 (.int .i64 g))
  have HN8 := hide (((((unhide HN7).far (c := w.heap.size + 1) (by have := (unhide HB7).size; omega) 1 (.int .i64 ep)).far (c := w.heap.size + 1) (by have := (unhide HB7).size; omega) 2 (.int .i64 a)).far (c := w.heap.size + 1) (by have := (unhide HB7).size; omega) 3 (.int .i64 now)).far (c := w.heap.size + 1) (by have := (unhide HB7).size; omega) 4 (.int .i64 g))
  have HB8 : Hid (Below w.heap.size w ((((w7.setCell ⟨w.heap.size + 1, 1, none⟩ (.int .i64 ep)).setCell ⟨w.heap.size + 1, 2, none⟩ (.int .i64 a)).setCell ⟨w.heap.size + 1, 3, none⟩ (.int .i64 now)).setCell ⟨w.heap.size + 1, 4, none⟩ (.int .i64 g))) := hide (by have := (unhide HB7).size; exact (by (repeat' (first | exact Below.refl _ _ | refine Below.alloc ?_ ?_ _ | refine Below.setCell ?_ ?_ _ | refine Below.drew ?_ | refine Below.trans ?_ (Below.mono (unhide HB7) ?_))); all_goals (first | exact Nat.le_refl _ | omega | (simp; done) | (simp; omega))))
  generalize ((((w7.setCell ⟨w.heap.size + 1, 1, none⟩ (.int .i64 ep)).setCell ⟨w.heap.size + 1, 2, none⟩ (.int .i64 a)).setCell ⟨w.heap.size + 1, 3, none⟩ (.int .i64 now)).setCell ⟨w.heap.size + 1, 4, none⟩ (.int .i64 g)) = w8 at HR8 HH8 HT8 HN8 HB8 ⊢
  obtain ⟨r0, r1, r2⟩ := (unhide HR8).c3.1
  have rl := (unhide HR8).2
  obtain ⟨h0, h1, h2, h3, h4, h5, h6, h7, h8, h9⟩ := (unhide HH8).c10.1
  have hl := (unhide HH8).2
  go_wp2_with fail
  refine (unhide CA2 _).mono ?_
  rintro e w9 ⟨rfl, hb9⟩
  clear r0 r1 r2 rl h0 h1 h2 h3 h4 h5 h6 h7 h8 h9 hl
  have HR9 := hide (((unhide HR8).later (by (repeat' (first | exact Below.refl _ _ | refine Below.alloc ?_ ?_ _ | refine Below.setCell ?_ ?_ _ | refine Below.drew ?_)); all_goals (first | exact Nat.le_refl _ | omega | (simp; done) | (simp; omega)))).later hb9)
  have HH9 := hide (((unhide HH8).later (by (repeat' (first | exact Below.refl _ _ | refine Below.alloc ?_ ?_ _ | refine Below.setCell ?_ ?_ _ | refine Below.drew ?_)); all_goals (first | exact Nat.le_refl _ | omega | (simp; done) | (simp; omega)))).later hb9)
  have HT9 := hide (((unhide HT8).later (by (repeat' (first | exact Below.refl _ _ | refine Below.alloc ?_ ?_ _ | refine Below.setCell ?_ ?_ _ | refine Below.drew ?_)); all_goals (first | exact Nat.le_refl _ | omega | (simp; done) | (simp; omega)))).later hb9)
  have HN9 := hide (((unhide HN8).later (by (repeat' (first | exact Below.refl _ _ | refine Below.alloc ?_ ?_ _ | refine Below.setCell ?_ ?_ _ | refine Below.drew ?_)); all_goals (first | exact Nat.le_refl _ | omega | (simp; done) | (simp; omega)))).later hb9)
  have HB9 := hide (show Below w.heap.size w w9 from (by have := (unhide HB8).size; exact Below.trans (by (repeat' (first | exact Below.refl _ _ | refine Below.alloc ?_ ?_ _ | refine Below.setCell ?_ ?_ _ | refine Below.drew ?_ | refine Below.trans ?_ (Below.mono (unhide HB8) ?_))); all_goals (first | exact Nat.le_refl _ | omega | (simp; done) | (simp; omega))) (hb9.mono (by first | omega | (simp; done) | (simp; omega)))))
  clear hb9
  obtain ⟨t0, t1, t2, t3⟩ := (unhide HT9).c4.1
  have tl := (unhide HT9).2
  obtain ⟨n0, n1, n2, n3⟩ := (unhide HN9).c4.1
  have nl := (unhide HN9).2
  go_wp2
  go_ret
  exact ⟨rfl, (by have := (unhide HB9).size; exact (by (repeat' (first | exact Below.refl _ _ | refine Below.alloc ?_ ?_ _ | refine Below.setCell ?_ ?_ _ | refine Below.drew ?_ | refine Below.trans ?_ (Below.mono (unhide HB9) ?_))); all_goals (first | exact Nat.le_refl _ | omega | (simp; done) | (simp; omega))))⟩

set_option maxHeartbeats 6400000 in
set_option maxRecDepth 8000 in
theorem means_shown (ep key old a te ta tt tg ke kn ku kg : Int) (s : ByteArray) (n now life K g : Int) (m2 : Bool) (w : World) (hn : 4 ≤ n) (hn2 : n < 8) (hn3 : ¬ n = 8) (hn4 : (n == 8) = false) (C0 : Hid (∀ w : World, Calls Try.prog 9 #[.int .i64 5] w fun e w' => e = .returned (.tuple #[.agg #[.int .i64 0, .int .i64 K, .int .i64 0], .nilIface]) ∧ Below w.heap.size w w')) (CA0 : Hid (∀ w : World, Calls Try.prog 10 #[.agg #[.int .i64 0, .int .i64 K, .int .i64 0], .agg #[.int .i64 3, .int .i64 0, .int .i64 0, .int .i64 0, .int .i64 0, .int .i64 0, .int .i64 0, .int .i64 0, .int .i64 0, .string ⟨#[120]⟩], .int .i64 5, .int .i64 1, .int .i64 9] w fun e w' => e = .returned (.tuple #[.int .i64 0, .bool false, .nilIface]) ∧ Below w.heap.size w w')) (CA1 : Hid (∀ w : World, Calls Try.prog 10 #[.agg #[.int .i64 ep, .int .i64 key, .int .i64 old], .agg #[.int .i64 a, .int .i64 te, .int .i64 ta, .int .i64 tt, .int .i64 tg, .int .i64 ke, .int .i64 kn, .int .i64 ku, .int .i64 kg, .string s], .int .i64 n, .int .i64 now, .int .i64 life] w fun e w' => e = .returned (.tuple #[.int .i64 1, .bool false, .nilIface]) ∧ Below w.heap.size w w')) (CO : Hid (∀ w : World, Calls Try.prog 11 #[.agg #[.int .i64 ep, .int .i64 key, .int .i64 old], .agg #[.int .i64 ke, .int .i64 kn, .int .i64 ku, .int .i64 kg], .int .i64 now] w fun e w' => e = .returned (.tuple #[.bool false, .nilIface]) ∧ Below w.heap.size w w')) (CT : Hid (∀ w : World, Calls Try.prog 12 #[.agg #[.int .i64 ep, .int .i64 key, .int .i64 old], .agg #[.int .i64 te, .int .i64 ta, .int .i64 tt, .int .i64 tg], .int .i64 a, .int .i64 now, .int .i64 life] w fun e w' => e = .returned (.nilIface) ∧ Below w.heap.size w w')) (CM : Hid (∀ w : World, Calls Try.prog 14 #[.agg #[.int .i64 ep, .int .i64 key, .int .i64 old], .int .i64 a, .int .i64 now] w fun e w' => e = .returned (.tuple #[.agg #[.int .i64 ep, .int .i64 a, .int .i64 now, .int .i64 g], .nilIface]) ∧ Below w.heap.size w w')) (CA2 : Hid (∀ w : World, Calls Try.prog 10 #[.agg #[.int .i64 ep, .int .i64 key, .int .i64 old], .agg #[.int .i64 a, .int .i64 ep, .int .i64 a, .int .i64 now, .int .i64 g, .int .i64 ke, .int .i64 kn, .int .i64 ku, .int .i64 kg, .string s], .int .i64 n, .int .i64 now, .int .i64 life] w fun e w' => e = .returned (.tuple #[.int .i64 1, .bool m2, .nilIface]) ∧ Below w.heap.size w w')) :
    Calls Try.prog 4 #[.agg #[.int .i64 ep, .int .i64 key, .int .i64 old], .agg #[.int .i64 a, .int .i64 te, .int .i64 ta, .int .i64 tt, .int .i64 tg, .int .i64 ke, .int .i64 kn, .int .i64 ku, .int .i64 kg, .string s], .int .i64 n, .int .i64 now, .int .i64 life] w fun e w' => e = .returned (.bool true) ∧ Below w.heap.size w w' := by
  go_enter Try.func4, Try.ntmps4
  go_wp2_with fail
  refine (unhide C0 _).mono ?_
  rintro e w1 ⟨rfl, hb1⟩
  have HR1 : Hid (Held w1 (w.heap.size) (n3 ep key old)) := hide (((Held.fresh (w := w) (n3 ep key old) 30 (by first | rfl | (simp; done))).later (by (repeat' (first | exact Below.refl _ _ | refine Below.alloc ?_ ?_ _ | refine Below.setCell ?_ ?_ _ | refine Below.drew ?_)); all_goals (first | exact Nat.le_refl _ | omega | (simp; done) | (simp; omega)))).later hb1)
  have HH1 : Hid (Held w1 (w.heap.size + 1) (nh a te ta tt tg ke kn ku kg s)) := hide (((Held.fresh (w := w.alloc (.cells (n3 ep key old).toArray 30)) (nh a te ta tt tg ke kn ku kg s) 36 (by first | rfl | (simp; done))).later (by (repeat' (first | exact Below.refl _ _ | refine Below.alloc ?_ ?_ _ | refine Below.setCell ?_ ?_ _ | refine Below.drew ?_)); all_goals (first | exact Nat.le_refl _ | omega | (simp; done) | (simp; omega)))).later hb1)
  have HB1 := hide (show Below w.heap.size w w1 from Below.trans (by (repeat' (first | exact Below.refl _ _ | refine Below.alloc ?_ ?_ _ | refine Below.setCell ?_ ?_ _ | refine Below.drew ?_)); all_goals (first | exact Nat.le_refl _ | omega | (simp; done) | (simp; omega))) (hb1.mono (by first | exact Nat.le_refl _ | (simp; done) | (simp; omega))))
  clear hb1
  go_wp2_with fail
  refine (unhide CA0 _).mono ?_
  rintro e w2 ⟨rfl, hb2⟩
  have HR2 := hide (((unhide HR1).later (by (repeat' (first | exact Below.refl _ _ | refine Below.alloc ?_ ?_ _ | refine Below.setCell ?_ ?_ _ | refine Below.drew ?_)); all_goals (first | exact Nat.le_refl _ | omega | (simp; done) | (simp; omega)))).later hb2)
  have HH2 := hide (((unhide HH1).later (by (repeat' (first | exact Below.refl _ _ | refine Below.alloc ?_ ?_ _ | refine Below.setCell ?_ ?_ _ | refine Below.drew ?_)); all_goals (first | exact Nat.le_refl _ | omega | (simp; done) | (simp; omega)))).later hb2)
  have HB2 := hide (show Below w.heap.size w w2 from (by have := (unhide HB1).size; exact Below.trans (by (repeat' (first | exact Below.refl _ _ | refine Below.alloc ?_ ?_ _ | refine Below.setCell ?_ ?_ _ | refine Below.drew ?_ | refine Below.trans ?_ (Below.mono (unhide HB1) ?_))); all_goals (first | exact Nat.le_refl _ | omega | (simp; done) | (simp; omega))) (hb2.mono (by first | omega | (simp; done) | (simp; omega)))))
  clear hb2
  obtain ⟨r0, r1, r2⟩ := (unhide HR2).c3.1
  have rl := (unhide HR2).2
  obtain ⟨h0, h1, h2, h3, h4, h5, h6, h7, h8, h9⟩ := (unhide HH2).c10.1
  have hl := (unhide HH2).2
  go_wp2_with fail
  refine (unhide CA1 _).mono ?_
  rintro e w3 ⟨rfl, hb3⟩
  clear r0 r1 r2 rl h0 h1 h2 h3 h4 h5 h6 h7 h8 h9 hl
  have HR3 := hide (((unhide HR2).later (by (repeat' (first | exact Below.refl _ _ | refine Below.alloc ?_ ?_ _ | refine Below.setCell ?_ ?_ _ | refine Below.drew ?_)); all_goals (first | exact Nat.le_refl _ | omega | (simp; done) | (simp; omega)))).later hb3)
  have HH3 := hide (((unhide HH2).later (by (repeat' (first | exact Below.refl _ _ | refine Below.alloc ?_ ?_ _ | refine Below.setCell ?_ ?_ _ | refine Below.drew ?_)); all_goals (first | exact Nat.le_refl _ | omega | (simp; done) | (simp; omega)))).later hb3)
  have HB3 := hide (show Below w.heap.size w w3 from (by have := (unhide HB2).size; exact Below.trans (by (repeat' (first | exact Below.refl _ _ | refine Below.alloc ?_ ?_ _ | refine Below.setCell ?_ ?_ _ | refine Below.drew ?_ | refine Below.trans ?_ (Below.mono (unhide HB2) ?_))); all_goals (first | exact Nat.le_refl _ | omega | (simp; done) | (simp; omega))) (hb3.mono (by first | omega | (simp; done) | (simp; omega)))))
  clear hb3
  obtain ⟨r0, r1, r2⟩ := (unhide HR3).c3.1
  have rl := (unhide HR3).2
  obtain ⟨h0, h1, h2, h3, h4, h5, h6, h7, h8, h9⟩ := (unhide HH3).c10.1
  have hl := (unhide HH3).2
  go_wp2_with fail
  refine (unhide CO _).mono ?_
  rintro e w4 ⟨rfl, hb4⟩
  clear r0 r1 r2 rl h0 h1 h2 h3 h4 h5 h6 h7 h8 h9 hl
  have HR4 := hide (((unhide HR3).later (by (repeat' (first | exact Below.refl _ _ | refine Below.alloc ?_ ?_ _ | refine Below.setCell ?_ ?_ _ | refine Below.drew ?_)); all_goals (first | exact Nat.le_refl _ | omega | (simp; done) | (simp; omega)))).later hb4)
  have HH4 := hide (((unhide HH3).later (by (repeat' (first | exact Below.refl _ _ | refine Below.alloc ?_ ?_ _ | refine Below.setCell ?_ ?_ _ | refine Below.drew ?_)); all_goals (first | exact Nat.le_refl _ | omega | (simp; done) | (simp; omega)))).later hb4)
  have HB4 := hide (show Below w.heap.size w w4 from (by have := (unhide HB3).size; exact Below.trans (by (repeat' (first | exact Below.refl _ _ | refine Below.alloc ?_ ?_ _ | refine Below.setCell ?_ ?_ _ | refine Below.drew ?_ | refine Below.trans ?_ (Below.mono (unhide HB3) ?_))); all_goals (first | exact Nat.le_refl _ | omega | (simp; done) | (simp; omega))) (hb4.mono (by first | omega | (simp; done) | (simp; omega)))))
  clear hb4
  obtain ⟨r0, r1, r2⟩ := (unhide HR4).c3.1
  have rl := (unhide HR4).2
  obtain ⟨h0, h1, h2, h3, h4, h5, h6, h7, h8, h9⟩ := (unhide HH4).c10.1
  have hl := (unhide HH4).2
  go_wp2_with fail
  refine (unhide CT _).mono ?_
  rintro e w5 ⟨rfl, hb5⟩
  clear r0 r1 r2 rl h0 h1 h2 h3 h4 h5 h6 h7 h8 h9 hl
  have HR5 := hide (((unhide HR4).later (by (repeat' (first | exact Below.refl _ _ | refine Below.alloc ?_ ?_ _ | refine Below.setCell ?_ ?_ _ | refine Below.drew ?_)); all_goals (first | exact Nat.le_refl _ | omega | (simp; done) | (simp; omega)))).later hb5)
  have HH5 := hide (((unhide HH4).later (by (repeat' (first | exact Below.refl _ _ | refine Below.alloc ?_ ?_ _ | refine Below.setCell ?_ ?_ _ | refine Below.drew ?_)); all_goals (first | exact Nat.le_refl _ | omega | (simp; done) | (simp; omega)))).later hb5)
  have HB5 := hide (show Below w.heap.size w w5 from (by have := (unhide HB4).size; exact Below.trans (by (repeat' (first | exact Below.refl _ _ | refine Below.alloc ?_ ?_ _ | refine Below.setCell ?_ ?_ _ | refine Below.drew ?_ | refine Below.trans ?_ (Below.mono (unhide HB4) ?_))); all_goals (first | exact Nat.le_refl _ | omega | (simp; done) | (simp; omega))) (hb5.mono (by first | omega | (simp; done) | (simp; omega)))))
  clear hb5
  obtain ⟨r0, r1, r2⟩ := (unhide HR5).c3.1
  have rl := (unhide HR5).2
  obtain ⟨h0, h1, h2, h3, h4, h5, h6, h7, h8, h9⟩ := (unhide HH5).c10.1
  have hl := (unhide HH5).2
  go_wp2_with fail
  refine (unhide CM _).mono ?_
  rintro e w6 ⟨rfl, hb6⟩
  clear r0 r1 r2 rl h0 h1 h2 h3 h4 h5 h6 h7 h8 h9 hl
  have HR6 := hide (((unhide HR5).later (by (repeat' (first | exact Below.refl _ _ | refine Below.alloc ?_ ?_ _ | refine Below.setCell ?_ ?_ _ | refine Below.drew ?_)); all_goals (first | exact Nat.le_refl _ | omega | (simp; done) | (simp; omega)))).later hb6)
  have HH6 := hide (((unhide HH5).later (by (repeat' (first | exact Below.refl _ _ | refine Below.alloc ?_ ?_ _ | refine Below.setCell ?_ ?_ _ | refine Below.drew ?_)); all_goals (first | exact Nat.le_refl _ | omega | (simp; done) | (simp; omega)))).later hb6)
  have HB6 := hide (show Below w.heap.size w w6 from (by have := (unhide HB5).size; exact Below.trans (by (repeat' (first | exact Below.refl _ _ | refine Below.alloc ?_ ?_ _ | refine Below.setCell ?_ ?_ _ | refine Below.drew ?_ | refine Below.trans ?_ (Below.mono (unhide HB5) ?_))); all_goals (first | exact Nat.le_refl _ | omega | (simp; done) | (simp; omega))) (hb6.mono (by first | omega | (simp; done) | (simp; omega)))))
  clear hb6
  go_upto_region 18 with fail
  have HR7 : Hid (Held ((w6.alloc (.cells #[.int .i64 ep, .int .i64 a, .int .i64 now, .int .i64 g] 32)).alloc (.cells #[.int .i64 0, .int .i64 0, .int .i64 0, .int .i64 0] 32)) _ _) := hide ((unhide HR6).later (by (repeat' (first | exact Below.refl _ _ | refine Below.alloc ?_ ?_ _ | refine Below.setCell ?_ ?_ _ | refine Below.drew ?_)); all_goals (first | exact Nat.le_refl _ | omega | (simp; done) | (simp; omega))))
  have HH7 : Hid (Held ((w6.alloc (.cells #[.int .i64 ep, .int .i64 a, .int .i64 now, .int .i64 g] 32)).alloc (.cells #[.int .i64 0, .int .i64 0, .int .i64 0, .int .i64 0] 32)) _ _) := hide ((unhide HH6).later (by (repeat' (first | exact Below.refl _ _ | refine Below.alloc ?_ ?_ _ | refine Below.setCell ?_ ?_ _ | refine Below.drew ?_)); all_goals (first | exact Nat.le_refl _ | omega | (simp; done) | (simp; omega))))
  have HT7 : Hid (Held ((w6.alloc (.cells #[.int .i64 ep, .int .i64 a, .int .i64 now, .int .i64 g] 32)).alloc (.cells #[.int .i64 0, .int .i64 0, .int .i64 0, .int .i64 0] 32)) w6.heap.size (n4 ep a now g)) := hide ((Held.fresh (w := w6) (n4 ep a now g) 32 rfl).later (Below.alloc (Below.refl _ _) (Nat.le_refl _) _))
  have HN7 : Hid (Held ((w6.alloc (.cells #[.int .i64 ep, .int .i64 a, .int .i64 now, .int .i64 g] 32)).alloc (.cells #[.int .i64 0, .int .i64 0, .int .i64 0, .int .i64 0] 32)) (w6.heap.size + 1) (n4 0 0 0 0)) := hide (Held.fresh (w := (w6.alloc (.cells #[.int .i64 ep, .int .i64 a, .int .i64 now, .int .i64 g] 32))) (n4 0 0 0 0) 32 (by simp))
  have HB7 : Hid (Below w.heap.size w ((w6.alloc (.cells #[.int .i64 ep, .int .i64 a, .int .i64 now, .int .i64 g] 32)).alloc (.cells #[.int .i64 0, .int .i64 0, .int .i64 0, .int .i64 0] 32))) := hide (by have := (unhide HB6).size; exact (by (repeat' (first | exact Below.refl _ _ | refine Below.alloc ?_ ?_ _ | refine Below.setCell ?_ ?_ _ | refine Below.drew ?_ | refine Below.trans ?_ (Below.mono (unhide HB6) ?_))); all_goals (first | exact Nat.le_refl _ | omega | (simp; done) | (simp; omega))))
  have z6 : w.heap.size + 1 < w6.heap.size := (unhide HH6).2
  generalize ((w6.alloc (.cells #[.int .i64 ep, .int .i64 a, .int .i64 now, .int .i64 g] 32)).alloc (.cells #[.int .i64 0, .int .i64 0, .int .i64 0, .int .i64 0] 32)) = w7 at HR7 HH7 HT7 HN7 HB7 ⊢
  obtain ⟨t0, t1, t2, t3⟩ := (unhide HT7).c4.1
  have tl := (unhide HT7).2
  obtain ⟨h0, h1, h2, h3, h4, h5, h6, h7, h8, h9⟩ := (unhide HH7).c10.1
  obtain ⟨hf0, hf1, hf2, hf3, hf4, hf5, hf6, hf7, hf8, hf9⟩ := (unhide HH7).c10.2
  have hl := (unhide HH7).2
  go_upto_region 19 with fail
  clear t0 t1 t2 t3 tl h0 h1 h2 h3 h4 h5 h6 h7 h8 h9 hf0 hf1 hf2 hf3 hf4 hf5 hf6 hf7 hf8 hf9 hl
  have HR8 := hide (((((unhide HR7).far (c := w.heap.size + 1) (by have := (unhide HB7).size; omega) 1 (.int .i64 ep)).far (c := w.heap.size + 1) (by have := (unhide HB7).size; omega) 2 (.int .i64 a)).far (c := w.heap.size + 1) (by have := (unhide HB7).size; omega) 3 (.int .i64 now)).far (c := w.heap.size + 1) (by have := (unhide HB7).size; omega) 4 (.int .i64 g))
  have HH8 : Hid (Held ((((w7.setCell ⟨w.heap.size + 1, 1, none⟩ (.int .i64 ep)).setCell ⟨w.heap.size + 1, 2, none⟩ (.int .i64 a)).setCell ⟨w.heap.size + 1, 3, none⟩ (.int .i64 now)).setCell ⟨w.heap.size + 1, 4, none⟩ (.int .i64 g)) (w.heap.size + 1) (nh a ep a now g ke kn ku kg s)) := hide (((((unhide HH7).put 1 (.int .i64 ep)).put 2 (.int .i64 a)).put 3 (.int .i64 now)).put 4 (.int .i64 g))
  have HT8 := hide (((((unhide HT7).far (c := w.heap.size + 1) (by have := (unhide HB7).size; omega) 1 (.int .i64 ep)).far (c := w.heap.size + 1) (by have := (unhide HB7).size; omega) 2 (.int .i64 a)).far (c := w.heap.size + 1) (by have := (unhide HB7).size; omega) 3 (.int .i64 now)).far (c := w.heap.size + 1) (by have := (unhide HB7).size; omega) 4 (.int .i64 g))
  have HN8 := hide (((((unhide HN7).far (c := w.heap.size + 1) (by have := (unhide HB7).size; omega) 1 (.int .i64 ep)).far (c := w.heap.size + 1) (by have := (unhide HB7).size; omega) 2 (.int .i64 a)).far (c := w.heap.size + 1) (by have := (unhide HB7).size; omega) 3 (.int .i64 now)).far (c := w.heap.size + 1) (by have := (unhide HB7).size; omega) 4 (.int .i64 g))
  have HB8 : Hid (Below w.heap.size w ((((w7.setCell ⟨w.heap.size + 1, 1, none⟩ (.int .i64 ep)).setCell ⟨w.heap.size + 1, 2, none⟩ (.int .i64 a)).setCell ⟨w.heap.size + 1, 3, none⟩ (.int .i64 now)).setCell ⟨w.heap.size + 1, 4, none⟩ (.int .i64 g))) := hide (by have := (unhide HB7).size; exact (by (repeat' (first | exact Below.refl _ _ | refine Below.alloc ?_ ?_ _ | refine Below.setCell ?_ ?_ _ | refine Below.drew ?_ | refine Below.trans ?_ (Below.mono (unhide HB7) ?_))); all_goals (first | exact Nat.le_refl _ | omega | (simp; done) | (simp; omega))))
  generalize ((((w7.setCell ⟨w.heap.size + 1, 1, none⟩ (.int .i64 ep)).setCell ⟨w.heap.size + 1, 2, none⟩ (.int .i64 a)).setCell ⟨w.heap.size + 1, 3, none⟩ (.int .i64 now)).setCell ⟨w.heap.size + 1, 4, none⟩ (.int .i64 g)) = w8 at HR8 HH8 HT8 HN8 HB8 ⊢
  obtain ⟨r0, r1, r2⟩ := (unhide HR8).c3.1
  have rl := (unhide HR8).2
  obtain ⟨h0, h1, h2, h3, h4, h5, h6, h7, h8, h9⟩ := (unhide HH8).c10.1
  have hl := (unhide HH8).2
  go_wp2_with fail
  refine (unhide CA2 _).mono ?_
  rintro e w9 ⟨rfl, hb9⟩
  clear r0 r1 r2 rl h0 h1 h2 h3 h4 h5 h6 h7 h8 h9 hl
  have HR9 := hide (((unhide HR8).later (by (repeat' (first | exact Below.refl _ _ | refine Below.alloc ?_ ?_ _ | refine Below.setCell ?_ ?_ _ | refine Below.drew ?_)); all_goals (first | exact Nat.le_refl _ | omega | (simp; done) | (simp; omega)))).later hb9)
  have HH9 := hide (((unhide HH8).later (by (repeat' (first | exact Below.refl _ _ | refine Below.alloc ?_ ?_ _ | refine Below.setCell ?_ ?_ _ | refine Below.drew ?_)); all_goals (first | exact Nat.le_refl _ | omega | (simp; done) | (simp; omega)))).later hb9)
  have HT9 := hide (((unhide HT8).later (by (repeat' (first | exact Below.refl _ _ | refine Below.alloc ?_ ?_ _ | refine Below.setCell ?_ ?_ _ | refine Below.drew ?_)); all_goals (first | exact Nat.le_refl _ | omega | (simp; done) | (simp; omega)))).later hb9)
  have HN9 := hide (((unhide HN8).later (by (repeat' (first | exact Below.refl _ _ | refine Below.alloc ?_ ?_ _ | refine Below.setCell ?_ ?_ _ | refine Below.drew ?_)); all_goals (first | exact Nat.le_refl _ | omega | (simp; done) | (simp; omega)))).later hb9)
  have HB9 := hide (show Below w.heap.size w w9 from (by have := (unhide HB8).size; exact Below.trans (by (repeat' (first | exact Below.refl _ _ | refine Below.alloc ?_ ?_ _ | refine Below.setCell ?_ ?_ _ | refine Below.drew ?_ | refine Below.trans ?_ (Below.mono (unhide HB8) ?_))); all_goals (first | exact Nat.le_refl _ | omega | (simp; done) | (simp; omega))) (hb9.mono (by first | omega | (simp; done) | (simp; omega)))))
  clear hb9
  obtain ⟨t0, t1, t2, t3⟩ := (unhide HT9).c4.1
  have tl := (unhide HT9).2
  obtain ⟨n0, n1, n2, n3⟩ := (unhide HN9).c4.1
  have nl := (unhide HN9).2
  go_wp2
  go_ret
  exact ⟨rfl, (by have := (unhide HB9).size; exact (by (repeat' (first | exact Below.refl _ _ | refine Below.alloc ?_ ?_ _ | refine Below.setCell ?_ ?_ _ | refine Below.drew ?_ | refine Below.trans ?_ (Below.mono (unhide HB9) ?_))); all_goals (first | exact Nat.le_refl _ | omega | (simp; done) | (simp; omega))))⟩

set_option maxHeartbeats 6400000 in
set_option maxRecDepth 8000 in
theorem means_shown_none (key old te ta tt tg ke kn ku kg : Int) (s : ByteArray) (n life K : Int) (m2 : Bool) (w : World) (hn : 4 ≤ n) (hn2 : n < 8) (hn3 : ¬ n = 8) (hn4 : (n == 8) = false) (C0 : Hid (∀ w : World, Calls Try.prog 9 #[.int .i64 5] w fun e w' => e = .returned (.tuple #[.agg #[.int .i64 0, .int .i64 K, .int .i64 0], .nilIface]) ∧ Below w.heap.size w w')) (CA0 : Hid (∀ w : World, Calls Try.prog 10 #[.agg #[.int .i64 0, .int .i64 K, .int .i64 0], .agg #[.int .i64 3, .int .i64 0, .int .i64 0, .int .i64 0, .int .i64 0, .int .i64 0, .int .i64 0, .int .i64 0, .int .i64 0, .string ⟨#[120]⟩], .int .i64 5, .int .i64 1, .int .i64 9] w fun e w' => e = .returned (.tuple #[.int .i64 0, .bool false, .nilIface]) ∧ Below w.heap.size w w')) (CA1 : Hid (∀ w : World, Calls Try.prog 10 #[.agg #[.int .i64 0, .int .i64 key, .int .i64 old], .agg #[.int .i64 0, .int .i64 te, .int .i64 ta, .int .i64 tt, .int .i64 tg, .int .i64 ke, .int .i64 kn, .int .i64 ku, .int .i64 kg, .string s], .int .i64 n, .int .i64 0, .int .i64 life] w fun e w' => e = .returned (.tuple #[.int .i64 1, .bool false, .nilIface]) ∧ Below w.heap.size w w')) (CO : Hid (∀ w : World, Calls Try.prog 11 #[.agg #[.int .i64 0, .int .i64 key, .int .i64 old], .agg #[.int .i64 ke, .int .i64 kn, .int .i64 ku, .int .i64 kg], .int .i64 0] w fun e w' => e = .returned (.tuple #[.bool false, .nilIface]) ∧ Below w.heap.size w w')) (CT : Hid (∀ w : World, Calls Try.prog 12 #[.agg #[.int .i64 0, .int .i64 key, .int .i64 old], .agg #[.int .i64 te, .int .i64 ta, .int .i64 tt, .int .i64 tg], .int .i64 0, .int .i64 0, .int .i64 life] w fun e w' => e = .returned (.nilIface) ∧ Below w.heap.size w w')) (CM : Hid (∀ w : World, Calls Try.prog 14 #[.agg #[.int .i64 0, .int .i64 key, .int .i64 old], .int .i64 0, .int .i64 0] w fun e w' => e = .returned (.tuple #[.agg #[.int .i64 0, .int .i64 0, .int .i64 0, .int .i64 0], .nilIface]) ∧ Below w.heap.size w w')) (CA2 : Hid (∀ w : World, Calls Try.prog 10 #[.agg #[.int .i64 0, .int .i64 key, .int .i64 old], .agg #[.int .i64 0, .int .i64 0, .int .i64 0, .int .i64 0, .int .i64 0, .int .i64 ke, .int .i64 kn, .int .i64 ku, .int .i64 kg, .string s], .int .i64 n, .int .i64 0, .int .i64 life] w fun e w' => e = .returned (.tuple #[.int .i64 0, .bool m2, .nilIface]) ∧ Below w.heap.size w w')) :
    Calls Try.prog 4 #[.agg #[.int .i64 0, .int .i64 key, .int .i64 old], .agg #[.int .i64 0, .int .i64 te, .int .i64 ta, .int .i64 tt, .int .i64 tg, .int .i64 ke, .int .i64 kn, .int .i64 ku, .int .i64 kg, .string s], .int .i64 n, .int .i64 0, .int .i64 life] w fun e w' => e = .returned (.bool true) ∧ Below w.heap.size w w' := by
  go_enter Try.func4, Try.ntmps4
  go_wp2_with fail
  refine (unhide C0 _).mono ?_
  rintro e w1 ⟨rfl, hb1⟩
  have HR1 : Hid (Held w1 (w.heap.size) (n3 0 key old)) := hide (((Held.fresh (w := w) (n3 0 key old) 30 (by first | rfl | (simp; done))).later (by (repeat' (first | exact Below.refl _ _ | refine Below.alloc ?_ ?_ _ | refine Below.setCell ?_ ?_ _ | refine Below.drew ?_)); all_goals (first | exact Nat.le_refl _ | omega | (simp; done) | (simp; omega)))).later hb1)
  have HH1 : Hid (Held w1 (w.heap.size + 1) (nh 0 te ta tt tg ke kn ku kg s)) := hide (((Held.fresh (w := w.alloc (.cells (n3 0 key old).toArray 30)) (nh 0 te ta tt tg ke kn ku kg s) 36 (by first | rfl | (simp; done))).later (by (repeat' (first | exact Below.refl _ _ | refine Below.alloc ?_ ?_ _ | refine Below.setCell ?_ ?_ _ | refine Below.drew ?_)); all_goals (first | exact Nat.le_refl _ | omega | (simp; done) | (simp; omega)))).later hb1)
  have HB1 := hide (show Below w.heap.size w w1 from Below.trans (by (repeat' (first | exact Below.refl _ _ | refine Below.alloc ?_ ?_ _ | refine Below.setCell ?_ ?_ _ | refine Below.drew ?_)); all_goals (first | exact Nat.le_refl _ | omega | (simp; done) | (simp; omega))) (hb1.mono (by first | exact Nat.le_refl _ | (simp; done) | (simp; omega))))
  clear hb1
  go_wp2_with fail
  refine (unhide CA0 _).mono ?_
  rintro e w2 ⟨rfl, hb2⟩
  have HR2 := hide (((unhide HR1).later (by (repeat' (first | exact Below.refl _ _ | refine Below.alloc ?_ ?_ _ | refine Below.setCell ?_ ?_ _ | refine Below.drew ?_)); all_goals (first | exact Nat.le_refl _ | omega | (simp; done) | (simp; omega)))).later hb2)
  have HH2 := hide (((unhide HH1).later (by (repeat' (first | exact Below.refl _ _ | refine Below.alloc ?_ ?_ _ | refine Below.setCell ?_ ?_ _ | refine Below.drew ?_)); all_goals (first | exact Nat.le_refl _ | omega | (simp; done) | (simp; omega)))).later hb2)
  have HB2 := hide (show Below w.heap.size w w2 from (by have := (unhide HB1).size; exact Below.trans (by (repeat' (first | exact Below.refl _ _ | refine Below.alloc ?_ ?_ _ | refine Below.setCell ?_ ?_ _ | refine Below.drew ?_ | refine Below.trans ?_ (Below.mono (unhide HB1) ?_))); all_goals (first | exact Nat.le_refl _ | omega | (simp; done) | (simp; omega))) (hb2.mono (by first | omega | (simp; done) | (simp; omega)))))
  clear hb2
  obtain ⟨r0, r1, r2⟩ := (unhide HR2).c3.1
  have rl := (unhide HR2).2
  obtain ⟨h0, h1, h2, h3, h4, h5, h6, h7, h8, h9⟩ := (unhide HH2).c10.1
  have hl := (unhide HH2).2
  go_wp2_with fail
  refine (unhide CA1 _).mono ?_
  rintro e w3 ⟨rfl, hb3⟩
  clear r0 r1 r2 rl h0 h1 h2 h3 h4 h5 h6 h7 h8 h9 hl
  have HR3 := hide (((unhide HR2).later (by (repeat' (first | exact Below.refl _ _ | refine Below.alloc ?_ ?_ _ | refine Below.setCell ?_ ?_ _ | refine Below.drew ?_)); all_goals (first | exact Nat.le_refl _ | omega | (simp; done) | (simp; omega)))).later hb3)
  have HH3 := hide (((unhide HH2).later (by (repeat' (first | exact Below.refl _ _ | refine Below.alloc ?_ ?_ _ | refine Below.setCell ?_ ?_ _ | refine Below.drew ?_)); all_goals (first | exact Nat.le_refl _ | omega | (simp; done) | (simp; omega)))).later hb3)
  have HB3 := hide (show Below w.heap.size w w3 from (by have := (unhide HB2).size; exact Below.trans (by (repeat' (first | exact Below.refl _ _ | refine Below.alloc ?_ ?_ _ | refine Below.setCell ?_ ?_ _ | refine Below.drew ?_ | refine Below.trans ?_ (Below.mono (unhide HB2) ?_))); all_goals (first | exact Nat.le_refl _ | omega | (simp; done) | (simp; omega))) (hb3.mono (by first | omega | (simp; done) | (simp; omega)))))
  clear hb3
  obtain ⟨r0, r1, r2⟩ := (unhide HR3).c3.1
  have rl := (unhide HR3).2
  obtain ⟨h0, h1, h2, h3, h4, h5, h6, h7, h8, h9⟩ := (unhide HH3).c10.1
  have hl := (unhide HH3).2
  go_wp2_with fail
  refine (unhide CO _).mono ?_
  rintro e w4 ⟨rfl, hb4⟩
  clear r0 r1 r2 rl h0 h1 h2 h3 h4 h5 h6 h7 h8 h9 hl
  have HR4 := hide (((unhide HR3).later (by (repeat' (first | exact Below.refl _ _ | refine Below.alloc ?_ ?_ _ | refine Below.setCell ?_ ?_ _ | refine Below.drew ?_)); all_goals (first | exact Nat.le_refl _ | omega | (simp; done) | (simp; omega)))).later hb4)
  have HH4 := hide (((unhide HH3).later (by (repeat' (first | exact Below.refl _ _ | refine Below.alloc ?_ ?_ _ | refine Below.setCell ?_ ?_ _ | refine Below.drew ?_)); all_goals (first | exact Nat.le_refl _ | omega | (simp; done) | (simp; omega)))).later hb4)
  have HB4 := hide (show Below w.heap.size w w4 from (by have := (unhide HB3).size; exact Below.trans (by (repeat' (first | exact Below.refl _ _ | refine Below.alloc ?_ ?_ _ | refine Below.setCell ?_ ?_ _ | refine Below.drew ?_ | refine Below.trans ?_ (Below.mono (unhide HB3) ?_))); all_goals (first | exact Nat.le_refl _ | omega | (simp; done) | (simp; omega))) (hb4.mono (by first | omega | (simp; done) | (simp; omega)))))
  clear hb4
  obtain ⟨r0, r1, r2⟩ := (unhide HR4).c3.1
  have rl := (unhide HR4).2
  obtain ⟨h0, h1, h2, h3, h4, h5, h6, h7, h8, h9⟩ := (unhide HH4).c10.1
  have hl := (unhide HH4).2
  go_wp2_with fail
  refine (unhide CT _).mono ?_
  rintro e w5 ⟨rfl, hb5⟩
  clear r0 r1 r2 rl h0 h1 h2 h3 h4 h5 h6 h7 h8 h9 hl
  have HR5 := hide (((unhide HR4).later (by (repeat' (first | exact Below.refl _ _ | refine Below.alloc ?_ ?_ _ | refine Below.setCell ?_ ?_ _ | refine Below.drew ?_)); all_goals (first | exact Nat.le_refl _ | omega | (simp; done) | (simp; omega)))).later hb5)
  have HH5 := hide (((unhide HH4).later (by (repeat' (first | exact Below.refl _ _ | refine Below.alloc ?_ ?_ _ | refine Below.setCell ?_ ?_ _ | refine Below.drew ?_)); all_goals (first | exact Nat.le_refl _ | omega | (simp; done) | (simp; omega)))).later hb5)
  have HB5 := hide (show Below w.heap.size w w5 from (by have := (unhide HB4).size; exact Below.trans (by (repeat' (first | exact Below.refl _ _ | refine Below.alloc ?_ ?_ _ | refine Below.setCell ?_ ?_ _ | refine Below.drew ?_ | refine Below.trans ?_ (Below.mono (unhide HB4) ?_))); all_goals (first | exact Nat.le_refl _ | omega | (simp; done) | (simp; omega))) (hb5.mono (by first | omega | (simp; done) | (simp; omega)))))
  clear hb5
  obtain ⟨r0, r1, r2⟩ := (unhide HR5).c3.1
  have rl := (unhide HR5).2
  obtain ⟨h0, h1, h2, h3, h4, h5, h6, h7, h8, h9⟩ := (unhide HH5).c10.1
  have hl := (unhide HH5).2
  go_wp2_with fail
  refine (unhide CM _).mono ?_
  rintro e w6 ⟨rfl, hb6⟩
  clear r0 r1 r2 rl h0 h1 h2 h3 h4 h5 h6 h7 h8 h9 hl
  have HR6 := hide (((unhide HR5).later (by (repeat' (first | exact Below.refl _ _ | refine Below.alloc ?_ ?_ _ | refine Below.setCell ?_ ?_ _ | refine Below.drew ?_)); all_goals (first | exact Nat.le_refl _ | omega | (simp; done) | (simp; omega)))).later hb6)
  have HH6 := hide (((unhide HH5).later (by (repeat' (first | exact Below.refl _ _ | refine Below.alloc ?_ ?_ _ | refine Below.setCell ?_ ?_ _ | refine Below.drew ?_)); all_goals (first | exact Nat.le_refl _ | omega | (simp; done) | (simp; omega)))).later hb6)
  have HB6 := hide (show Below w.heap.size w w6 from (by have := (unhide HB5).size; exact Below.trans (by (repeat' (first | exact Below.refl _ _ | refine Below.alloc ?_ ?_ _ | refine Below.setCell ?_ ?_ _ | refine Below.drew ?_ | refine Below.trans ?_ (Below.mono (unhide HB5) ?_))); all_goals (first | exact Nat.le_refl _ | omega | (simp; done) | (simp; omega))) (hb6.mono (by first | omega | (simp; done) | (simp; omega)))))
  clear hb6
  go_upto_region 18 with fail
  have HR7 : Hid (Held ((w6.alloc (.cells #[.int .i64 0, .int .i64 0, .int .i64 0, .int .i64 0] 32)).alloc (.cells #[.int .i64 0, .int .i64 0, .int .i64 0, .int .i64 0] 32)) _ _) := hide ((unhide HR6).later (by (repeat' (first | exact Below.refl _ _ | refine Below.alloc ?_ ?_ _ | refine Below.setCell ?_ ?_ _ | refine Below.drew ?_)); all_goals (first | exact Nat.le_refl _ | omega | (simp; done) | (simp; omega))))
  have HH7 : Hid (Held ((w6.alloc (.cells #[.int .i64 0, .int .i64 0, .int .i64 0, .int .i64 0] 32)).alloc (.cells #[.int .i64 0, .int .i64 0, .int .i64 0, .int .i64 0] 32)) _ _) := hide ((unhide HH6).later (by (repeat' (first | exact Below.refl _ _ | refine Below.alloc ?_ ?_ _ | refine Below.setCell ?_ ?_ _ | refine Below.drew ?_)); all_goals (first | exact Nat.le_refl _ | omega | (simp; done) | (simp; omega))))
  have HT7 : Hid (Held ((w6.alloc (.cells #[.int .i64 0, .int .i64 0, .int .i64 0, .int .i64 0] 32)).alloc (.cells #[.int .i64 0, .int .i64 0, .int .i64 0, .int .i64 0] 32)) w6.heap.size (n4 0 0 0 0)) := hide ((Held.fresh (w := w6) (n4 0 0 0 0) 32 rfl).later (Below.alloc (Below.refl _ _) (Nat.le_refl _) _))
  have HN7 : Hid (Held ((w6.alloc (.cells #[.int .i64 0, .int .i64 0, .int .i64 0, .int .i64 0] 32)).alloc (.cells #[.int .i64 0, .int .i64 0, .int .i64 0, .int .i64 0] 32)) (w6.heap.size + 1) (n4 0 0 0 0)) := hide (Held.fresh (w := (w6.alloc (.cells #[.int .i64 0, .int .i64 0, .int .i64 0, .int .i64 0] 32))) (n4 0 0 0 0) 32 (by simp))
  have HB7 : Hid (Below w.heap.size w ((w6.alloc (.cells #[.int .i64 0, .int .i64 0, .int .i64 0, .int .i64 0] 32)).alloc (.cells #[.int .i64 0, .int .i64 0, .int .i64 0, .int .i64 0] 32))) := hide (by have := (unhide HB6).size; exact (by (repeat' (first | exact Below.refl _ _ | refine Below.alloc ?_ ?_ _ | refine Below.setCell ?_ ?_ _ | refine Below.drew ?_ | refine Below.trans ?_ (Below.mono (unhide HB6) ?_))); all_goals (first | exact Nat.le_refl _ | omega | (simp; done) | (simp; omega))))
  have z6 : w.heap.size + 1 < w6.heap.size := (unhide HH6).2
  generalize ((w6.alloc (.cells #[.int .i64 0, .int .i64 0, .int .i64 0, .int .i64 0] 32)).alloc (.cells #[.int .i64 0, .int .i64 0, .int .i64 0, .int .i64 0] 32)) = w7 at HR7 HH7 HT7 HN7 HB7 ⊢
  obtain ⟨t0, t1, t2, t3⟩ := (unhide HT7).c4.1
  have tl := (unhide HT7).2
  obtain ⟨h0, h1, h2, h3, h4, h5, h6, h7, h8, h9⟩ := (unhide HH7).c10.1
  obtain ⟨hf0, hf1, hf2, hf3, hf4, hf5, hf6, hf7, hf8, hf9⟩ := (unhide HH7).c10.2
  have hl := (unhide HH7).2
  go_upto_region 19 with fail
  clear t0 t1 t2 t3 tl h0 h1 h2 h3 h4 h5 h6 h7 h8 h9 hf0 hf1 hf2 hf3 hf4 hf5 hf6 hf7 hf8 hf9 hl
  have HR8 := hide (((((unhide HR7).far (c := w.heap.size + 1) (by have := (unhide HB7).size; omega) 1 (.int .i64 0)).far (c := w.heap.size + 1) (by have := (unhide HB7).size; omega) 2 (.int .i64 0)).far (c := w.heap.size + 1) (by have := (unhide HB7).size; omega) 3 (.int .i64 0)).far (c := w.heap.size + 1) (by have := (unhide HB7).size; omega) 4 (.int .i64 0))
  have HH8 : Hid (Held ((((w7.setCell ⟨w.heap.size + 1, 1, none⟩ (.int .i64 0)).setCell ⟨w.heap.size + 1, 2, none⟩ (.int .i64 0)).setCell ⟨w.heap.size + 1, 3, none⟩ (.int .i64 0)).setCell ⟨w.heap.size + 1, 4, none⟩ (.int .i64 0)) (w.heap.size + 1) (nh 0 0 0 0 0 ke kn ku kg s)) := hide (((((unhide HH7).put 1 (.int .i64 0)).put 2 (.int .i64 0)).put 3 (.int .i64 0)).put 4 (.int .i64 0))
  have HT8 := hide (((((unhide HT7).far (c := w.heap.size + 1) (by have := (unhide HB7).size; omega) 1 (.int .i64 0)).far (c := w.heap.size + 1) (by have := (unhide HB7).size; omega) 2 (.int .i64 0)).far (c := w.heap.size + 1) (by have := (unhide HB7).size; omega) 3 (.int .i64 0)).far (c := w.heap.size + 1) (by have := (unhide HB7).size; omega) 4 (.int .i64 0))
  have HN8 := hide (((((unhide HN7).far (c := w.heap.size + 1) (by have := (unhide HB7).size; omega) 1 (.int .i64 0)).far (c := w.heap.size + 1) (by have := (unhide HB7).size; omega) 2 (.int .i64 0)).far (c := w.heap.size + 1) (by have := (unhide HB7).size; omega) 3 (.int .i64 0)).far (c := w.heap.size + 1) (by have := (unhide HB7).size; omega) 4 (.int .i64 0))
  have HB8 : Hid (Below w.heap.size w ((((w7.setCell ⟨w.heap.size + 1, 1, none⟩ (.int .i64 0)).setCell ⟨w.heap.size + 1, 2, none⟩ (.int .i64 0)).setCell ⟨w.heap.size + 1, 3, none⟩ (.int .i64 0)).setCell ⟨w.heap.size + 1, 4, none⟩ (.int .i64 0))) := hide (by have := (unhide HB7).size; exact (by (repeat' (first | exact Below.refl _ _ | refine Below.alloc ?_ ?_ _ | refine Below.setCell ?_ ?_ _ | refine Below.drew ?_ | refine Below.trans ?_ (Below.mono (unhide HB7) ?_))); all_goals (first | exact Nat.le_refl _ | omega | (simp; done) | (simp; omega))))
  generalize ((((w7.setCell ⟨w.heap.size + 1, 1, none⟩ (.int .i64 0)).setCell ⟨w.heap.size + 1, 2, none⟩ (.int .i64 0)).setCell ⟨w.heap.size + 1, 3, none⟩ (.int .i64 0)).setCell ⟨w.heap.size + 1, 4, none⟩ (.int .i64 0)) = w8 at HR8 HH8 HT8 HN8 HB8 ⊢
  obtain ⟨r0, r1, r2⟩ := (unhide HR8).c3.1
  have rl := (unhide HR8).2
  obtain ⟨h0, h1, h2, h3, h4, h5, h6, h7, h8, h9⟩ := (unhide HH8).c10.1
  have hl := (unhide HH8).2
  go_wp2_with fail
  refine (unhide CA2 _).mono ?_
  rintro e w9 ⟨rfl, hb9⟩
  clear r0 r1 r2 rl h0 h1 h2 h3 h4 h5 h6 h7 h8 h9 hl
  have HR9 := hide (((unhide HR8).later (by (repeat' (first | exact Below.refl _ _ | refine Below.alloc ?_ ?_ _ | refine Below.setCell ?_ ?_ _ | refine Below.drew ?_)); all_goals (first | exact Nat.le_refl _ | omega | (simp; done) | (simp; omega)))).later hb9)
  have HH9 := hide (((unhide HH8).later (by (repeat' (first | exact Below.refl _ _ | refine Below.alloc ?_ ?_ _ | refine Below.setCell ?_ ?_ _ | refine Below.drew ?_)); all_goals (first | exact Nat.le_refl _ | omega | (simp; done) | (simp; omega)))).later hb9)
  have HT9 := hide (((unhide HT8).later (by (repeat' (first | exact Below.refl _ _ | refine Below.alloc ?_ ?_ _ | refine Below.setCell ?_ ?_ _ | refine Below.drew ?_)); all_goals (first | exact Nat.le_refl _ | omega | (simp; done) | (simp; omega)))).later hb9)
  have HN9 := hide (((unhide HN8).later (by (repeat' (first | exact Below.refl _ _ | refine Below.alloc ?_ ?_ _ | refine Below.setCell ?_ ?_ _ | refine Below.drew ?_)); all_goals (first | exact Nat.le_refl _ | omega | (simp; done) | (simp; omega)))).later hb9)
  have HB9 := hide (show Below w.heap.size w w9 from (by have := (unhide HB8).size; exact Below.trans (by (repeat' (first | exact Below.refl _ _ | refine Below.alloc ?_ ?_ _ | refine Below.setCell ?_ ?_ _ | refine Below.drew ?_ | refine Below.trans ?_ (Below.mono (unhide HB8) ?_))); all_goals (first | exact Nat.le_refl _ | omega | (simp; done) | (simp; omega))) (hb9.mono (by first | omega | (simp; done) | (simp; omega)))))
  clear hb9
  obtain ⟨t0, t1, t2, t3⟩ := (unhide HT9).c4.1
  have tl := (unhide HT9).2
  obtain ⟨n0, n1, n2, n3⟩ := (unhide HN9).c4.1
  have nl := (unhide HN9).2
  go_wp2
  go_ret
  exact ⟨rfl, (by have := (unhide HB9).size; exact (by (repeat' (first | exact Below.refl _ _ | refine Below.alloc ?_ ?_ _ | refine Below.setCell ?_ ?_ _ | refine Below.drew ?_ | refine Below.trans ?_ (Below.mono (unhide HB9) ?_))); all_goals (first | exact Nat.le_refl _ | omega | (simp; done) | (simp; omega))))⟩

set_option maxHeartbeats 6400000 in
set_option maxRecDepth 8000 in
theorem means_full (ep key old a te ta tt tg ke kn ku kg : Int) (s : ByteArray) (now life K g c : Int) (o m2 : Bool) (w : World) (C0 : Hid (∀ w : World, Calls Try.prog 9 #[.int .i64 5] w fun e w' => e = .returned (.tuple #[.agg #[.int .i64 0, .int .i64 K, .int .i64 0], .nilIface]) ∧ Below w.heap.size w w')) (CA0 : Hid (∀ w : World, Calls Try.prog 10 #[.agg #[.int .i64 0, .int .i64 K, .int .i64 0], .agg #[.int .i64 3, .int .i64 0, .int .i64 0, .int .i64 0, .int .i64 0, .int .i64 0, .int .i64 0, .int .i64 0, .int .i64 0, .string ⟨#[120]⟩], .int .i64 5, .int .i64 1, .int .i64 9] w fun e w' => e = .returned (.tuple #[.int .i64 0, .bool false, .nilIface]) ∧ Below w.heap.size w w')) (CA1 : Hid (∀ w : World, Calls Try.prog 10 #[.agg #[.int .i64 ep, .int .i64 key, .int .i64 old], .agg #[.int .i64 a, .int .i64 te, .int .i64 ta, .int .i64 tt, .int .i64 tg, .int .i64 ke, .int .i64 kn, .int .i64 ku, .int .i64 kg, .string s], .int .i64 8, .int .i64 now, .int .i64 life] w fun e w' => e = .returned (.tuple #[.int .i64 2, .bool false, .nilIface]) ∧ Below w.heap.size w w')) (CO : Hid (∀ w : World, Calls Try.prog 11 #[.agg #[.int .i64 ep, .int .i64 key, .int .i64 old], .agg #[.int .i64 ke, .int .i64 kn, .int .i64 ku, .int .i64 kg], .int .i64 now] w fun e w' => e = .returned (.tuple #[.bool o, .nilIface]) ∧ Below w.heap.size w w')) (CT : Hid (∀ w : World, Calls Try.prog 12 #[.agg #[.int .i64 ep, .int .i64 key, .int .i64 old], .agg #[.int .i64 te, .int .i64 ta, .int .i64 tt, .int .i64 tg], .int .i64 a, .int .i64 now, .int .i64 life] w fun e w' => e = .returned (errV c) ∧ Below w.heap.size w w')) (CM : Hid (∀ w : World, Calls Try.prog 14 #[.agg #[.int .i64 ep, .int .i64 key, .int .i64 old], .int .i64 a, .int .i64 now] w fun e w' => e = .returned (.tuple #[.agg #[.int .i64 ep, .int .i64 a, .int .i64 now, .int .i64 g], .nilIface]) ∧ Below w.heap.size w w')) (CA2 : Hid (∀ w : World, Calls Try.prog 10 #[.agg #[.int .i64 ep, .int .i64 key, .int .i64 old], .agg #[.int .i64 a, .int .i64 ep, .int .i64 a, .int .i64 now, .int .i64 g, .int .i64 ke, .int .i64 kn, .int .i64 ku, .int .i64 kg, .string s], .int .i64 8, .int .i64 now, .int .i64 life] w fun e w' => e = .returned (.tuple #[.int .i64 2, .bool m2, .nilIface]) ∧ Below w.heap.size w w')) :
    Calls Try.prog 4 #[.agg #[.int .i64 ep, .int .i64 key, .int .i64 old], .agg #[.int .i64 a, .int .i64 te, .int .i64 ta, .int .i64 tt, .int .i64 tg, .int .i64 ke, .int .i64 kn, .int .i64 ku, .int .i64 kg, .string s], .int .i64 8, .int .i64 now, .int .i64 life] w fun e w' => e = .returned (.bool true) ∧ Below w.heap.size w w' := by
  go_enter Try.func4, Try.ntmps4
  go_wp2_with fail
  refine (unhide C0 _).mono ?_
  rintro e w1 ⟨rfl, hb1⟩
  have HR1 : Hid (Held w1 (w.heap.size) (n3 ep key old)) := hide (((Held.fresh (w := w) (n3 ep key old) 30 (by first | rfl | (simp; done))).later (by (repeat' (first | exact Below.refl _ _ | refine Below.alloc ?_ ?_ _ | refine Below.setCell ?_ ?_ _ | refine Below.drew ?_)); all_goals (first | exact Nat.le_refl _ | omega | (simp; done) | (simp; omega)))).later hb1)
  have HH1 : Hid (Held w1 (w.heap.size + 1) (nh a te ta tt tg ke kn ku kg s)) := hide (((Held.fresh (w := w.alloc (.cells (n3 ep key old).toArray 30)) (nh a te ta tt tg ke kn ku kg s) 36 (by first | rfl | (simp; done))).later (by (repeat' (first | exact Below.refl _ _ | refine Below.alloc ?_ ?_ _ | refine Below.setCell ?_ ?_ _ | refine Below.drew ?_)); all_goals (first | exact Nat.le_refl _ | omega | (simp; done) | (simp; omega)))).later hb1)
  have HB1 := hide (show Below w.heap.size w w1 from Below.trans (by (repeat' (first | exact Below.refl _ _ | refine Below.alloc ?_ ?_ _ | refine Below.setCell ?_ ?_ _ | refine Below.drew ?_)); all_goals (first | exact Nat.le_refl _ | omega | (simp; done) | (simp; omega))) (hb1.mono (by first | exact Nat.le_refl _ | (simp; done) | (simp; omega))))
  clear hb1
  go_wp2_with fail
  refine (unhide CA0 _).mono ?_
  rintro e w2 ⟨rfl, hb2⟩
  have HR2 := hide (((unhide HR1).later (by (repeat' (first | exact Below.refl _ _ | refine Below.alloc ?_ ?_ _ | refine Below.setCell ?_ ?_ _ | refine Below.drew ?_)); all_goals (first | exact Nat.le_refl _ | omega | (simp; done) | (simp; omega)))).later hb2)
  have HH2 := hide (((unhide HH1).later (by (repeat' (first | exact Below.refl _ _ | refine Below.alloc ?_ ?_ _ | refine Below.setCell ?_ ?_ _ | refine Below.drew ?_)); all_goals (first | exact Nat.le_refl _ | omega | (simp; done) | (simp; omega)))).later hb2)
  have HB2 := hide (show Below w.heap.size w w2 from (by have := (unhide HB1).size; exact Below.trans (by (repeat' (first | exact Below.refl _ _ | refine Below.alloc ?_ ?_ _ | refine Below.setCell ?_ ?_ _ | refine Below.drew ?_ | refine Below.trans ?_ (Below.mono (unhide HB1) ?_))); all_goals (first | exact Nat.le_refl _ | omega | (simp; done) | (simp; omega))) (hb2.mono (by first | omega | (simp; done) | (simp; omega)))))
  clear hb2
  obtain ⟨r0, r1, r2⟩ := (unhide HR2).c3.1
  have rl := (unhide HR2).2
  obtain ⟨h0, h1, h2, h3, h4, h5, h6, h7, h8, h9⟩ := (unhide HH2).c10.1
  have hl := (unhide HH2).2
  go_wp2_with fail
  refine (unhide CA1 _).mono ?_
  rintro e w3 ⟨rfl, hb3⟩
  clear r0 r1 r2 rl h0 h1 h2 h3 h4 h5 h6 h7 h8 h9 hl
  have HR3 := hide (((unhide HR2).later (by (repeat' (first | exact Below.refl _ _ | refine Below.alloc ?_ ?_ _ | refine Below.setCell ?_ ?_ _ | refine Below.drew ?_)); all_goals (first | exact Nat.le_refl _ | omega | (simp; done) | (simp; omega)))).later hb3)
  have HH3 := hide (((unhide HH2).later (by (repeat' (first | exact Below.refl _ _ | refine Below.alloc ?_ ?_ _ | refine Below.setCell ?_ ?_ _ | refine Below.drew ?_)); all_goals (first | exact Nat.le_refl _ | omega | (simp; done) | (simp; omega)))).later hb3)
  have HB3 := hide (show Below w.heap.size w w3 from (by have := (unhide HB2).size; exact Below.trans (by (repeat' (first | exact Below.refl _ _ | refine Below.alloc ?_ ?_ _ | refine Below.setCell ?_ ?_ _ | refine Below.drew ?_ | refine Below.trans ?_ (Below.mono (unhide HB2) ?_))); all_goals (first | exact Nat.le_refl _ | omega | (simp; done) | (simp; omega))) (hb3.mono (by first | omega | (simp; done) | (simp; omega)))))
  clear hb3
  obtain ⟨r0, r1, r2⟩ := (unhide HR3).c3.1
  have rl := (unhide HR3).2
  obtain ⟨h0, h1, h2, h3, h4, h5, h6, h7, h8, h9⟩ := (unhide HH3).c10.1
  have hl := (unhide HH3).2
  go_wp2_with fail
  refine (unhide CO _).mono ?_
  rintro e w4 ⟨rfl, hb4⟩
  clear r0 r1 r2 rl h0 h1 h2 h3 h4 h5 h6 h7 h8 h9 hl
  have HR4 := hide (((unhide HR3).later (by (repeat' (first | exact Below.refl _ _ | refine Below.alloc ?_ ?_ _ | refine Below.setCell ?_ ?_ _ | refine Below.drew ?_)); all_goals (first | exact Nat.le_refl _ | omega | (simp; done) | (simp; omega)))).later hb4)
  have HH4 := hide (((unhide HH3).later (by (repeat' (first | exact Below.refl _ _ | refine Below.alloc ?_ ?_ _ | refine Below.setCell ?_ ?_ _ | refine Below.drew ?_)); all_goals (first | exact Nat.le_refl _ | omega | (simp; done) | (simp; omega)))).later hb4)
  have HB4 := hide (show Below w.heap.size w w4 from (by have := (unhide HB3).size; exact Below.trans (by (repeat' (first | exact Below.refl _ _ | refine Below.alloc ?_ ?_ _ | refine Below.setCell ?_ ?_ _ | refine Below.drew ?_ | refine Below.trans ?_ (Below.mono (unhide HB3) ?_))); all_goals (first | exact Nat.le_refl _ | omega | (simp; done) | (simp; omega))) (hb4.mono (by first | omega | (simp; done) | (simp; omega)))))
  clear hb4
  obtain ⟨r0, r1, r2⟩ := (unhide HR4).c3.1
  have rl := (unhide HR4).2
  obtain ⟨h0, h1, h2, h3, h4, h5, h6, h7, h8, h9⟩ := (unhide HH4).c10.1
  have hl := (unhide HH4).2
  go_wp2_with fail
  refine (unhide CT _).mono ?_
  rintro e w5 ⟨rfl, hb5⟩
  clear r0 r1 r2 rl h0 h1 h2 h3 h4 h5 h6 h7 h8 h9 hl
  have HR5 := hide (((unhide HR4).later (by (repeat' (first | exact Below.refl _ _ | refine Below.alloc ?_ ?_ _ | refine Below.setCell ?_ ?_ _ | refine Below.drew ?_)); all_goals (first | exact Nat.le_refl _ | omega | (simp; done) | (simp; omega)))).later hb5)
  have HH5 := hide (((unhide HH4).later (by (repeat' (first | exact Below.refl _ _ | refine Below.alloc ?_ ?_ _ | refine Below.setCell ?_ ?_ _ | refine Below.drew ?_)); all_goals (first | exact Nat.le_refl _ | omega | (simp; done) | (simp; omega)))).later hb5)
  have HB5 := hide (show Below w.heap.size w w5 from (by have := (unhide HB4).size; exact Below.trans (by (repeat' (first | exact Below.refl _ _ | refine Below.alloc ?_ ?_ _ | refine Below.setCell ?_ ?_ _ | refine Below.drew ?_ | refine Below.trans ?_ (Below.mono (unhide HB4) ?_))); all_goals (first | exact Nat.le_refl _ | omega | (simp; done) | (simp; omega))) (hb5.mono (by first | omega | (simp; done) | (simp; omega)))))
  clear hb5
  obtain ⟨r0, r1, r2⟩ := (unhide HR5).c3.1
  have rl := (unhide HR5).2
  obtain ⟨h0, h1, h2, h3, h4, h5, h6, h7, h8, h9⟩ := (unhide HH5).c10.1
  have hl := (unhide HH5).2
  go_wp2_with fail
  refine (unhide CM _).mono ?_
  rintro e w6 ⟨rfl, hb6⟩
  clear r0 r1 r2 rl h0 h1 h2 h3 h4 h5 h6 h7 h8 h9 hl
  have HR6 := hide (((unhide HR5).later (by (repeat' (first | exact Below.refl _ _ | refine Below.alloc ?_ ?_ _ | refine Below.setCell ?_ ?_ _ | refine Below.drew ?_)); all_goals (first | exact Nat.le_refl _ | omega | (simp; done) | (simp; omega)))).later hb6)
  have HH6 := hide (((unhide HH5).later (by (repeat' (first | exact Below.refl _ _ | refine Below.alloc ?_ ?_ _ | refine Below.setCell ?_ ?_ _ | refine Below.drew ?_)); all_goals (first | exact Nat.le_refl _ | omega | (simp; done) | (simp; omega)))).later hb6)
  have HB6 := hide (show Below w.heap.size w w6 from (by have := (unhide HB5).size; exact Below.trans (by (repeat' (first | exact Below.refl _ _ | refine Below.alloc ?_ ?_ _ | refine Below.setCell ?_ ?_ _ | refine Below.drew ?_ | refine Below.trans ?_ (Below.mono (unhide HB5) ?_))); all_goals (first | exact Nat.le_refl _ | omega | (simp; done) | (simp; omega))) (hb6.mono (by first | omega | (simp; done) | (simp; omega)))))
  clear hb6
  go_upto_region 18 with fail
  have HR7 : Hid (Held ((w6.alloc (.cells #[.int .i64 ep, .int .i64 a, .int .i64 now, .int .i64 g] 32)).alloc (.cells #[.int .i64 0, .int .i64 0, .int .i64 0, .int .i64 0] 32)) _ _) := hide ((unhide HR6).later (by (repeat' (first | exact Below.refl _ _ | refine Below.alloc ?_ ?_ _ | refine Below.setCell ?_ ?_ _ | refine Below.drew ?_)); all_goals (first | exact Nat.le_refl _ | omega | (simp; done) | (simp; omega))))
  have HH7 : Hid (Held ((w6.alloc (.cells #[.int .i64 ep, .int .i64 a, .int .i64 now, .int .i64 g] 32)).alloc (.cells #[.int .i64 0, .int .i64 0, .int .i64 0, .int .i64 0] 32)) _ _) := hide ((unhide HH6).later (by (repeat' (first | exact Below.refl _ _ | refine Below.alloc ?_ ?_ _ | refine Below.setCell ?_ ?_ _ | refine Below.drew ?_)); all_goals (first | exact Nat.le_refl _ | omega | (simp; done) | (simp; omega))))
  have HT7 : Hid (Held ((w6.alloc (.cells #[.int .i64 ep, .int .i64 a, .int .i64 now, .int .i64 g] 32)).alloc (.cells #[.int .i64 0, .int .i64 0, .int .i64 0, .int .i64 0] 32)) w6.heap.size (n4 ep a now g)) := hide ((Held.fresh (w := w6) (n4 ep a now g) 32 rfl).later (Below.alloc (Below.refl _ _) (Nat.le_refl _) _))
  have HN7 : Hid (Held ((w6.alloc (.cells #[.int .i64 ep, .int .i64 a, .int .i64 now, .int .i64 g] 32)).alloc (.cells #[.int .i64 0, .int .i64 0, .int .i64 0, .int .i64 0] 32)) (w6.heap.size + 1) (n4 0 0 0 0)) := hide (Held.fresh (w := (w6.alloc (.cells #[.int .i64 ep, .int .i64 a, .int .i64 now, .int .i64 g] 32))) (n4 0 0 0 0) 32 (by simp))
  have HB7 : Hid (Below w.heap.size w ((w6.alloc (.cells #[.int .i64 ep, .int .i64 a, .int .i64 now, .int .i64 g] 32)).alloc (.cells #[.int .i64 0, .int .i64 0, .int .i64 0, .int .i64 0] 32))) := hide (by have := (unhide HB6).size; exact (by (repeat' (first | exact Below.refl _ _ | refine Below.alloc ?_ ?_ _ | refine Below.setCell ?_ ?_ _ | refine Below.drew ?_ | refine Below.trans ?_ (Below.mono (unhide HB6) ?_))); all_goals (first | exact Nat.le_refl _ | omega | (simp; done) | (simp; omega))))
  have z6 : w.heap.size + 1 < w6.heap.size := (unhide HH6).2
  generalize ((w6.alloc (.cells #[.int .i64 ep, .int .i64 a, .int .i64 now, .int .i64 g] 32)).alloc (.cells #[.int .i64 0, .int .i64 0, .int .i64 0, .int .i64 0] 32)) = w7 at HR7 HH7 HT7 HN7 HB7 ⊢
  obtain ⟨t0, t1, t2, t3⟩ := (unhide HT7).c4.1
  have tl := (unhide HT7).2
  obtain ⟨h0, h1, h2, h3, h4, h5, h6, h7, h8, h9⟩ := (unhide HH7).c10.1
  obtain ⟨hf0, hf1, hf2, hf3, hf4, hf5, hf6, hf7, hf8, hf9⟩ := (unhide HH7).c10.2
  have hl := (unhide HH7).2
  go_upto_region 19 with fail
  clear t0 t1 t2 t3 tl h0 h1 h2 h3 h4 h5 h6 h7 h8 h9 hf0 hf1 hf2 hf3 hf4 hf5 hf6 hf7 hf8 hf9 hl
  have HR8 := hide (((((unhide HR7).far (c := w.heap.size + 1) (by have := (unhide HB7).size; omega) 1 (.int .i64 ep)).far (c := w.heap.size + 1) (by have := (unhide HB7).size; omega) 2 (.int .i64 a)).far (c := w.heap.size + 1) (by have := (unhide HB7).size; omega) 3 (.int .i64 now)).far (c := w.heap.size + 1) (by have := (unhide HB7).size; omega) 4 (.int .i64 g))
  have HH8 : Hid (Held ((((w7.setCell ⟨w.heap.size + 1, 1, none⟩ (.int .i64 ep)).setCell ⟨w.heap.size + 1, 2, none⟩ (.int .i64 a)).setCell ⟨w.heap.size + 1, 3, none⟩ (.int .i64 now)).setCell ⟨w.heap.size + 1, 4, none⟩ (.int .i64 g)) (w.heap.size + 1) (nh a ep a now g ke kn ku kg s)) := hide (((((unhide HH7).put 1 (.int .i64 ep)).put 2 (.int .i64 a)).put 3 (.int .i64 now)).put 4 (.int .i64 g))
  have HT8 := hide (((((unhide HT7).far (c := w.heap.size + 1) (by have := (unhide HB7).size; omega) 1 (.int .i64 ep)).far (c := w.heap.size + 1) (by have := (unhide HB7).size; omega) 2 (.int .i64 a)).far (c := w.heap.size + 1) (by have := (unhide HB7).size; omega) 3 (.int .i64 now)).far (c := w.heap.size + 1) (by have := (unhide HB7).size; omega) 4 (.int .i64 g))
  have HN8 := hide (((((unhide HN7).far (c := w.heap.size + 1) (by have := (unhide HB7).size; omega) 1 (.int .i64 ep)).far (c := w.heap.size + 1) (by have := (unhide HB7).size; omega) 2 (.int .i64 a)).far (c := w.heap.size + 1) (by have := (unhide HB7).size; omega) 3 (.int .i64 now)).far (c := w.heap.size + 1) (by have := (unhide HB7).size; omega) 4 (.int .i64 g))
  have HB8 : Hid (Below w.heap.size w ((((w7.setCell ⟨w.heap.size + 1, 1, none⟩ (.int .i64 ep)).setCell ⟨w.heap.size + 1, 2, none⟩ (.int .i64 a)).setCell ⟨w.heap.size + 1, 3, none⟩ (.int .i64 now)).setCell ⟨w.heap.size + 1, 4, none⟩ (.int .i64 g))) := hide (by have := (unhide HB7).size; exact (by (repeat' (first | exact Below.refl _ _ | refine Below.alloc ?_ ?_ _ | refine Below.setCell ?_ ?_ _ | refine Below.drew ?_ | refine Below.trans ?_ (Below.mono (unhide HB7) ?_))); all_goals (first | exact Nat.le_refl _ | omega | (simp; done) | (simp; omega))))
  generalize ((((w7.setCell ⟨w.heap.size + 1, 1, none⟩ (.int .i64 ep)).setCell ⟨w.heap.size + 1, 2, none⟩ (.int .i64 a)).setCell ⟨w.heap.size + 1, 3, none⟩ (.int .i64 now)).setCell ⟨w.heap.size + 1, 4, none⟩ (.int .i64 g)) = w8 at HR8 HH8 HT8 HN8 HB8 ⊢
  obtain ⟨r0, r1, r2⟩ := (unhide HR8).c3.1
  have rl := (unhide HR8).2
  obtain ⟨h0, h1, h2, h3, h4, h5, h6, h7, h8, h9⟩ := (unhide HH8).c10.1
  have hl := (unhide HH8).2
  go_wp2_with fail
  refine (unhide CA2 _).mono ?_
  rintro e w9 ⟨rfl, hb9⟩
  clear r0 r1 r2 rl h0 h1 h2 h3 h4 h5 h6 h7 h8 h9 hl
  have HR9 := hide (((unhide HR8).later (by (repeat' (first | exact Below.refl _ _ | refine Below.alloc ?_ ?_ _ | refine Below.setCell ?_ ?_ _ | refine Below.drew ?_)); all_goals (first | exact Nat.le_refl _ | omega | (simp; done) | (simp; omega)))).later hb9)
  have HH9 := hide (((unhide HH8).later (by (repeat' (first | exact Below.refl _ _ | refine Below.alloc ?_ ?_ _ | refine Below.setCell ?_ ?_ _ | refine Below.drew ?_)); all_goals (first | exact Nat.le_refl _ | omega | (simp; done) | (simp; omega)))).later hb9)
  have HT9 := hide (((unhide HT8).later (by (repeat' (first | exact Below.refl _ _ | refine Below.alloc ?_ ?_ _ | refine Below.setCell ?_ ?_ _ | refine Below.drew ?_)); all_goals (first | exact Nat.le_refl _ | omega | (simp; done) | (simp; omega)))).later hb9)
  have HN9 := hide (((unhide HN8).later (by (repeat' (first | exact Below.refl _ _ | refine Below.alloc ?_ ?_ _ | refine Below.setCell ?_ ?_ _ | refine Below.drew ?_)); all_goals (first | exact Nat.le_refl _ | omega | (simp; done) | (simp; omega)))).later hb9)
  have HB9 := hide (show Below w.heap.size w w9 from (by have := (unhide HB8).size; exact Below.trans (by (repeat' (first | exact Below.refl _ _ | refine Below.alloc ?_ ?_ _ | refine Below.setCell ?_ ?_ _ | refine Below.drew ?_ | refine Below.trans ?_ (Below.mono (unhide HB8) ?_))); all_goals (first | exact Nat.le_refl _ | omega | (simp; done) | (simp; omega))) (hb9.mono (by first | omega | (simp; done) | (simp; omega)))))
  clear hb9
  obtain ⟨t0, t1, t2, t3⟩ := (unhide HT9).c4.1
  have tl := (unhide HT9).2
  obtain ⟨n0, n1, n2, n3⟩ := (unhide HN9).c4.1
  have nl := (unhide HN9).2
  go_wp2
  go_ret
  exact ⟨rfl, (by have := (unhide HB9).size; exact (by (repeat' (first | exact Below.refl _ _ | refine Below.alloc ?_ ?_ _ | refine Below.setCell ?_ ?_ _ | refine Below.drew ?_ | refine Below.trans ?_ (Below.mono (unhide HB9) ?_))); all_goals (first | exact Nat.le_refl _ | omega | (simp; done) | (simp; omega))))⟩


theorem walk (ep key old a te ta tt tg ke kn ku kg : Int) (s : ByteArray) (n now life : Int) (w : World) (_f0 : (Lit.int .i64 ep).wf = true) (_f1 : (Lit.int .i64 key).wf = true) (_f2 : (Lit.int .i64 old).wf = true) (_f3 : (Lit.int .i64 a).wf = true) (_f4 : (Lit.int .i64 te).wf = true) (_f5 : (Lit.int .i64 ta).wf = true) (_f6 : (Lit.int .i64 tt).wf = true) (_f7 : (Lit.int .i64 tg).wf = true) (_f8 : (Lit.int .i64 ke).wf = true) (_f9 : (Lit.int .i64 kn).wf = true) (_f10 : (Lit.int .i64 ku).wf = true) (_f11 : (Lit.int .i64 kg).wf = true) (_x : s.size ≤ maxLen) (_g0 : (Lit.int .i64 n).wf = true) (_g1 : (Lit.int .i64 now).wf = true) (_g2 : (Lit.int .i64 life).wf = true) :
    Calls Try.prog 4 #[.agg #[.int .i64 ep, .int .i64 key, .int .i64 old], .agg #[.int .i64 a, .int .i64 te, .int .i64 ta, .int .i64 tt, .int .i64 tg, .int .i64 ke, .int .i64 kn, .int .i64 ku, .int .i64 kg, .string s], .int .i64 n, .int .i64 now, .int .i64 life] w fun e w' => e = .returned (.bool true) ∧ Below w.heap.size w w' := by
  have k0 : 0 ≤ TagM.tag 5 [0] ∧ TagM.tag 5 [0] < 999983 := TagM.tag_bd _ _
  have C0 := hide (fun w => rnew_yes 5 w (by omega) (by omega))
  have hr0 : RingM.err 0 (TagM.tag 5 [0]) 0 = 0 := RingM.err_zero.2 ⟨by omega, k0, by omega, fun _ => rfl⟩
  generalize TagM.tag 5 [0] = K at C0 hr0
  have CA0 := hide (jans_any 0 K 0 3 0 0 0 0 0 0 0 0 ⟨#[120]⟩ 5 1 9)
  have z0 : JudgeM.ansErr 0 K 0 3 5 1 9 = 0 := JudgeM.ans_zero.2 ⟨hr0, by decide, by decide, by decide, by decide⟩
  rw [JudgeM.kind_yes z0, JudgeM.may_yes z0, errV_zero z0] at CA0
  rw [show JudgeM.shownB 0 K 0 0 0 0 0 3 1 9 = false from rfl, show JudgeM.rightB 0 K 0 0 0 0 0 1 = false from rfl, show LoadM.kind 5 false false = 0 by decide] at CA0
  rw [show (decide ((0 : Int) = 1) && false && JudgeM.mayB (⟨#[120]⟩ : ByteArray).size) = false from rfl] at CA0
  clear z0 hr0 k0
  have CA1 := hide (jans_any ep key old a te ta tt tg ke kn ku kg s n now life)
  by_cases hE : JudgeM.ansErr ep key old a n now life = 0
  · obtain ⟨he, ha, ht, hl, hn⟩ := JudgeM.ans_zero.1 hE
    rw [JudgeM.kind_yes hE, JudgeM.may_yes hE, errV_zero hE] at CA1
    have CO := hide (jold_any ep key old ke kn ku kg now)
    have hO := JudgeM.old_zero.2 ⟨he, ht⟩
    rw [JudgeM.oldB_yes hO, errV_zero hO] at CO
    have CT := hide (tcheck_any ep key old te ta tt tg a now life)
    have CK := hide (kcheck_any ep key old ke kn ku kg now)
    have hM : TokenM.makeErr ep key old a now = 0 := TokenM.make_zero.2 ⟨he, ha, ht⟩
    have CM := hide (fun w => tmake_yes w hM)
    have hl0 := ((TokenM.timeB_iff life).1 hl).1
    have hc := TokenM.check_made hM ha ht hl
    rw [if_pos rfl, if_neg (show ¬ now < now by omega), if_neg (show ¬ life < now - now by omega)] at hc
    have CA2 := hide (jans_any ep key old a ep a now (TagM.tag key [1, a, now]) ke kn ku kg s n now life)
    rw [JudgeM.kind_yes hE, errV_zero hE] at CA2
    have hS : JudgeM.shownB ep key old ep a now (TagM.tag key [1, a, now]) a now life = !(JudgeM.noneB ep a now (TagM.tag key [1, a, now])) := by
      unfold JudgeM.shownB
      rw [hc]
      simp
    rw [hS] at CA2
    generalize JudgeM.may ep key old a ep a now (TagM.tag key [1, a, now]) ke kn ku kg s.size n now life = m2 at CA2
    clear hS hc hM hl0 hO he ha ht hl hE
    generalize TagM.tag key [1, a, now] = g at CM CA2
    have hn8 : 0 ≤ n ∧ n ≤ 8 := by
      unfold LoadM.err at hn
      by_cases q : n < 0 ∨ 8 < n
      · rw [if_pos q] at hn; omega
      · omega
    clear hn
    have hb : JudgeM.mayB s.size = true → ¬ s.size = 0 := by
      intro q
      simp [JudgeM.mayB] at q
      omega
    have hr : JudgeM.rightB ep key old ke kn ku kg now = true → TicketM.checkErr ep key old ke kn ku kg now = 0 := by
      intro q
      simp [JudgeM.rightB] at q
      exact q.2
    have hs : JudgeM.shownB ep key old te ta tt tg a now life = true → TokenM.checkErr ep key old te ta tt tg a now life = 0 := by
      intro q
      simp [JudgeM.shownB] at q
      exact q.2
    generalize JudgeM.rightB ep key old ke kn ku kg now = o at CA1 CA2 CO hr
    generalize JudgeM.shownB ep key old te ta tt tg a now life = t at CA1 hs
    generalize JudgeM.mayB s.size = b at CA1 hb
    by_cases hcalm : n < 4
    · have q2 : n < 8 := by omega
      have q3 : ¬ n = 8 := by omega
      have q4 := beq_no q3
      rw [LoadM.kind_calm hn8.1 hcalm] at CA1 CA2
      cases o
      · rw [show (decide ((1 : Int) = 1) && false && b) = false from rfl] at CA1
        exact means_calm_f ep key old a te ta tt tg ke kn ku kg s n now life K g _ _ _ w hcalm (by omega) q2 q3 q4 C0 CA0 CA1 CO CT CM CA2
      · cases b
        · rw [show (decide ((1 : Int) = 1) && true && false) = false from rfl] at CA1
          exact means_calm_f ep key old a te ta tt tg ke kn ku kg s n now life K g _ _ _ w hcalm (by omega) q2 q3 q4 C0 CA0 CA1 CO CT CM CA2
        · rw [show (decide ((1 : Int) = 1) && true && true) = true from rfl] at CA1
          rw [errV_zero (hr rfl)] at CK
          exact means_calm_t ep key old a te ta tt tg ke kn ku kg s n now life K g _ _ w (hb rfl) hcalm (by omega) q2 q3 q4 C0 CA0 CA1 CO CT CK CM CA2
    · by_cases hfull : n = 8
      · subst hfull
        rw [LoadM.kind_full] at CA1 CA2
        rw [show (decide ((2 : Int) = 1) && o && b) = false from rfl] at CA1
        exact means_full ep key old a te ta tt tg ke kn ku kg s now life K g _ _ _ w C0 CA0 CA1 CO CT CM CA2
      · have q1 : 4 ≤ n := by omega
        have q2 : n < 8 := by omega
        have q4 := beq_no hfull
        cases o
        · cases t
          · rw [LoadM.kind_bare q1 q2] at CA1
            rw [show (decide ((0 : Int) = 1) && false && b) = false from rfl] at CA1
            by_cases hz : JudgeM.noneB ep a now g = true
            · rw [hz, Bool.not_true, LoadM.kind_bare q1 q2] at CA2
              obtain ⟨rfl, rfl, rfl, rfl⟩ := JudgeM.noneB_iff.1 hz
              exact means_bare_none key old te ta tt tg ke kn ku kg s n life K _ _ _ w q1 q2 hfull q4 C0 CA0 CA1 CO CT CM CA2
            · have hz' : JudgeM.noneB ep a now g = false := by simpa using hz
              rw [hz', Bool.not_false, LoadM.kind_shown q1 q2 (.inl rfl)] at CA2
              exact means_bare ep key old a te ta tt tg ke kn ku kg s n now life K g _ _ _ w q1 q2 hfull q4 C0 CA0 CA1 CO CT CM CA2
          · rw [LoadM.kind_shown q1 q2 (.inl rfl)] at CA1
            rw [show (decide ((1 : Int) = 1) && false && b) = false from rfl] at CA1
            rw [errV_zero (hs rfl)] at CT
            by_cases hz : JudgeM.noneB ep a now g = true
            · rw [hz, Bool.not_true, LoadM.kind_bare q1 q2] at CA2
              obtain ⟨rfl, rfl, rfl, rfl⟩ := JudgeM.noneB_iff.1 hz
              exact means_shown_none key old te ta tt tg ke kn ku kg s n life K _ w q1 q2 hfull q4 C0 CA0 CA1 CO CT CM CA2
            · have hz' : JudgeM.noneB ep a now g = false := by simpa using hz
              rw [hz', Bool.not_false, LoadM.kind_shown q1 q2 (.inl rfl)] at CA2
              exact means_shown ep key old a te ta tt tg ke kn ku kg s n now life K g _ w q1 q2 hfull q4 C0 CA0 CA1 CO CT CM CA2
        · rw [LoadM.kind_shown q1 q2 (.inr rfl)] at CA1 CA2
          cases b
          · rw [show (decide ((1 : Int) = 1) && true && false) = false from rfl] at CA1
            exact means_old_f ep key old a te ta tt tg ke kn ku kg s n now life K g _ _ w q1 q2 hfull q4 C0 CA0 CA1 CO CT CM CA2
          · rw [show (decide ((1 : Int) = 1) && true && true) = true from rfl] at CA1
            rw [errV_zero (hr rfl)] at CK
            exact means_old_t ep key old a te ta tt tg ke kn ku kg s n now life K g _ _ w (hb rfl) q1 q2 hfull q4 C0 CA0 CA1 CO CT CK CM CA2
  · exact means_err ep key old a te ta tt tg ke kn ku kg s n now life K _ _ _ w hE C0 CA0 CA1


set_option maxRecDepth 100000 in
theorem lifted (os : Os) (started : os.Started) (H : Type) (enc : TypeId × Value → H) :
    ReturnsInHanded {} Try.checked os 4 .any (Rows.judgeMeansSpec.pre6 enc Try.prog Try.f4 Rows.judgeMeansRow.domain false) (Rows.judgeMeansSpec.post enc Try.prog Try.f4 false true false false) := by
  refine returnsInHanded_of_change (C := Try.checked) own started (by kernel_rfl) Try.func4
    (ChangeSpec.witness6 (enc := enc) (C := Try.checked) false ⟨#[], #[.agg #[.int .i64 0, .int .i64 0, .int .i64 0], .agg #[.int .i64 0, .int .i64 0, .int .i64 0, .int .i64 0, .int .i64 0, .int .i64 0, .int .i64 0, .int .i64 0, .int .i64 0, .string ByteArray.empty], .int .i64 0, .int .i64 0, .int .i64 0], []⟩ 8 (by kernel_rfl) (by kernel_rfl) (by kernel_rfl) (by kernel_rfl)) ?_
  intro W base args ds gs before hval0 hW hcnd _
  have hval : ∀ (j : Nat) t v, Try.f4.params[j]? = some t → args[j]? = some v → Value.okWide Try.prog W .any base t v := hval0
  have hW' := hW
  obtain ⟨p, q, hA0, hV, rfl, hfz, hnd⟩ := hW
  have hA : DataW.TrodAll enc Try.prog W 0 (fun _ => true) true Try.f4.params.toList args.toList ds p := hA0
  rw [Try.params4] at hA hval
  obtain ⟨v0, vs0, d0, ds0, p0, q0, hargs, rfl, rfl, h0, r0⟩ := trodAll_cons hA
  obtain ⟨v1, vs1, d1, ds1, p1, q1, rfl, rfl, rfl, h1, r1⟩ := trodAll_cons r0
  obtain ⟨v2, vs2, d2, ds2, p2, q2, rfl, rfl, rfl, h2, r2⟩ := trodAll_cons r1
  obtain ⟨v3, vs3, d3, ds3, p3, q3, rfl, rfl, rfl, h3, r3⟩ := trodAll_cons r2
  obtain ⟨v4, vs4, d4, ds4, p4, q4, rfl, rfl, rfl, h4, r4⟩ := trodAll_cons r3
  obtain ⟨rfl, rfl, rfl⟩ := trodAll_nil r4
  obtain rfl : args = #[v0, v1, v2, v3, v4] := by cases args; simp_all
  obtain ⟨rfl, rfl⟩ := trodVars_none hV
  have k0 := h0
  have lt0 : ∀ x ∈ p0, x.block < W.heap.size := by obtain ⟨m, hm⟩ := k0; exact DataW.trod_lt m _ _ _ hm
  obtain ⟨c0_0, c0_1, c0_2, y0_0, y0_1, y0_2, m0, rfl, rfl, rfl, g0_0, g0_1, g0_2⟩ := open_agg3 Try.underlying30 (by kernel_rfl) (by kernel_rfl) (hval 0 30 v0 rfl rfl) h0
  obtain ⟨a0_0, e0_0, rfl, w0_0⟩ := DataW.trod_int Try.underlying3 g0_0
  simp at e0_0; subst e0_0
  obtain ⟨a0_1, e0_1, rfl, w0_1⟩ := DataW.trod_int Try.underlying3 g0_1
  simp at e0_1; subst e0_1
  obtain ⟨a0_2, e0_2, rfl, w0_2⟩ := DataW.trod_int Try.underlying3 g0_2
  simp at e0_2; subst e0_2
  have k1 := h1
  have lt1 : ∀ x ∈ p1, x.block < W.heap.size := by obtain ⟨m, hm⟩ := k1; exact DataW.trod_lt m _ _ _ hm
  obtain ⟨a1_0, a1_1, a1_2, a1_3, a1_4, a1_5, a1_6, a1_7, a1_8, s1, rfl, w1_0, w1_1, w1_2, w1_3, w1_4, w1_5, w1_6, w1_7, w1_8, x1⟩ := open_hello (hval 1 36 v1 rfl rfl) h1
  have k2 := h2
  have lt2 : ∀ x ∈ p2, x.block < W.heap.size := by obtain ⟨m, hm⟩ := k2; exact DataW.trod_lt m _ _ _ hm
  obtain ⟨a2, rfl, rfl, rfl, w2⟩ := open_int Try.underlying3 (hval 2 3 v2 rfl rfl) h2
  have k3 := h3
  have lt3 : ∀ x ∈ p3, x.block < W.heap.size := by obtain ⟨m, hm⟩ := k3; exact DataW.trod_lt m _ _ _ hm
  obtain ⟨a3, rfl, rfl, rfl, w3⟩ := open_int Try.underlying3 (hval 3 3 v3 rfl rfl) h3
  have k4 := h4
  have lt4 : ∀ x ∈ p4, x.block < W.heap.size := by obtain ⟨m, hm⟩ := k4; exact DataW.trod_lt m _ _ _ hm
  obtain ⟨a4, rfl, rfl, rfl, w4⟩ := open_int Try.underlying3 (hval 4 3 v4 rfl rfl) h4
  clear hA0 hval0
  refine (walk a0_0 a0_1 a0_2 a1_0 a1_1 a1_2 a1_3 a1_4 a1_5 a1_6 a1_7 a1_8 s1 a2 a3 a4 W w0_0 w0_1 w0_2 w1_0 w1_1 w1_2 w1_3 w1_4 w1_5 w1_6 w1_7 w1_8 x1 w2 w3 w4).mono fun e W' ⟨he, bel⟩ => ?_
  subst he
  exact ⟨_, rfl, _, _, _, [], _, [], hW', trodAll_mk1 (shut_bool Try.underlying4 _), (trodAll_cons_mk (Below.trod laidOut (by kernel_rfl) (of_decide_eq_true (by kernel_rfl)) k0 bel lt0) (trodAll_cons_mk (Below.trod laidOut (by kernel_rfl) (of_decide_eq_true (by kernel_rfl)) k1 bel lt1) (trodAll_cons_mk (Below.trod laidOut (by kernel_rfl) (of_decide_eq_true (by kernel_rfl)) k2 bel lt2) (trodAll_cons_mk (Below.trod laidOut (by kernel_rfl) (of_decide_eq_true (by kernel_rfl)) k3 bel lt3) (trodAll_cons_mk (Below.trod laidOut (by kernel_rfl) (of_decide_eq_true (by kernel_rfl)) k4 bel lt4) trodAll_mk0))))), rfl, bel.frame _, fun h => by cases h⟩

theorem over : Rows.judgeMeansRow.holds Try.pinned (OpenSpec.ofChange Rows.judgeMeansSpec) :=
  OpenClaim.holds_of_wide 4 Try.f4 rfl rfl rfl rfl rfl rfl rfl ⟨rfl, rfl, rfl, rfl, rfl⟩ rfl rfl rfl rfl rfl (by kernel_rfl) Try.func4 (by kernel_rfl)
    (of_decide_eq_true (by kernel_rfl)) (by unfold Func.isWrapper; first | (rw [if_pos (by decide +kernel)]; kernel_rfl) | (rw [if_neg (by decide +kernel)]; exact ⟨rfl, rfl⟩))
    (fun os started H enc _ => lifted os started H enc)

end Go.Proofs.Ythdcebjnedbamai.judgeMeans
namespace Go.Proofs.Ythdcebjnedbamai
theorem judgeMeans_holds : Rows.JudgeMeansSaid := judgeMeans.over
#print axioms judgeMeans_holds
end Go.Proofs.Ythdcebjnedbamai

