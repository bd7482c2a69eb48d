/-
  What the calls of package judge come to: Old, shown, mayCome, Answer; and what the document's answer is.
-/
import Derived.Test.YthaicpepgianpakGreatDoorJoinedLoadMath
import Derived.Test.YthaicpepgianpakGreatDoorTicketWalks
import Derived.Test.YthaicpepgianpakGreatDoorJoinedLoadWalks
import Derived.Test.YthaicpepgianpakGreatDoorJoinedHeld
import Derived.Test.YthaicpepgianpakGreatDoorRefTicket
import Derived.Test.YthaicpepgianpakGreatDoorRefToken
import Derived.Deep.QuietTactic
import Derived.BigQuiet
import Derived.WalkSmall
namespace Go.Proofs.YthaicpepgianpakGreatDoor
open Go.RowKit

theorem beq_no {a b : Int} (h : ¬ a = b) : (a == b) = false := by simpa using h
def nh (a te ta tt tg ke kn ku kg : Int) (s : ByteArray) : List Value := [.int .i64 a, .int .i64 te, .int .i64 ta, .int .i64 tt, .int .i64 tg, .int .i64 ke, .int .i64 kn, .int .i64 ku, .int .i64 kg, .string s]
theorem Held.c10 {W : World} {b : Nat} {v0 v1 v2 v3 v4 v5 v6 v7 v8 v9 : Value} (h : Held W b [v0, v1, v2, v3, v4, v5, v6, v7, v8, v9]) :
    (W.cell? ⟨b, 0, none⟩ = some v0 ∧ W.cell? ⟨b, 1, none⟩ = some v1 ∧ W.cell? ⟨b, 2, none⟩ = some v2 ∧ W.cell? ⟨b, 3, none⟩ = some v3 ∧ W.cell? ⟨b, 4, none⟩ = some v4 ∧ W.cell? ⟨b, 5, none⟩ = some v5 ∧ W.cell? ⟨b, 6, none⟩ = some v6 ∧ W.cell? ⟨b, 7, none⟩ = some v7 ∧ W.cell? ⟨b, 8, none⟩ = some v8 ∧ W.cell? ⟨b, 9, none⟩ = some v9) ∧ (W.frozen? ⟨b, 0, none⟩ = false ∧ W.frozen? ⟨b, 1, none⟩ = false ∧ W.frozen? ⟨b, 2, none⟩ = false ∧ W.frozen? ⟨b, 3, none⟩ = false ∧ W.frozen? ⟨b, 4, none⟩ = false ∧ W.frozen? ⟨b, 5, none⟩ = false ∧ W.frozen? ⟨b, 6, none⟩ = false ∧ W.frozen? ⟨b, 7, none⟩ = false ∧ W.frozen? ⟨b, 8, none⟩ = false ∧ W.frozen? ⟨b, 9, none⟩ = false) :=
  ⟨⟨(h.1 0 _ rfl).1, (h.1 1 _ rfl).1, (h.1 2 _ rfl).1, (h.1 3 _ rfl).1, (h.1 4 _ rfl).1, (h.1 5 _ rfl).1, (h.1 6 _ rfl).1, (h.1 7 _ rfl).1, (h.1 8 _ rfl).1, (h.1 9 _ rfl).1⟩, (h.1 0 _ rfl).2, (h.1 1 _ rfl).2, (h.1 2 _ rfl).2, (h.1 3 _ rfl).2, (h.1 4 _ rfl).2, (h.1 5 _ rfl).2, (h.1 6 _ rfl).2, (h.1 7 _ rfl).2, (h.1 8 _ rfl).2, (h.1 9 _ rfl).2⟩
/-- Bytes: none, or some. -/
theorem JudgeM.str_zero {s : ByteArray} (h : s.size = 0) : s = ⟨#[]⟩ := ByteArray.ext (Array.eq_empty_of_size_eq_zero h)
theorem JudgeM.str_some {a : ByteArray} (h : ¬ a.size = 0) : (a.toList == []) = false := by
  rw [beq_eq_false_iff_ne]
  intro e
  rw [ByteArray.toList_eq] at e
  have q := congrArg List.length e
  exact h (by simpa using q)
theorem JudgeM.mayB_ways (s : ByteArray) : (¬ (1 : Int) ≤ (s.size : Int) ∧ s = ⟨#[]⟩) ∨ ((1 : Int) ≤ (s.size : Int) ∧ (s.size : Int) ≤ 40 ∧ (0 : Int) ≤ (s.size : Int) ∧ JudgeM.mayB s.size = true) ∨ ((1 : Int) ≤ (s.size : Int) ∧ ¬ (s.size : Int) ≤ 40 ∧ (0 : Int) ≤ (s.size : Int) ∧ JudgeM.mayB s.size = false) := by
  unfold JudgeM.mayB
  by_cases h : 1 ≤ s.size
  · by_cases h4 : s.size ≤ 40
    · exact .inr (.inl ⟨by omega, by omega, by omega, by simp [h, h4]⟩)
    · exact .inr (.inr ⟨by omega, by omega, by omega, by simp [h4]⟩)
  · exact .inl ⟨by omega, JudgeM.str_zero (by omega)⟩

set_option maxHeartbeats 3200000 in
set_option maxRecDepth 8000 in
theorem jold_ring (ep key old te ta tt tg now : Int) (n : Int) (w : World) (hn : ¬ n = 0) (C : Hid (∀ w : World, Calls Tryz.prog 88 #[.agg #[.int .i64 ep, .int .i64 key, .int .i64 old]] w fun e w' => e = .returned (errV n) ∧ Below w.heap.size w w')) :
    Calls Tryz.prog 113 #[.agg #[.int .i64 ep, .int .i64 key, .int .i64 old], .agg #[.int .i64 te, .int .i64 ta, .int .i64 tt, .int .i64 tg], .int .i64 now] w fun e w' => e = .returned (.tuple #[.bool false, errV n]) ∧ Below w.heap.size w w' := by
  rw [errV_pos hn] at C ⊢
  clear hn
  go_enter Tryz.func113, Tryz.ntmps113
  go_wp2_with fail
  refine (unhide C _).mono ?_
  rintro e w1 ⟨rfl, hb1⟩
  have HR1 : Hid (Held w1 (w.heap.size) (n3 ep key old)) := hide (((Held.fresh (w := w) (n3 ep key old) 56 (by first | rfl | (simp; done))).later (by (repeat' (first | exact Below.refl _ _ | refine Below.alloc ?_ ?_ _ | refine Below.setCell ?_ ?_ _ | refine Below.drew ?_)); all_goals (first | exact Nat.le_refl _ | omega | (simp; done) | (simp; omega)))).later hb1)
  have HT1 : Hid (Held w1 (w.heap.size + 1) (n4 te ta tt tg)) := hide (((Held.fresh (w := w.alloc (.cells (n3 ep key old).toArray 56)) (n4 te ta tt tg) 71 (by first | rfl | (simp; done))).later (by (repeat' (first | exact Below.refl _ _ | refine Below.alloc ?_ ?_ _ | refine Below.setCell ?_ ?_ _ | refine Below.drew ?_)); all_goals (first | exact Nat.le_refl _ | omega | (simp; done) | (simp; omega)))).later hb1)
  have HB1 := hide (show Below w.heap.size w w1 from Below.trans (by (repeat' (first | exact Below.refl _ _ | refine Below.alloc ?_ ?_ _ | refine Below.setCell ?_ ?_ _ | refine Below.drew ?_)); all_goals (first | exact Nat.le_refl _ | omega | (simp; done) | (simp; omega))) (hb1.mono (by first | exact Nat.le_refl _ | (simp; done) | (simp; omega))))
  clear hb1
  go_wp2
  go_ret2
  exact ⟨rfl, (by (repeat' (first | exact Below.refl _ _ | refine Below.alloc ?_ ?_ _ | refine Below.setCell ?_ ?_ _ | refine Below.drew ?_ | refine Below.trans ?_ (Below.mono (unhide HB1) ?_))); all_goals (first | exact Nat.le_refl _ | omega | (simp; done) | (simp; omega)))⟩
set_option maxHeartbeats 3200000 in
set_option maxRecDepth 8000 in
theorem jold_time (ep key old te ta tt tg now : Int) (w : World) (C : Hid (∀ w : World, Calls Tryz.prog 88 #[.agg #[.int .i64 ep, .int .i64 key, .int .i64 old]] w fun e w' => e = .returned (.nilIface) ∧ Below w.heap.size w w')) (C1 : Hid (∀ w : World, Calls Tryz.prog 48 #[.int .i64 now] w fun e w' => e = .returned (.bool false) ∧ w' = w)) :
    Calls Tryz.prog 113 #[.agg #[.int .i64 ep, .int .i64 key, .int .i64 old], .agg #[.int .i64 te, .int .i64 ta, .int .i64 tt, .int .i64 tg], .int .i64 now] w fun e w' => e = .returned (.tuple #[.bool false, errV 1]) ∧ Below w.heap.size w w' := by
  rw [errV_pos (by omega)]
  go_enter Tryz.func113, Tryz.ntmps113
  go_wp2_with fail
  refine (unhide C _).mono ?_
  rintro e w1 ⟨rfl, hb1⟩
  have HR1 : Hid (Held w1 (w.heap.size) (n3 ep key old)) := hide (((Held.fresh (w := w) (n3 ep key old) 56 (by first | rfl | (simp; done))).later (by (repeat' (first | exact Below.refl _ _ | refine Below.alloc ?_ ?_ _ | refine Below.setCell ?_ ?_ _ | refine Below.drew ?_)); all_goals (first | exact Nat.le_refl _ | omega | (simp; done) | (simp; omega)))).later hb1)
  have HT1 : Hid (Held w1 (w.heap.size + 1) (n4 te ta tt tg)) := hide (((Held.fresh (w := w.alloc (.cells (n3 ep key old).toArray 56)) (n4 te ta tt tg) 71 (by first | rfl | (simp; done))).later (by (repeat' (first | exact Below.refl _ _ | refine Below.alloc ?_ ?_ _ | refine Below.setCell ?_ ?_ _ | refine Below.drew ?_)); all_goals (first | exact Nat.le_refl _ | omega | (simp; done) | (simp; omega)))).later hb1)
  have HB1 := hide (show Below w.heap.size w w1 from Below.trans (by (repeat' (first | exact Below.refl _ _ | refine Below.alloc ?_ ?_ _ | refine Below.setCell ?_ ?_ _ | refine Below.drew ?_)); all_goals (first | exact Nat.le_refl _ | omega | (simp; done) | (simp; omega))) (hb1.mono (by first | exact Nat.le_refl _ | (simp; done) | (simp; omega))))
  clear hb1
  go_wp2_with fail
  refine (unhide C1 _).mono ?_
  rintro e w' ⟨rfl, hw⟩
  obtain rfl := hw.symm
  clear hw
  go_wp2
  go_ret2
  exact ⟨rfl, (by (repeat' (first | exact Below.refl _ _ | refine Below.alloc ?_ ?_ _ | refine Below.setCell ?_ ?_ _ | refine Below.drew ?_ | refine Below.trans ?_ (Below.mono (unhide HB1) ?_))); all_goals (first | exact Nat.le_refl _ | omega | (simp; done) | (simp; omega)))⟩
set_option maxHeartbeats 3200000 in
set_option maxRecDepth 8000 in
theorem jold_none (ep key old now : Int) (w : World) (C : Hid (∀ w : World, Calls Tryz.prog 88 #[.agg #[.int .i64 ep, .int .i64 key, .int .i64 old]] w fun e w' => e = .returned (.nilIface) ∧ Below w.heap.size w w')) (C1 : Hid (∀ w : World, Calls Tryz.prog 48 #[.int .i64 now] w fun e w' => e = .returned (.bool true) ∧ w' = w)) :
    Calls Tryz.prog 113 #[.agg #[.int .i64 ep, .int .i64 key, .int .i64 old], .agg #[.int .i64 0, .int .i64 0, .int .i64 0, .int .i64 0], .int .i64 now] w fun e w' => e = .returned (.tuple #[.bool false, .nilIface]) ∧ Below w.heap.size w w' := by
  go_enter Tryz.func113, Tryz.ntmps113
  go_wp2_with fail
  refine (unhide C _).mono ?_
  rintro e w1 ⟨rfl, hb1⟩
  have HR1 : Hid (Held w1 (w.heap.size) (n3 ep key old)) := hide (((Held.fresh (w := w) (n3 ep key old) 56 (by first | rfl | (simp; done))).later (by (repeat' (first | exact Below.refl _ _ | refine Below.alloc ?_ ?_ _ | refine Below.setCell ?_ ?_ _ | refine Below.drew ?_)); all_goals (first | exact Nat.le_refl _ | omega | (simp; done) | (simp; omega)))).later hb1)
  have HT1 : Hid (Held w1 (w.heap.size + 1) (n4 0 0 0 0)) := hide (((Held.fresh (w := w.alloc (.cells (n3 ep key old).toArray 56)) (n4 0 0 0 0) 71 (by first | rfl | (simp; done))).later (by (repeat' (first | exact Below.refl _ _ | refine Below.alloc ?_ ?_ _ | refine Below.setCell ?_ ?_ _ | refine Below.drew ?_)); all_goals (first | exact Nat.le_refl _ | omega | (simp; done) | (simp; omega)))).later hb1)
  have HB1 := hide (show Below w.heap.size w w1 from Below.trans (by (repeat' (first | exact Below.refl _ _ | refine Below.alloc ?_ ?_ _ | refine Below.setCell ?_ ?_ _ | refine Below.drew ?_)); all_goals (first | exact Nat.le_refl _ | omega | (simp; done) | (simp; omega))) (hb1.mono (by first | exact Nat.le_refl _ | (simp; done) | (simp; omega))))
  clear hb1
  go_wp2_with fail
  refine (unhide C1 _).mono ?_
  rintro e w' ⟨rfl, hw⟩
  obtain rfl := hw.symm
  clear hw
  obtain ⟨r0, r1, r2⟩ := (unhide HR1).c3.1
  have rl := (unhide HR1).2
  obtain ⟨t0, t1, t2, t3⟩ := (unhide HT1).c4.1
  have tl := (unhide HT1).2
  go_wp2
  go_ret2
  exact ⟨rfl, (by (repeat' (first | exact Below.refl _ _ | refine Below.alloc ?_ ?_ _ | refine Below.setCell ?_ ?_ _ | refine Below.drew ?_ | refine Below.trans ?_ (Below.mono (unhide HB1) ?_))); all_goals (first | exact Nat.le_refl _ | omega | (simp; done) | (simp; omega)))⟩
set_option maxHeartbeats 3200000 in
set_option maxRecDepth 8000 in
theorem jold_some0 (ep key old te ta tt tg now n : Int) (w : World) (h : ¬ te = 0) (C : Hid (∀ w : World, Calls Tryz.prog 88 #[.agg #[.int .i64 ep, .int .i64 key, .int .i64 old]] w fun e w' => e = .returned (.nilIface) ∧ Below w.heap.size w w')) (C1 : Hid (∀ w : World, Calls Tryz.prog 48 #[.int .i64 now] w fun e w' => e = .returned (.bool true) ∧ w' = w)) (C2 : Hid (∀ w : World, Calls Tryz.prog 139 #[.agg #[.int .i64 ep, .int .i64 key, .int .i64 old], .agg #[.int .i64 te, .int .i64 ta, .int .i64 tt, .int .i64 tg], .int .i64 now] w fun e w' => e = .returned (errV n) ∧ Below w.heap.size w w')) :
    Calls Tryz.prog 113 #[.agg #[.int .i64 ep, .int .i64 key, .int .i64 old], .agg #[.int .i64 te, .int .i64 ta, .int .i64 tt, .int .i64 tg], .int .i64 now] w fun e w' => e = .returned (.tuple #[.bool (decide (n = 0)), .nilIface]) ∧ Below w.heap.size w w' := by
  have h' := beq_no h
  obtain ⟨v, b, hv, hb, hh⟩ := errV_two n
  rw [hv] at C2
  rw [hb]
  clear hv hb
  rcases hh with ⟨rfl, rfl⟩ | ⟨rfl, rfl⟩
  all_goals
    go_enter Tryz.func113, Tryz.ntmps113
    go_wp2_with fail
    refine (unhide C _).mono ?_
    rintro e w1 ⟨rfl, hb1⟩
    have HR1 : Hid (Held w1 (w.heap.size) (n3 ep key old)) := hide (((Held.fresh (w := w) (n3 ep key old) 56 (by first | rfl | (simp; done))).later (by (repeat' (first | exact Below.refl _ _ | refine Below.alloc ?_ ?_ _ | refine Below.setCell ?_ ?_ _ | refine Below.drew ?_)); all_goals (first | exact Nat.le_refl _ | omega | (simp; done) | (simp; omega)))).later hb1)
    have HT1 : Hid (Held w1 (w.heap.size + 1) (n4 te ta tt tg)) := hide (((Held.fresh (w := w.alloc (.cells (n3 ep key old).toArray 56)) (n4 te ta tt tg) 71 (by first | rfl | (simp; done))).later (by (repeat' (first | exact Below.refl _ _ | refine Below.alloc ?_ ?_ _ | refine Below.setCell ?_ ?_ _ | refine Below.drew ?_)); all_goals (first | exact Nat.le_refl _ | omega | (simp; done) | (simp; omega)))).later hb1)
    have HB1 := hide (show Below w.heap.size w w1 from Below.trans (by (repeat' (first | exact Below.refl _ _ | refine Below.alloc ?_ ?_ _ | refine Below.setCell ?_ ?_ _ | refine Below.drew ?_)); all_goals (first | exact Nat.le_refl _ | omega | (simp; done) | (simp; omega))) (hb1.mono (by first | exact Nat.le_refl _ | (simp; done) | (simp; omega))))
    clear hb1
    go_wp2_with fail
    refine (unhide C1 _).mono ?_
    rintro e w' ⟨rfl, hw⟩
    obtain rfl := hw.symm
    clear hw
    obtain ⟨r0, r1, r2⟩ := (unhide HR1).c3.1
    have rl := (unhide HR1).2
    obtain ⟨t0, t1, t2, t3⟩ := (unhide HT1).c4.1
    have tl := (unhide HT1).2
    go_wp2_with fail
    refine (unhide C2 _).mono ?_
    rintro e w2 ⟨rfl, hb2⟩
    clear r0 r1 r2 rl t0 t1 t2 t3 tl
    have HR2 := hide (((unhide HR1).later (by (repeat' (first | exact Below.refl _ _ | refine Below.alloc ?_ ?_ _ | refine Below.setCell ?_ ?_ _ | refine Below.drew ?_)); all_goals (first | exact Nat.le_refl _ | omega | (simp; done) | (simp; omega)))).later hb2)
    have HT2 := hide (((unhide HT1).later (by (repeat' (first | exact Below.refl _ _ | refine Below.alloc ?_ ?_ _ | refine Below.setCell ?_ ?_ _ | refine Below.drew ?_)); all_goals (first | exact Nat.le_refl _ | omega | (simp; done) | (simp; omega)))).later hb2)
    have HB2 := hide (show Below w.heap.size w w2 from (by have := (unhide HB1).size; exact Below.trans (by (repeat' (first | exact Below.refl _ _ | refine Below.alloc ?_ ?_ _ | refine Below.setCell ?_ ?_ _ | refine Below.drew ?_ | refine Below.trans ?_ (Below.mono (unhide HB1) ?_))); all_goals (first | exact Nat.le_refl _ | omega | (simp; done) | (simp; omega))) (hb2.mono (by first | omega | (simp; done) | (simp; omega)))))
    clear hb2
    go_wp2
    go_ret2
    exact ⟨rfl, (by have := (unhide HB1).size; exact (by (repeat' (first | exact Below.refl _ _ | refine Below.alloc ?_ ?_ _ | refine Below.setCell ?_ ?_ _ | refine Below.drew ?_ | refine Below.trans ?_ (Below.mono (unhide HB2) ?_))); all_goals (first | exact Nat.le_refl _ | omega | (simp; done) | (simp; omega))))⟩
set_option maxHeartbeats 3200000 in
set_option maxRecDepth 8000 in
theorem jold_some1 (ep key old ta tt tg now n : Int) (w : World) (h : ¬ ta = 0) (C : Hid (∀ w : World, Calls Tryz.prog 88 #[.agg #[.int .i64 ep, .int .i64 key, .int .i64 old]] w fun e w' => e = .returned (.nilIface) ∧ Below w.heap.size w w')) (C1 : Hid (∀ w : World, Calls Tryz.prog 48 #[.int .i64 now] w fun e w' => e = .returned (.bool true) ∧ w' = w)) (C2 : Hid (∀ w : World, Calls Tryz.prog 139 #[.agg #[.int .i64 ep, .int .i64 key, .int .i64 old], .agg #[.int .i64 0, .int .i64 ta, .int .i64 tt, .int .i64 tg], .int .i64 now] w fun e w' => e = .returned (errV n) ∧ Below w.heap.size w w')) :
    Calls Tryz.prog 113 #[.agg #[.int .i64 ep, .int .i64 key, .int .i64 old], .agg #[.int .i64 0, .int .i64 ta, .int .i64 tt, .int .i64 tg], .int .i64 now] w fun e w' => e = .returned (.tuple #[.bool (decide (n = 0)), .nilIface]) ∧ Below w.heap.size w w' := by
  have h' := beq_no h
  obtain ⟨v, b, hv, hb, hh⟩ := errV_two n
  rw [hv] at C2
  rw [hb]
  clear hv hb
  rcases hh with ⟨rfl, rfl⟩ | ⟨rfl, rfl⟩
  all_goals
    go_enter Tryz.func113, Tryz.ntmps113
    go_wp2_with fail
    refine (unhide C _).mono ?_
    rintro e w1 ⟨rfl, hb1⟩
    have HR1 : Hid (Held w1 (w.heap.size) (n3 ep key old)) := hide (((Held.fresh (w := w) (n3 ep key old) 56 (by first | rfl | (simp; done))).later (by (repeat' (first | exact Below.refl _ _ | refine Below.alloc ?_ ?_ _ | refine Below.setCell ?_ ?_ _ | refine Below.drew ?_)); all_goals (first | exact Nat.le_refl _ | omega | (simp; done) | (simp; omega)))).later hb1)
    have HT1 : Hid (Held w1 (w.heap.size + 1) (n4 0 ta tt tg)) := hide (((Held.fresh (w := w.alloc (.cells (n3 ep key old).toArray 56)) (n4 0 ta tt tg) 71 (by first | rfl | (simp; done))).later (by (repeat' (first | exact Below.refl _ _ | refine Below.alloc ?_ ?_ _ | refine Below.setCell ?_ ?_ _ | refine Below.drew ?_)); all_goals (first | exact Nat.le_refl _ | omega | (simp; done) | (simp; omega)))).later hb1)
    have HB1 := hide (show Below w.heap.size w w1 from Below.trans (by (repeat' (first | exact Below.refl _ _ | refine Below.alloc ?_ ?_ _ | refine Below.setCell ?_ ?_ _ | refine Below.drew ?_)); all_goals (first | exact Nat.le_refl _ | omega | (simp; done) | (simp; omega))) (hb1.mono (by first | exact Nat.le_refl _ | (simp; done) | (simp; omega))))
    clear hb1
    go_wp2_with fail
    refine (unhide C1 _).mono ?_
    rintro e w' ⟨rfl, hw⟩
    obtain rfl := hw.symm
    clear hw
    obtain ⟨r0, r1, r2⟩ := (unhide HR1).c3.1
    have rl := (unhide HR1).2
    obtain ⟨t0, t1, t2, t3⟩ := (unhide HT1).c4.1
    have tl := (unhide HT1).2
    go_wp2_with fail
    refine (unhide C2 _).mono ?_
    rintro e w2 ⟨rfl, hb2⟩
    clear r0 r1 r2 rl t0 t1 t2 t3 tl
    have HR2 := hide (((unhide HR1).later (by (repeat' (first | exact Below.refl _ _ | refine Below.alloc ?_ ?_ _ | refine Below.setCell ?_ ?_ _ | refine Below.drew ?_)); all_goals (first | exact Nat.le_refl _ | omega | (simp; done) | (simp; omega)))).later hb2)
    have HT2 := hide (((unhide HT1).later (by (repeat' (first | exact Below.refl _ _ | refine Below.alloc ?_ ?_ _ | refine Below.setCell ?_ ?_ _ | refine Below.drew ?_)); all_goals (first | exact Nat.le_refl _ | omega | (simp; done) | (simp; omega)))).later hb2)
    have HB2 := hide (show Below w.heap.size w w2 from (by have := (unhide HB1).size; exact Below.trans (by (repeat' (first | exact Below.refl _ _ | refine Below.alloc ?_ ?_ _ | refine Below.setCell ?_ ?_ _ | refine Below.drew ?_ | refine Below.trans ?_ (Below.mono (unhide HB1) ?_))); all_goals (first | exact Nat.le_refl _ | omega | (simp; done) | (simp; omega))) (hb2.mono (by first | omega | (simp; done) | (simp; omega)))))
    clear hb2
    go_wp2
    go_ret2
    exact ⟨rfl, (by have := (unhide HB1).size; exact (by (repeat' (first | exact Below.refl _ _ | refine Below.alloc ?_ ?_ _ | refine Below.setCell ?_ ?_ _ | refine Below.drew ?_ | refine Below.trans ?_ (Below.mono (unhide HB2) ?_))); all_goals (first | exact Nat.le_refl _ | omega | (simp; done) | (simp; omega))))⟩
set_option maxHeartbeats 3200000 in
set_option maxRecDepth 8000 in
theorem jold_some2 (ep key old tt tg now n : Int) (w : World) (h : ¬ tt = 0) (C : Hid (∀ w : World, Calls Tryz.prog 88 #[.agg #[.int .i64 ep, .int .i64 key, .int .i64 old]] w fun e w' => e = .returned (.nilIface) ∧ Below w.heap.size w w')) (C1 : Hid (∀ w : World, Calls Tryz.prog 48 #[.int .i64 now] w fun e w' => e = .returned (.bool true) ∧ w' = w)) (C2 : Hid (∀ w : World, Calls Tryz.prog 139 #[.agg #[.int .i64 ep, .int .i64 key, .int .i64 old], .agg #[.int .i64 0, .int .i64 0, .int .i64 tt, .int .i64 tg], .int .i64 now] w fun e w' => e = .returned (errV n) ∧ Below w.heap.size w w')) :
    Calls Tryz.prog 113 #[.agg #[.int .i64 ep, .int .i64 key, .int .i64 old], .agg #[.int .i64 0, .int .i64 0, .int .i64 tt, .int .i64 tg], .int .i64 now] w fun e w' => e = .returned (.tuple #[.bool (decide (n = 0)), .nilIface]) ∧ Below w.heap.size w w' := by
  have h' := beq_no h
  obtain ⟨v, b, hv, hb, hh⟩ := errV_two n
  rw [hv] at C2
  rw [hb]
  clear hv hb
  rcases hh with ⟨rfl, rfl⟩ | ⟨rfl, rfl⟩
  all_goals
    go_enter Tryz.func113, Tryz.ntmps113
    go_wp2_with fail
    refine (unhide C _).mono ?_
    rintro e w1 ⟨rfl, hb1⟩
    have HR1 : Hid (Held w1 (w.heap.size) (n3 ep key old)) := hide (((Held.fresh (w := w) (n3 ep key old) 56 (by first | rfl | (simp; done))).later (by (repeat' (first | exact Below.refl _ _ | refine Below.alloc ?_ ?_ _ | refine Below.setCell ?_ ?_ _ | refine Below.drew ?_)); all_goals (first | exact Nat.le_refl _ | omega | (simp; done) | (simp; omega)))).later hb1)
    have HT1 : Hid (Held w1 (w.heap.size + 1) (n4 0 0 tt tg)) := hide (((Held.fresh (w := w.alloc (.cells (n3 ep key old).toArray 56)) (n4 0 0 tt tg) 71 (by first | rfl | (simp; done))).later (by (repeat' (first | exact Below.refl _ _ | refine Below.alloc ?_ ?_ _ | refine Below.setCell ?_ ?_ _ | refine Below.drew ?_)); all_goals (first | exact Nat.le_refl _ | omega | (simp; done) | (simp; omega)))).later hb1)
    have HB1 := hide (show Below w.heap.size w w1 from Below.trans (by (repeat' (first | exact Below.refl _ _ | refine Below.alloc ?_ ?_ _ | refine Below.setCell ?_ ?_ _ | refine Below.drew ?_)); all_goals (first | exact Nat.le_refl _ | omega | (simp; done) | (simp; omega))) (hb1.mono (by first | exact Nat.le_refl _ | (simp; done) | (simp; omega))))
    clear hb1
    go_wp2_with fail
    refine (unhide C1 _).mono ?_
    rintro e w' ⟨rfl, hw⟩
    obtain rfl := hw.symm
    clear hw
    obtain ⟨r0, r1, r2⟩ := (unhide HR1).c3.1
    have rl := (unhide HR1).2
    obtain ⟨t0, t1, t2, t3⟩ := (unhide HT1).c4.1
    have tl := (unhide HT1).2
    go_wp2_with fail
    refine (unhide C2 _).mono ?_
    rintro e w2 ⟨rfl, hb2⟩
    clear r0 r1 r2 rl t0 t1 t2 t3 tl
    have HR2 := hide (((unhide HR1).later (by (repeat' (first | exact Below.refl _ _ | refine Below.alloc ?_ ?_ _ | refine Below.setCell ?_ ?_ _ | refine Below.drew ?_)); all_goals (first | exact Nat.le_refl _ | omega | (simp; done) | (simp; omega)))).later hb2)
    have HT2 := hide (((unhide HT1).later (by (repeat' (first | exact Below.refl _ _ | refine Below.alloc ?_ ?_ _ | refine Below.setCell ?_ ?_ _ | refine Below.drew ?_)); all_goals (first | exact Nat.le_refl _ | omega | (simp; done) | (simp; omega)))).later hb2)
    have HB2 := hide (show Below w.heap.size w w2 from (by have := (unhide HB1).size; exact Below.trans (by (repeat' (first | exact Below.refl _ _ | refine Below.alloc ?_ ?_ _ | refine Below.setCell ?_ ?_ _ | refine Below.drew ?_ | refine Below.trans ?_ (Below.mono (unhide HB1) ?_))); all_goals (first | exact Nat.le_refl _ | omega | (simp; done) | (simp; omega))) (hb2.mono (by first | omega | (simp; done) | (simp; omega)))))
    clear hb2
    go_wp2
    go_ret2
    exact ⟨rfl, (by have := (unhide HB1).size; exact (by (repeat' (first | exact Below.refl _ _ | refine Below.alloc ?_ ?_ _ | refine Below.setCell ?_ ?_ _ | refine Below.drew ?_ | refine Below.trans ?_ (Below.mono (unhide HB2) ?_))); all_goals (first | exact Nat.le_refl _ | omega | (simp; done) | (simp; omega))))⟩
set_option maxHeartbeats 3200000 in
set_option maxRecDepth 8000 in
theorem jold_some3 (ep key old tg now n : Int) (w : World) (h : ¬ tg = 0) (C : Hid (∀ w : World, Calls Tryz.prog 88 #[.agg #[.int .i64 ep, .int .i64 key, .int .i64 old]] w fun e w' => e = .returned (.nilIface) ∧ Below w.heap.size w w')) (C1 : Hid (∀ w : World, Calls Tryz.prog 48 #[.int .i64 now] w fun e w' => e = .returned (.bool true) ∧ w' = w)) (C2 : Hid (∀ w : World, Calls Tryz.prog 139 #[.agg #[.int .i64 ep, .int .i64 key, .int .i64 old], .agg #[.int .i64 0, .int .i64 0, .int .i64 0, .int .i64 tg], .int .i64 now] w fun e w' => e = .returned (errV n) ∧ Below w.heap.size w w')) :
    Calls Tryz.prog 113 #[.agg #[.int .i64 ep, .int .i64 key, .int .i64 old], .agg #[.int .i64 0, .int .i64 0, .int .i64 0, .int .i64 tg], .int .i64 now] w fun e w' => e = .returned (.tuple #[.bool (decide (n = 0)), .nilIface]) ∧ Below w.heap.size w w' := by
  have h' := beq_no h
  obtain ⟨v, b, hv, hb, hh⟩ := errV_two n
  rw [hv] at C2
  rw [hb]
  clear hv hb
  rcases hh with ⟨rfl, rfl⟩ | ⟨rfl, rfl⟩
  all_goals
    go_enter Tryz.func113, Tryz.ntmps113
    go_wp2_with fail
    refine (unhide C _).mono ?_
    rintro e w1 ⟨rfl, hb1⟩
    have HR1 : Hid (Held w1 (w.heap.size) (n3 ep key old)) := hide (((Held.fresh (w := w) (n3 ep key old) 56 (by first | rfl | (simp; done))).later (by (repeat' (first | exact Below.refl _ _ | refine Below.alloc ?_ ?_ _ | refine Below.setCell ?_ ?_ _ | refine Below.drew ?_)); all_goals (first | exact Nat.le_refl _ | omega | (simp; done) | (simp; omega)))).later hb1)
    have HT1 : Hid (Held w1 (w.heap.size + 1) (n4 0 0 0 tg)) := hide (((Held.fresh (w := w.alloc (.cells (n3 ep key old).toArray 56)) (n4 0 0 0 tg) 71 (by first | rfl | (simp; done))).later (by (repeat' (first | exact Below.refl _ _ | refine Below.alloc ?_ ?_ _ | refine Below.setCell ?_ ?_ _ | refine Below.drew ?_)); all_goals (first | exact Nat.le_refl _ | omega | (simp; done) | (simp; omega)))).later hb1)
    have HB1 := hide (show Below w.heap.size w w1 from Below.trans (by (repeat' (first | exact Below.refl _ _ | refine Below.alloc ?_ ?_ _ | refine Below.setCell ?_ ?_ _ | refine Below.drew ?_)); all_goals (first | exact Nat.le_refl _ | omega | (simp; done) | (simp; omega))) (hb1.mono (by first | exact Nat.le_refl _ | (simp; done) | (simp; omega))))
    clear hb1
    go_wp2_with fail
    refine (unhide C1 _).mono ?_
    rintro e w' ⟨rfl, hw⟩
    obtain rfl := hw.symm
    clear hw
    obtain ⟨r0, r1, r2⟩ := (unhide HR1).c3.1
    have rl := (unhide HR1).2
    obtain ⟨t0, t1, t2, t3⟩ := (unhide HT1).c4.1
    have tl := (unhide HT1).2
    go_wp2_with fail
    refine (unhide C2 _).mono ?_
    rintro e w2 ⟨rfl, hb2⟩
    clear r0 r1 r2 rl t0 t1 t2 t3 tl
    have HR2 := hide (((unhide HR1).later (by (repeat' (first | exact Below.refl _ _ | refine Below.alloc ?_ ?_ _ | refine Below.setCell ?_ ?_ _ | refine Below.drew ?_)); all_goals (first | exact Nat.le_refl _ | omega | (simp; done) | (simp; omega)))).later hb2)
    have HT2 := hide (((unhide HT1).later (by (repeat' (first | exact Below.refl _ _ | refine Below.alloc ?_ ?_ _ | refine Below.setCell ?_ ?_ _ | refine Below.drew ?_)); all_goals (first | exact Nat.le_refl _ | omega | (simp; done) | (simp; omega)))).later hb2)
    have HB2 := hide (show Below w.heap.size w w2 from (by have := (unhide HB1).size; exact Below.trans (by (repeat' (first | exact Below.refl _ _ | refine Below.alloc ?_ ?_ _ | refine Below.setCell ?_ ?_ _ | refine Below.drew ?_ | refine Below.trans ?_ (Below.mono (unhide HB1) ?_))); all_goals (first | exact Nat.le_refl _ | omega | (simp; done) | (simp; omega))) (hb2.mono (by first | omega | (simp; done) | (simp; omega)))))
    clear hb2
    go_wp2
    go_ret2
    exact ⟨rfl, (by have := (unhide HB1).size; exact (by (repeat' (first | exact Below.refl _ _ | refine Below.alloc ?_ ?_ _ | refine Below.setCell ?_ ?_ _ | refine Below.drew ?_ | refine Below.trans ?_ (Below.mono (unhide HB2) ?_))); all_goals (first | exact Nat.le_refl _ | omega | (simp; done) | (simp; omega))))⟩
theorem jold_any (ep key old te ta tt tg now : Int) (w : World) :
    Calls Tryz.prog 113 #[.agg #[.int .i64 ep, .int .i64 key, .int .i64 old], .agg #[.int .i64 te, .int .i64 ta, .int .i64 tt, .int .i64 tg], .int .i64 now] w fun e w' => e = .returned (.tuple #[.bool (JudgeM.oldB ep key old te ta tt tg now), errV (JudgeM.oldErr ep key old now)]) ∧ Below w.heap.size w w' := by
  by_cases he : RingM.err ep key old = 0
  · have C := hide (fun w => rcheck_yes w he)
    have C1 := hide (time_any now)
    by_cases ht : TokenM.timeB now = true
    · rw [JudgeM.oldB_yes (JudgeM.old_zero.2 ⟨he, ht⟩), errV_zero (JudgeM.old_zero.2 ⟨he, ht⟩)]
      rw [ht] at C1
      unfold JudgeM.rightB
      by_cases hn : JudgeM.noneB te ta tt tg = true
      · rw [hn]
        obtain ⟨rfl, rfl, rfl, rfl⟩ := JudgeM.noneB_iff.1 hn
        simp only [Bool.not_true, Bool.false_and]
        exact jold_none ep key old now w C C1
      · have hn' : JudgeM.noneB te ta tt tg = false := by simpa using hn
        rw [hn']
        simp only [Bool.not_false, Bool.true_and]
        have C2 := hide (kcheck_any ep key old te ta tt tg now)
        rcases JudgeM.some4 hn' with h | ⟨rfl, h⟩ | ⟨rfl, rfl, h⟩ | ⟨rfl, rfl, rfl, h⟩
        · exact jold_some0 ep key old te ta tt tg now _ w h C C1 C2
        · exact jold_some1 ep key old ta tt tg now _ w h C C1 C2
        · exact jold_some2 ep key old tt tg now _ w h C C1 C2
        · exact jold_some3 ep key old tg now _ w h C C1 C2
    · have ht' : TokenM.timeB now = false := by simpa using ht
      have h1 : JudgeM.oldErr ep key old now = 1 := by unfold JudgeM.oldErr; rw [if_pos he, if_neg ht]
      rw [JudgeM.oldB_no (by rw [h1]; omega), h1]
      rw [ht'] at C1
      exact jold_time ep key old te ta tt tg now w C C1
  · have h1 : JudgeM.oldErr ep key old now = RingM.err ep key old := by unfold JudgeM.oldErr; rw [if_neg he]
    rw [JudgeM.oldB_no (by rw [h1]; exact he), h1]
    exact jold_ring ep key old te ta tt tg now _ w he (hide (rcheck_any ep key old))

set_option maxHeartbeats 3200000 in
set_option maxRecDepth 8000 in
theorem jshown_none (ep key old a ke kn ku kg : Int) (s : ByteArray) (now life : Int) (w : World) :
    Calls Tryz.prog 115 #[.agg #[.int .i64 ep, .int .i64 key, .int .i64 old], .agg #[.int .i64 a, .int .i64 0, .int .i64 0, .int .i64 0, .int .i64 0, .int .i64 ke, .int .i64 kn, .int .i64 ku, .int .i64 kg, .string s], .int .i64 now, .int .i64 life] w fun e w' => e = .returned (.bool false) ∧ Below w.heap.size w w' := by
  go_enter Tryz.func115, Tryz.ntmps115
  go_wp2
  go_ret
  exact ⟨rfl, (by (repeat' (first | exact Below.refl _ _ | refine Below.alloc ?_ ?_ _ | refine Below.setCell ?_ ?_ _ | refine Below.drew ?_)); all_goals (first | exact Nat.le_refl _ | omega | (simp; done) | (simp; omega)))⟩
set_option maxHeartbeats 3200000 in
set_option maxRecDepth 8000 in
theorem jshown_some0 (ep key old a te ta tt tg ke kn ku kg : Int) (s : ByteArray) (now life n : Int) (w : World) (h : ¬ te = 0) (C2 : Hid (∀ w : World, Calls Tryz.prog 141 #[.agg #[.int .i64 ep, .int .i64 key, .int .i64 old], .agg #[.int .i64 te, .int .i64 ta, .int .i64 tt, .int .i64 tg], .int .i64 a, .int .i64 now, .int .i64 life] w fun e w' => e = .returned (errV n) ∧ Below w.heap.size w w')) :
    Calls Tryz.prog 115 #[.agg #[.int .i64 ep, .int .i64 key, .int .i64 old], .agg #[.int .i64 a, .int .i64 te, .int .i64 ta, .int .i64 tt, .int .i64 tg, .int .i64 ke, .int .i64 kn, .int .i64 ku, .int .i64 kg, .string s], .int .i64 now, .int .i64 life] w fun e w' => e = .returned (.bool (decide (n = 0))) ∧ Below w.heap.size w w' := by
  have h' := beq_no h
  obtain ⟨v, b, hv, hb, hh⟩ := errV_two n
  rw [hv] at C2
  rw [hb]
  clear hv hb
  rcases hh with ⟨rfl, rfl⟩ | ⟨rfl, rfl⟩
  all_goals
    go_enter Tryz.func115, Tryz.ntmps115
    go_wp2_with fail
    refine (unhide C2 _).mono ?_
    rintro e w1 ⟨rfl, hb1⟩
    have HB1 := hide (show Below w.heap.size w w1 from Below.trans (by (repeat' (first | exact Below.refl _ _ | refine Below.alloc ?_ ?_ _ | refine Below.setCell ?_ ?_ _ | refine Below.drew ?_)); all_goals (first | exact Nat.le_refl _ | omega | (simp; done) | (simp; omega))) (hb1.mono (by first | exact Nat.le_refl _ | (simp; done) | (simp; omega))))
    clear hb1
    go_wp2
    go_ret
    exact ⟨rfl, (by (repeat' (first | exact Below.refl _ _ | refine Below.alloc ?_ ?_ _ | refine Below.setCell ?_ ?_ _ | refine Below.drew ?_ | refine Below.trans ?_ (Below.mono (unhide HB1) ?_))); all_goals (first | exact Nat.le_refl _ | omega | (simp; done) | (simp; omega)))⟩
set_option maxHeartbeats 3200000 in
set_option maxRecDepth 8000 in
theorem jshown_some1 (ep key old a ta tt tg ke kn ku kg : Int) (s : ByteArray) (now life n : Int) (w : World) (h : ¬ ta = 0) (C2 : Hid (∀ w : World, Calls Tryz.prog 141 #[.agg #[.int .i64 ep, .int .i64 key, .int .i64 old], .agg #[.int .i64 0, .int .i64 ta, .int .i64 tt, .int .i64 tg], .int .i64 a, .int .i64 now, .int .i64 life] w fun e w' => e = .returned (errV n) ∧ Below w.heap.size w w')) :
    Calls Tryz.prog 115 #[.agg #[.int .i64 ep, .int .i64 key, .int .i64 old], .agg #[.int .i64 a, .int .i64 0, .int .i64 ta, .int .i64 tt, .int .i64 tg, .int .i64 ke, .int .i64 kn, .int .i64 ku, .int .i64 kg, .string s], .int .i64 now, .int .i64 life] w fun e w' => e = .returned (.bool (decide (n = 0))) ∧ Below w.heap.size w w' := by
  have h' := beq_no h
  obtain ⟨v, b, hv, hb, hh⟩ := errV_two n
  rw [hv] at C2
  rw [hb]
  clear hv hb
  rcases hh with ⟨rfl, rfl⟩ | ⟨rfl, rfl⟩
  all_goals
    go_enter Tryz.func115, Tryz.ntmps115
    go_wp2_with fail
    refine (unhide C2 _).mono ?_
    rintro e w1 ⟨rfl, hb1⟩
    have HB1 := hide (show Below w.heap.size w w1 from Below.trans (by (repeat' (first | exact Below.refl _ _ | refine Below.alloc ?_ ?_ _ | refine Below.setCell ?_ ?_ _ | refine Below.drew ?_)); all_goals (first | exact Nat.le_refl _ | omega | (simp; done) | (simp; omega))) (hb1.mono (by first | exact Nat.le_refl _ | (simp; done) | (simp; omega))))
    clear hb1
    go_wp2
    go_ret
    exact ⟨rfl, (by (repeat' (first | exact Below.refl _ _ | refine Below.alloc ?_ ?_ _ | refine Below.setCell ?_ ?_ _ | refine Below.drew ?_ | refine Below.trans ?_ (Below.mono (unhide HB1) ?_))); all_goals (first | exact Nat.le_refl _ | omega | (simp; done) | (simp; omega)))⟩
set_option maxHeartbeats 3200000 in
set_option maxRecDepth 8000 in
theorem jshown_some2 (ep key old a tt tg ke kn ku kg : Int) (s : ByteArray) (now life n : Int) (w : World) (h : ¬ tt = 0) (C2 : Hid (∀ w : World, Calls Tryz.prog 141 #[.agg #[.int .i64 ep, .int .i64 key, .int .i64 old], .agg #[.int .i64 0, .int .i64 0, .int .i64 tt, .int .i64 tg], .int .i64 a, .int .i64 now, .int .i64 life] w fun e w' => e = .returned (errV n) ∧ Below w.heap.size w w')) :
    Calls Tryz.prog 115 #[.agg #[.int .i64 ep, .int .i64 key, .int .i64 old], .agg #[.int .i64 a, .int .i64 0, .int .i64 0, .int .i64 tt, .int .i64 tg, .int .i64 ke, .int .i64 kn, .int .i64 ku, .int .i64 kg, .string s], .int .i64 now, .int .i64 life] w fun e w' => e = .returned (.bool (decide (n = 0))) ∧ Below w.heap.size w w' := by
  have h' := beq_no h
  obtain ⟨v, b, hv, hb, hh⟩ := errV_two n
  rw [hv] at C2
  rw [hb]
  clear hv hb
  rcases hh with ⟨rfl, rfl⟩ | ⟨rfl, rfl⟩
  all_goals
    go_enter Tryz.func115, Tryz.ntmps115
    go_wp2_with fail
    refine (unhide C2 _).mono ?_
    rintro e w1 ⟨rfl, hb1⟩
    have HB1 := hide (show Below w.heap.size w w1 from Below.trans (by (repeat' (first | exact Below.refl _ _ | refine Below.alloc ?_ ?_ _ | refine Below.setCell ?_ ?_ _ | refine Below.drew ?_)); all_goals (first | exact Nat.le_refl _ | omega | (simp; done) | (simp; omega))) (hb1.mono (by first | exact Nat.le_refl _ | (simp; done) | (simp; omega))))
    clear hb1
    go_wp2
    go_ret
    exact ⟨rfl, (by (repeat' (first | exact Below.refl _ _ | refine Below.alloc ?_ ?_ _ | refine Below.setCell ?_ ?_ _ | refine Below.drew ?_ | refine Below.trans ?_ (Below.mono (unhide HB1) ?_))); all_goals (first | exact Nat.le_refl _ | omega | (simp; done) | (simp; omega)))⟩
set_option maxHeartbeats 3200000 in
set_option maxRecDepth 8000 in
theorem jshown_some3 (ep key old a tg ke kn ku kg : Int) (s : ByteArray) (now life n : Int) (w : World) (h : ¬ tg = 0) (C2 : Hid (∀ w : World, Calls Tryz.prog 141 #[.agg #[.int .i64 ep, .int .i64 key, .int .i64 old], .agg #[.int .i64 0, .int .i64 0, .int .i64 0, .int .i64 tg], .int .i64 a, .int .i64 now, .int .i64 life] w fun e w' => e = .returned (errV n) ∧ Below w.heap.size w w')) :
    Calls Tryz.prog 115 #[.agg #[.int .i64 ep, .int .i64 key, .int .i64 old], .agg #[.int .i64 a, .int .i64 0, .int .i64 0, .int .i64 0, .int .i64 tg, .int .i64 ke, .int .i64 kn, .int .i64 ku, .int .i64 kg, .string s], .int .i64 now, .int .i64 life] w fun e w' => e = .returned (.bool (decide (n = 0))) ∧ Below w.heap.size w w' := by
  have h' := beq_no h
  obtain ⟨v, b, hv, hb, hh⟩ := errV_two n
  rw [hv] at C2
  rw [hb]
  clear hv hb
  rcases hh with ⟨rfl, rfl⟩ | ⟨rfl, rfl⟩
  all_goals
    go_enter Tryz.func115, Tryz.ntmps115
    go_wp2_with fail
    refine (unhide C2 _).mono ?_
    rintro e w1 ⟨rfl, hb1⟩
    have HB1 := hide (show Below w.heap.size w w1 from Below.trans (by (repeat' (first | exact Below.refl _ _ | refine Below.alloc ?_ ?_ _ | refine Below.setCell ?_ ?_ _ | refine Below.drew ?_)); all_goals (first | exact Nat.le_refl _ | omega | (simp; done) | (simp; omega))) (hb1.mono (by first | exact Nat.le_refl _ | (simp; done) | (simp; omega))))
    clear hb1
    go_wp2
    go_ret
    exact ⟨rfl, (by (repeat' (first | exact Below.refl _ _ | refine Below.alloc ?_ ?_ _ | refine Below.setCell ?_ ?_ _ | refine Below.drew ?_ | refine Below.trans ?_ (Below.mono (unhide HB1) ?_))); all_goals (first | exact Nat.le_refl _ | omega | (simp; done) | (simp; omega)))⟩
theorem jshown_any (ep key old a te ta tt tg ke kn ku kg : Int) (s : ByteArray) (now life : Int) (w : World) :
    Calls Tryz.prog 115 #[.agg #[.int .i64 ep, .int .i64 key, .int .i64 old], .agg #[.int .i64 a, .int .i64 te, .int .i64 ta, .int .i64 tt, .int .i64 tg, .int .i64 ke, .int .i64 kn, .int .i64 ku, .int .i64 kg, .string s], .int .i64 now, .int .i64 life] w fun e w' => e = .returned (.bool (JudgeM.shownB ep key old te ta tt tg a now life)) ∧ Below w.heap.size w w' := by
  unfold JudgeM.shownB
  by_cases hn : JudgeM.noneB te ta tt tg = true
  · rw [hn]
    obtain ⟨rfl, rfl, rfl, rfl⟩ := JudgeM.noneB_iff.1 hn
    simp only [Bool.not_true, Bool.false_and]
    exact jshown_none ep key old a ke kn ku kg s now life w
  · have hn' : JudgeM.noneB te ta tt tg = false := by simpa using hn
    rw [hn']
    simp only [Bool.not_false, Bool.true_and]
    have C2 := hide (tcheck_any ep key old te ta tt tg a now life)
    rcases JudgeM.some4 hn' with h | ⟨rfl, h⟩ | ⟨rfl, rfl, h⟩ | ⟨rfl, rfl, rfl, h⟩
    · exact jshown_some0 ep key old a te ta tt tg ke kn ku kg s now life _ w h C2
    · exact jshown_some1 ep key old a ta tt tg ke kn ku kg s now life _ w h C2
    · exact jshown_some2 ep key old a tt tg ke kn ku kg s now life _ w h C2
    · exact jshown_some3 ep key old a tg ke kn ku kg s now life _ w h C2

set_option maxHeartbeats 3200000 in
set_option maxRecDepth 8000 in
theorem jmay_any (s : ByteArray) (w : World) : Calls Tryz.prog 116 #[.string s] w fun e w' => e = .returned (.bool (JudgeM.mayB s.size)) ∧ w' = w := by
  unfold JudgeM.mayB
  by_cases h0 : s.size = 0
  · obtain rfl := JudgeM.str_zero h0
    rw [show decide (1 ≤ (⟨#[]⟩ : ByteArray).size ∧ (⟨#[]⟩ : ByteArray).size ≤ 40) = false from rfl]
    go_enter Tryz.func116, Tryz.ntmps116
    go_wp2
    go_ret
    exact ⟨rfl, rfl⟩
  · have q1 := JudgeM.str_some h0
    have q2 : ¬ s.toList = [] := by simpa using q1
    by_cases h1 : s.size ≤ 40
    · rw [show decide (1 ≤ s.size ∧ s.size ≤ 40) = true by simp; omega]
      have h2 : (s.size : Int) ≤ 40 := by omega
      go_enter Tryz.func116, Tryz.ntmps116
      go_wp2
      go_ret
      exact ⟨rfl, rfl⟩
    · rw [show decide (1 ≤ s.size ∧ s.size ≤ 40) = false by simp; omega]
      have h2 : ¬ (s.size : Int) ≤ 40 := by omega
      go_enter Tryz.func116, Tryz.ntmps116
      go_wp2
      go_ret
      exact ⟨rfl, rfl⟩

set_option maxHeartbeats 3200000 in
set_option maxRecDepth 8000 in
theorem jans_old (ep key old a te ta tt tg ke kn ku kg : Int) (s : ByteArray) (n now life : Int) (E : Int) (hE : ¬ E = 0) (w : World) (CO : Hid (∀ w : World, Calls Tryz.prog 113 #[.agg #[.int .i64 ep, .int .i64 key, .int .i64 old], .agg #[.int .i64 ke, .int .i64 kn, .int .i64 ku, .int .i64 kg], .int .i64 now] w fun e w' => e = .returned (.tuple #[.bool false, errV E]) ∧ Below w.heap.size w w')) :
    Calls Tryz.prog 82 #[.agg #[.int .i64 ep, .int .i64 key, .int .i64 old], .agg #[.int .i64 a, .int .i64 te, .int .i64 ta, .int .i64 tt, .int .i64 tg, .int .i64 ke, .int .i64 kn, .int .i64 ku, .int .i64 kg, .string s], .int .i64 n, .int .i64 now, .int .i64 life] w fun e w' => e = .returned (.tuple #[.int .i64 0, .bool false, errV E]) ∧ Below w.heap.size w w' := by
  rw [errV_pos hE] at CO ⊢
  clear hE
  go_enter Tryz.func82, Tryz.ntmps82
  go_wp2_with fail
  refine (unhide CO _).mono ?_
  rintro e w1 ⟨rfl, hb1⟩
  have HR1 : Hid (Held w1 (w.heap.size) (n3 ep key old)) := hide (((Held.fresh (w := w) (n3 ep key old) 56 (by first | rfl | (simp; done))).later (by (repeat' (first | exact Below.refl _ _ | refine Below.alloc ?_ ?_ _ | refine Below.setCell ?_ ?_ _ | refine Below.drew ?_)); all_goals (first | exact Nat.le_refl _ | omega | (simp; done) | (simp; omega)))).later hb1)
  have HH1 : Hid (Held w1 (w.heap.size + 1) (nh a te ta tt tg ke kn ku kg s)) := hide (((Held.fresh (w := w.alloc (.cells (n3 ep key old).toArray 56)) (nh a te ta tt tg ke kn ku kg s) 73 (by first | rfl | (simp; done))).later (by (repeat' (first | exact Below.refl _ _ | refine Below.alloc ?_ ?_ _ | refine Below.setCell ?_ ?_ _ | refine Below.drew ?_)); all_goals (first | exact Nat.le_refl _ | omega | (simp; done) | (simp; omega)))).later hb1)
  have HB1 := hide (show Below w.heap.size w w1 from Below.trans (by (repeat' (first | exact Below.refl _ _ | refine Below.alloc ?_ ?_ _ | refine Below.setCell ?_ ?_ _ | refine Below.drew ?_)); all_goals (first | exact Nat.le_refl _ | omega | (simp; done) | (simp; omega))) (hb1.mono (by first | exact Nat.le_refl _ | (simp; done) | (simp; omega))))
  clear hb1
  go_wp2
  exact bodyPost_ret (v := .tuple #[.int .i64 0, .bool false, .iface 85 (.int .i64 E)]) (by simp [results, Tryz.results82, go_sem]) rfl ⟨rfl, (by  exact (by (repeat' (first | exact Below.refl _ _ | refine Below.alloc ?_ ?_ _ | refine Below.setCell ?_ ?_ _ | refine Below.drew ?_ | refine Below.trans ?_ (Below.mono (unhide HB1) ?_))); all_goals (first | exact Nat.le_refl _ | omega | (simp; done) | (simp; omega))))⟩
set_option maxHeartbeats 3200000 in
set_option maxRecDepth 8000 in
theorem jans_addr (ep key old a te ta tt tg ke kn ku kg : Int) (s : ByteArray) (n now life : Int) (o : Bool) (w : World) (CO : Hid (∀ w : World, Calls Tryz.prog 113 #[.agg #[.int .i64 ep, .int .i64 key, .int .i64 old], .agg #[.int .i64 ke, .int .i64 kn, .int .i64 ku, .int .i64 kg], .int .i64 now] w fun e w' => e = .returned (.tuple #[.bool o, .nilIface]) ∧ Below w.heap.size w w')) (CF : Hid (∀ w : World, Calls Tryz.prog 102 #[.int .i64 a] w fun e w' => e = .returned (.bool false) ∧ w' = w)) :
    Calls Tryz.prog 82 #[.agg #[.int .i64 ep, .int .i64 key, .int .i64 old], .agg #[.int .i64 a, .int .i64 te, .int .i64 ta, .int .i64 tt, .int .i64 tg, .int .i64 ke, .int .i64 kn, .int .i64 ku, .int .i64 kg, .string s], .int .i64 n, .int .i64 now, .int .i64 life] w fun e w' => e = .returned (.tuple #[.int .i64 0, .bool false, errV 1]) ∧ Below w.heap.size w w' := by
  rw [errV_pos (by omega)]
  go_enter Tryz.func82, Tryz.ntmps82
  go_wp2_with fail
  refine (unhide CO _).mono ?_
  rintro e w1 ⟨rfl, hb1⟩
  have HR1 : Hid (Held w1 (w.heap.size) (n3 ep key old)) := hide (((Held.fresh (w := w) (n3 ep key old) 56 (by first | rfl | (simp; done))).later (by (repeat' (first | exact Below.refl _ _ | refine Below.alloc ?_ ?_ _ | refine Below.setCell ?_ ?_ _ | refine Below.drew ?_)); all_goals (first | exact Nat.le_refl _ | omega | (simp; done) | (simp; omega)))).later hb1)
  have HH1 : Hid (Held w1 (w.heap.size + 1) (nh a te ta tt tg ke kn ku kg s)) := hide (((Held.fresh (w := w.alloc (.cells (n3 ep key old).toArray 56)) (nh a te ta tt tg ke kn ku kg s) 73 (by first | rfl | (simp; done))).later (by (repeat' (first | exact Below.refl _ _ | refine Below.alloc ?_ ?_ _ | refine Below.setCell ?_ ?_ _ | refine Below.drew ?_)); all_goals (first | exact Nat.le_refl _ | omega | (simp; done) | (simp; omega)))).later hb1)
  have HB1 := hide (show Below w.heap.size w w1 from Below.trans (by (repeat' (first | exact Below.refl _ _ | refine Below.alloc ?_ ?_ _ | refine Below.setCell ?_ ?_ _ | refine Below.drew ?_)); all_goals (first | exact Nat.le_refl _ | omega | (simp; done) | (simp; omega))) (hb1.mono (by first | exact Nat.le_refl _ | (simp; done) | (simp; omega))))
  clear hb1
  obtain ⟨h0, h1, h2, h3, h4, h5, h6, h7, h8, h9⟩ := (unhide HH1).c10.1
  have hl := (unhide HH1).2
  go_wp2_with fail
  refine (unhide CF _).mono ?_
  rintro e w' ⟨rfl, hw⟩
  obtain rfl := hw.symm
  clear hw
  go_wp2
  exact bodyPost_ret (v := .tuple #[.int .i64 0, .bool false, .iface 85 (.int .i64 1)]) (by simp [results, Tryz.results82, go_sem]) rfl ⟨rfl, (by  exact (by (repeat' (first | exact Below.refl _ _ | refine Below.alloc ?_ ?_ _ | refine Below.setCell ?_ ?_ _ | refine Below.drew ?_ | refine Below.trans ?_ (Below.mono (unhide HB1) ?_))); all_goals (first | exact Nat.le_refl _ | omega | (simp; done) | (simp; omega))))⟩
set_option maxHeartbeats 3200000 in
set_option maxRecDepth 8000 in
theorem jans_life (ep key old a te ta tt tg ke kn ku kg : Int) (s : ByteArray) (n now life : Int) (o : Bool) (w : World) (CO : Hid (∀ w : World, Calls Tryz.prog 113 #[.agg #[.int .i64 ep, .int .i64 key, .int .i64 old], .agg #[.int .i64 ke, .int .i64 kn, .int .i64 ku, .int .i64 kg], .int .i64 now] w fun e w' => e = .returned (.tuple #[.bool o, .nilIface]) ∧ Below w.heap.size w w')) (CF : Hid (∀ w : World, Calls Tryz.prog 102 #[.int .i64 a] w fun e w' => e = .returned (.bool true) ∧ w' = w)) (CL : Hid (∀ w : World, Calls Tryz.prog 48 #[.int .i64 life] w fun e w' => e = .returned (.bool false) ∧ w' = w)) :
    Calls Tryz.prog 82 #[.agg #[.int .i64 ep, .int .i64 key, .int .i64 old], .agg #[.int .i64 a, .int .i64 te, .int .i64 ta, .int .i64 tt, .int .i64 tg, .int .i64 ke, .int .i64 kn, .int .i64 ku, .int .i64 kg, .string s], .int .i64 n, .int .i64 now, .int .i64 life] w fun e w' => e = .returned (.tuple #[.int .i64 0, .bool false, errV 1]) ∧ Below w.heap.size w w' := by
  rw [errV_pos (by omega)]
  go_enter Tryz.func82, Tryz.ntmps82
  go_wp2_with fail
  refine (unhide CO _).mono ?_
  rintro e w1 ⟨rfl, hb1⟩
  have HR1 : Hid (Held w1 (w.heap.size) (n3 ep key old)) := hide (((Held.fresh (w := w) (n3 ep key old) 56 (by first | rfl | (simp; done))).later (by (repeat' (first | exact Below.refl _ _ | refine Below.alloc ?_ ?_ _ | refine Below.setCell ?_ ?_ _ | refine Below.drew ?_)); all_goals (first | exact Nat.le_refl _ | omega | (simp; done) | (simp; omega)))).later hb1)
  have HH1 : Hid (Held w1 (w.heap.size + 1) (nh a te ta tt tg ke kn ku kg s)) := hide (((Held.fresh (w := w.alloc (.cells (n3 ep key old).toArray 56)) (nh a te ta tt tg ke kn ku kg s) 73 (by first | rfl | (simp; done))).later (by (repeat' (first | exact Below.refl _ _ | refine Below.alloc ?_ ?_ _ | refine Below.setCell ?_ ?_ _ | refine Below.drew ?_)); all_goals (first | exact Nat.le_refl _ | omega | (simp; done) | (simp; omega)))).later hb1)
  have HB1 := hide (show Below w.heap.size w w1 from Below.trans (by (repeat' (first | exact Below.refl _ _ | refine Below.alloc ?_ ?_ _ | refine Below.setCell ?_ ?_ _ | refine Below.drew ?_)); all_goals (first | exact Nat.le_refl _ | omega | (simp; done) | (simp; omega))) (hb1.mono (by first | exact Nat.le_refl _ | (simp; done) | (simp; omega))))
  clear hb1
  obtain ⟨h0, h1, h2, h3, h4, h5, h6, h7, h8, h9⟩ := (unhide HH1).c10.1
  have hl := (unhide HH1).2
  go_wp2_with fail
  refine (unhide CF _).mono ?_
  rintro e w' ⟨rfl, hw⟩
  obtain rfl := hw.symm
  clear hw
  go_wp2_with fail
  refine (unhide CL _).mono ?_
  rintro e w' ⟨rfl, hw⟩
  obtain rfl := hw.symm
  clear hw
  go_wp2
  exact bodyPost_ret (v := .tuple #[.int .i64 0, .bool false, .iface 85 (.int .i64 1)]) (by simp [results, Tryz.results82, go_sem]) rfl ⟨rfl, (by  exact (by (repeat' (first | exact Below.refl _ _ | refine Below.alloc ?_ ?_ _ | refine Below.setCell ?_ ?_ _ | refine Below.drew ?_ | refine Below.trans ?_ (Below.mono (unhide HB1) ?_))); all_goals (first | exact Nat.le_refl _ | omega | (simp; done) | (simp; omega))))⟩
set_option maxHeartbeats 3200000 in
set_option maxRecDepth 8000 in
theorem jans_load (ep key old a te ta tt tg ke kn ku kg : Int) (s : ByteArray) (n now life : Int) (o t : Bool) (x E : Int) (hE : ¬ E = 0) (w : World) (CO : Hid (∀ w : World, Calls Tryz.prog 113 #[.agg #[.int .i64 ep, .int .i64 key, .int .i64 old], .agg #[.int .i64 ke, .int .i64 kn, .int .i64 ku, .int .i64 kg], .int .i64 now] w fun e w' => e = .returned (.tuple #[.bool o, .nilIface]) ∧ Below w.heap.size w w')) (CF : Hid (∀ w : World, Calls Tryz.prog 102 #[.int .i64 a] w fun e w' => e = .returned (.bool true) ∧ w' = w)) (CL : Hid (∀ w : World, Calls Tryz.prog 48 #[.int .i64 life] w fun e w' => e = .returned (.bool true) ∧ w' = w)) (CS : Hid (∀ w : World, Calls Tryz.prog 115 #[.agg #[.int .i64 ep, .int .i64 key, .int .i64 old], .agg #[.int .i64 a, .int .i64 te, .int .i64 ta, .int .i64 tt, .int .i64 tg, .int .i64 ke, .int .i64 kn, .int .i64 ku, .int .i64 kg, .string s], .int .i64 now, .int .i64 life] w fun e w' => e = .returned (.bool t) ∧ Below w.heap.size w w')) (CN : Hid (∀ w : World, Calls Tryz.prog 114 #[.int .i64 n, .bool t, .bool o] w fun e w' => e = .returned (.tuple #[.int .i64 x, errV E]) ∧ w' = w)) :
    Calls Tryz.prog 82 #[.agg #[.int .i64 ep, .int .i64 key, .int .i64 old], .agg #[.int .i64 a, .int .i64 te, .int .i64 ta, .int .i64 tt, .int .i64 tg, .int .i64 ke, .int .i64 kn, .int .i64 ku, .int .i64 kg, .string s], .int .i64 n, .int .i64 now, .int .i64 life] w fun e w' => e = .returned (.tuple #[.int .i64 0, .bool false, errV E]) ∧ Below w.heap.size w w' := by
  rw [errV_pos hE] at CN ⊢
  clear hE
  go_enter Tryz.func82, Tryz.ntmps82
  go_wp2_with fail
  refine (unhide CO _).mono ?_
  rintro e w1 ⟨rfl, hb1⟩
  have HR1 : Hid (Held w1 (w.heap.size) (n3 ep key old)) := hide (((Held.fresh (w := w) (n3 ep key old) 56 (by first | rfl | (simp; done))).later (by (repeat' (first | exact Below.refl _ _ | refine Below.alloc ?_ ?_ _ | refine Below.setCell ?_ ?_ _ | refine Below.drew ?_)); all_goals (first | exact Nat.le_refl _ | omega | (simp; done) | (simp; omega)))).later hb1)
  have HH1 : Hid (Held w1 (w.heap.size + 1) (nh a te ta tt tg ke kn ku kg s)) := hide (((Held.fresh (w := w.alloc (.cells (n3 ep key old).toArray 56)) (nh a te ta tt tg ke kn ku kg s) 73 (by first | rfl | (simp; done))).later (by (repeat' (first | exact Below.refl _ _ | refine Below.alloc ?_ ?_ _ | refine Below.setCell ?_ ?_ _ | refine Below.drew ?_)); all_goals (first | exact Nat.le_refl _ | omega | (simp; done) | (simp; omega)))).later hb1)
  have HB1 := hide (show Below w.heap.size w w1 from Below.trans (by (repeat' (first | exact Below.refl _ _ | refine Below.alloc ?_ ?_ _ | refine Below.setCell ?_ ?_ _ | refine Below.drew ?_)); all_goals (first | exact Nat.le_refl _ | omega | (simp; done) | (simp; omega))) (hb1.mono (by first | exact Nat.le_refl _ | (simp; done) | (simp; omega))))
  clear hb1
  obtain ⟨r0, r1, r2⟩ := (unhide HR1).c3.1
  have rl := (unhide HR1).2
  obtain ⟨h0, h1, h2, h3, h4, h5, h6, h7, h8, h9⟩ := (unhide HH1).c10.1
  have hl := (unhide HH1).2
  go_wp2_with fail
  refine (unhide CF _).mono ?_
  rintro e w' ⟨rfl, hw⟩
  obtain rfl := hw.symm
  clear hw
  go_wp2_with fail
  refine (unhide CL _).mono ?_
  rintro e w' ⟨rfl, hw⟩
  obtain rfl := hw.symm
  clear hw
  go_wp2_with fail
  refine (unhide CS _).mono ?_
  rintro e w2 ⟨rfl, hb2⟩
  clear r0 r1 r2 rl h0 h1 h2 h3 h4 h5 h6 h7 h8 h9 hl
  have HR2 := hide (((unhide HR1).later (by (repeat' (first | exact Below.refl _ _ | refine Below.alloc ?_ ?_ _ | refine Below.setCell ?_ ?_ _ | refine Below.drew ?_)); all_goals (first | exact Nat.le_refl _ | omega | (simp; done) | (simp; omega)))).later hb2)
  have HH2 := hide (((unhide HH1).later (by (repeat' (first | exact Below.refl _ _ | refine Below.alloc ?_ ?_ _ | refine Below.setCell ?_ ?_ _ | refine Below.drew ?_)); all_goals (first | exact Nat.le_refl _ | omega | (simp; done) | (simp; omega)))).later hb2)
  have HB2 := hide (show Below w.heap.size w w2 from (by have := (unhide HB1).size; exact Below.trans (by (repeat' (first | exact Below.refl _ _ | refine Below.alloc ?_ ?_ _ | refine Below.setCell ?_ ?_ _ | refine Below.drew ?_ | refine Below.trans ?_ (Below.mono (unhide HB1) ?_))); all_goals (first | exact Nat.le_refl _ | omega | (simp; done) | (simp; omega))) (hb2.mono (by first | omega | (simp; done) | (simp; omega)))))
  clear hb2
  go_wp2_with fail
  refine (unhide CN _).mono ?_
  rintro e w' ⟨rfl, hw⟩
  obtain rfl := hw.symm
  clear hw
  go_wp2
  exact bodyPost_ret (v := .tuple #[.int .i64 0, .bool false, .iface 85 (.int .i64 E)]) (by simp [results, Tryz.results82, go_sem]) rfl ⟨rfl, (by have := (unhide HB1).size; exact (by (repeat' (first | exact Below.refl _ _ | refine Below.alloc ?_ ?_ _ | refine Below.setCell ?_ ?_ _ | refine Below.drew ?_ | refine Below.trans ?_ (Below.mono (unhide HB2) ?_))); all_goals (first | exact Nat.le_refl _ | omega | (simp; done) | (simp; omega))))⟩
set_option maxHeartbeats 3200000 in
set_option maxRecDepth 8000 in
theorem jans_good (ep key old a te ta tt tg ke kn ku kg : Int) (s : ByteArray) (n now life : Int) (o t m : Bool) (x : Int) (w : World) (CO : Hid (∀ w : World, Calls Tryz.prog 113 #[.agg #[.int .i64 ep, .int .i64 key, .int .i64 old], .agg #[.int .i64 ke, .int .i64 kn, .int .i64 ku, .int .i64 kg], .int .i64 now] w fun e w' => e = .returned (.tuple #[.bool o, .nilIface]) ∧ Below w.heap.size w w')) (CF : Hid (∀ w : World, Calls Tryz.prog 102 #[.int .i64 a] w fun e w' => e = .returned (.bool true) ∧ w' = w)) (CL : Hid (∀ w : World, Calls Tryz.prog 48 #[.int .i64 life] w fun e w' => e = .returned (.bool true) ∧ w' = w)) (CS : Hid (∀ w : World, Calls Tryz.prog 115 #[.agg #[.int .i64 ep, .int .i64 key, .int .i64 old], .agg #[.int .i64 a, .int .i64 te, .int .i64 ta, .int .i64 tt, .int .i64 tg, .int .i64 ke, .int .i64 kn, .int .i64 ku, .int .i64 kg, .string s], .int .i64 now, .int .i64 life] w fun e w' => e = .returned (.bool t) ∧ Below w.heap.size w w')) (CN : Hid (∀ w : World, Calls Tryz.prog 114 #[.int .i64 n, .bool t, .bool o] w fun e w' => e = .returned (.tuple #[.int .i64 x, errV 0]) ∧ w' = w)) (CM : Hid (∀ w : World, Calls Tryz.prog 116 #[.string s] w fun e w' => e = .returned (.bool m) ∧ w' = w)) :
    Calls Tryz.prog 82 #[.agg #[.int .i64 ep, .int .i64 key, .int .i64 old], .agg #[.int .i64 a, .int .i64 te, .int .i64 ta, .int .i64 tt, .int .i64 tg, .int .i64 ke, .int .i64 kn, .int .i64 ku, .int .i64 kg, .string s], .int .i64 n, .int .i64 now, .int .i64 life] w fun e w' => e = .returned (.tuple #[.int .i64 x, .bool (decide (x = 1) && o && m), errV 0]) ∧ Below w.heap.size w w' := by
  rw [errV_zero rfl] at CN ⊢
  by_cases hx : x = 1
  · subst hx
    cases o
    · simp only [decide_true, Bool.true_and, Bool.false_and]
      go_enter Tryz.func82, Tryz.ntmps82
      go_wp2_with fail
      refine (unhide CO _).mono ?_
      rintro e w1 ⟨rfl, hb1⟩
      have HR1 : Hid (Held w1 (w.heap.size) (n3 ep key old)) := hide (((Held.fresh (w := w) (n3 ep key old) 56 (by first | rfl | (simp; done))).later (by (repeat' (first | exact Below.refl _ _ | refine Below.alloc ?_ ?_ _ | refine Below.setCell ?_ ?_ _ | refine Below.drew ?_)); all_goals (first | exact Nat.le_refl _ | omega | (simp; done) | (simp; omega)))).later hb1)
      have HH1 : Hid (Held w1 (w.heap.size + 1) (nh a te ta tt tg ke kn ku kg s)) := hide (((Held.fresh (w := w.alloc (.cells (n3 ep key old).toArray 56)) (nh a te ta tt tg ke kn ku kg s) 73 (by first | rfl | (simp; done))).later (by (repeat' (first | exact Below.refl _ _ | refine Below.alloc ?_ ?_ _ | refine Below.setCell ?_ ?_ _ | refine Below.drew ?_)); all_goals (first | exact Nat.le_refl _ | omega | (simp; done) | (simp; omega)))).later hb1)
      have HB1 := hide (show Below w.heap.size w w1 from Below.trans (by (repeat' (first | exact Below.refl _ _ | refine Below.alloc ?_ ?_ _ | refine Below.setCell ?_ ?_ _ | refine Below.drew ?_)); all_goals (first | exact Nat.le_refl _ | omega | (simp; done) | (simp; omega))) (hb1.mono (by first | exact Nat.le_refl _ | (simp; done) | (simp; omega))))
      clear hb1
      obtain ⟨r0, r1, r2⟩ := (unhide HR1).c3.1
      have rl := (unhide HR1).2
      obtain ⟨h0, h1, h2, h3, h4, h5, h6, h7, h8, h9⟩ := (unhide HH1).c10.1
      have hl := (unhide HH1).2
      go_wp2_with fail
      refine (unhide CF _).mono ?_
      rintro e w' ⟨rfl, hw⟩
      obtain rfl := hw.symm
      clear hw
      go_wp2_with fail
      refine (unhide CL _).mono ?_
      rintro e w' ⟨rfl, hw⟩
      obtain rfl := hw.symm
      clear hw
      go_wp2_with fail
      refine (unhide CS _).mono ?_
      rintro e w2 ⟨rfl, hb2⟩
      clear r0 r1 r2 rl h0 h1 h2 h3 h4 h5 h6 h7 h8 h9 hl
      have HR2 := hide (((unhide HR1).later (by (repeat' (first | exact Below.refl _ _ | refine Below.alloc ?_ ?_ _ | refine Below.setCell ?_ ?_ _ | refine Below.drew ?_)); all_goals (first | exact Nat.le_refl _ | omega | (simp; done) | (simp; omega)))).later hb2)
      have HH2 := hide (((unhide HH1).later (by (repeat' (first | exact Below.refl _ _ | refine Below.alloc ?_ ?_ _ | refine Below.setCell ?_ ?_ _ | refine Below.drew ?_)); all_goals (first | exact Nat.le_refl _ | omega | (simp; done) | (simp; omega)))).later hb2)
      have HB2 := hide (show Below w.heap.size w w2 from (by have := (unhide HB1).size; exact Below.trans (by (repeat' (first | exact Below.refl _ _ | refine Below.alloc ?_ ?_ _ | refine Below.setCell ?_ ?_ _ | refine Below.drew ?_ | refine Below.trans ?_ (Below.mono (unhide HB1) ?_))); all_goals (first | exact Nat.le_refl _ | omega | (simp; done) | (simp; omega))) (hb2.mono (by first | omega | (simp; done) | (simp; omega)))))
      clear hb2
      go_wp2_with fail
      refine (unhide CN _).mono ?_
      rintro e w' ⟨rfl, hw⟩
      obtain rfl := hw.symm
      clear hw
      go_wp2
      exact bodyPost_ret (v := .tuple #[.int .i64 1, .bool false, .nilIface]) (by simp [results, Tryz.results82, go_sem]) rfl ⟨rfl, (by have := (unhide HB1).size; exact (by (repeat' (first | exact Below.refl _ _ | refine Below.alloc ?_ ?_ _ | refine Below.setCell ?_ ?_ _ | refine Below.drew ?_ | refine Below.trans ?_ (Below.mono (unhide HB2) ?_))); all_goals (first | exact Nat.le_refl _ | omega | (simp; done) | (simp; omega))))⟩
    · simp only [decide_true, Bool.true_and]
      go_enter Tryz.func82, Tryz.ntmps82
      go_wp2_with fail
      refine (unhide CO _).mono ?_
      rintro e w1 ⟨rfl, hb1⟩
      have HR1 : Hid (Held w1 (w.heap.size) (n3 ep key old)) := hide (((Held.fresh (w := w) (n3 ep key old) 56 (by first | rfl | (simp; done))).later (by (repeat' (first | exact Below.refl _ _ | refine Below.alloc ?_ ?_ _ | refine Below.setCell ?_ ?_ _ | refine Below.drew ?_)); all_goals (first | exact Nat.le_refl _ | omega | (simp; done) | (simp; omega)))).later hb1)
      have HH1 : Hid (Held w1 (w.heap.size + 1) (nh a te ta tt tg ke kn ku kg s)) := hide (((Held.fresh (w := w.alloc (.cells (n3 ep key old).toArray 56)) (nh a te ta tt tg ke kn ku kg s) 73 (by first | rfl | (simp; done))).later (by (repeat' (first | exact Below.refl _ _ | refine Below.alloc ?_ ?_ _ | refine Below.setCell ?_ ?_ _ | refine Below.drew ?_)); all_goals (first | exact Nat.le_refl _ | omega | (simp; done) | (simp; omega)))).later hb1)
      have HB1 := hide (show Below w.heap.size w w1 from Below.trans (by (repeat' (first | exact Below.refl _ _ | refine Below.alloc ?_ ?_ _ | refine Below.setCell ?_ ?_ _ | refine Below.drew ?_)); all_goals (first | exact Nat.le_refl _ | omega | (simp; done) | (simp; omega))) (hb1.mono (by first | exact Nat.le_refl _ | (simp; done) | (simp; omega))))
      clear hb1
      obtain ⟨r0, r1, r2⟩ := (unhide HR1).c3.1
      have rl := (unhide HR1).2
      obtain ⟨h0, h1, h2, h3, h4, h5, h6, h7, h8, h9⟩ := (unhide HH1).c10.1
      have hl := (unhide HH1).2
      go_wp2_with fail
      refine (unhide CF _).mono ?_
      rintro e w' ⟨rfl, hw⟩
      obtain rfl := hw.symm
      clear hw
      go_wp2_with fail
      refine (unhide CL _).mono ?_
      rintro e w' ⟨rfl, hw⟩
      obtain rfl := hw.symm
      clear hw
      go_wp2_with fail
      refine (unhide CS _).mono ?_
      rintro e w2 ⟨rfl, hb2⟩
      clear r0 r1 r2 rl h0 h1 h2 h3 h4 h5 h6 h7 h8 h9 hl
      have HR2 := hide (((unhide HR1).later (by (repeat' (first | exact Below.refl _ _ | refine Below.alloc ?_ ?_ _ | refine Below.setCell ?_ ?_ _ | refine Below.drew ?_)); all_goals (first | exact Nat.le_refl _ | omega | (simp; done) | (simp; omega)))).later hb2)
      have HH2 := hide (((unhide HH1).later (by (repeat' (first | exact Below.refl _ _ | refine Below.alloc ?_ ?_ _ | refine Below.setCell ?_ ?_ _ | refine Below.drew ?_)); all_goals (first | exact Nat.le_refl _ | omega | (simp; done) | (simp; omega)))).later hb2)
      have HB2 := hide (show Below w.heap.size w w2 from (by have := (unhide HB1).size; exact Below.trans (by (repeat' (first | exact Below.refl _ _ | refine Below.alloc ?_ ?_ _ | refine Below.setCell ?_ ?_ _ | refine Below.drew ?_ | refine Below.trans ?_ (Below.mono (unhide HB1) ?_))); all_goals (first | exact Nat.le_refl _ | omega | (simp; done) | (simp; omega))) (hb2.mono (by first | omega | (simp; done) | (simp; omega)))))
      clear hb2
      go_wp2_with fail
      refine (unhide CN _).mono ?_
      rintro e w' ⟨rfl, hw⟩
      obtain rfl := hw.symm
      clear hw
      obtain ⟨h0, h1, h2, h3, h4, h5, h6, h7, h8, h9⟩ := (unhide HH2).c10.1
      have hl := (unhide HH2).2
      go_wp2_with fail
      refine (unhide CM _).mono ?_
      rintro e w' ⟨rfl, hw⟩
      obtain rfl := hw.symm
      clear hw
      go_wp2
      exact bodyPost_ret (v := .tuple #[.int .i64 1, .bool m, .nilIface]) (by simp [results, Tryz.results82, go_sem]) rfl ⟨rfl, (by have := (unhide HB1).size; exact (by (repeat' (first | exact Below.refl _ _ | refine Below.alloc ?_ ?_ _ | refine Below.setCell ?_ ?_ _ | refine Below.drew ?_ | refine Below.trans ?_ (Below.mono (unhide HB2) ?_))); all_goals (first | exact Nat.le_refl _ | omega | (simp; done) | (simp; omega))))⟩
  · have hx1 := beq_no hx
    rw [show decide (x = 1) = false by simpa using hx]
    simp only [Bool.false_and]
    go_enter Tryz.func82, Tryz.ntmps82
    go_wp2_with fail
    refine (unhide CO _).mono ?_
    rintro e w1 ⟨rfl, hb1⟩
    have HR1 : Hid (Held w1 (w.heap.size) (n3 ep key old)) := hide (((Held.fresh (w := w) (n3 ep key old) 56 (by first | rfl | (simp; done))).later (by (repeat' (first | exact Below.refl _ _ | refine Below.alloc ?_ ?_ _ | refine Below.setCell ?_ ?_ _ | refine Below.drew ?_)); all_goals (first | exact Nat.le_refl _ | omega | (simp; done) | (simp; omega)))).later hb1)
    have HH1 : Hid (Held w1 (w.heap.size + 1) (nh a te ta tt tg ke kn ku kg s)) := hide (((Held.fresh (w := w.alloc (.cells (n3 ep key old).toArray 56)) (nh a te ta tt tg ke kn ku kg s) 73 (by first | rfl | (simp; done))).later (by (repeat' (first | exact Below.refl _ _ | refine Below.alloc ?_ ?_ _ | refine Below.setCell ?_ ?_ _ | refine Below.drew ?_)); all_goals (first | exact Nat.le_refl _ | omega | (simp; done) | (simp; omega)))).later hb1)
    have HB1 := hide (show Below w.heap.size w w1 from Below.trans (by (repeat' (first | exact Below.refl _ _ | refine Below.alloc ?_ ?_ _ | refine Below.setCell ?_ ?_ _ | refine Below.drew ?_)); all_goals (first | exact Nat.le_refl _ | omega | (simp; done) | (simp; omega))) (hb1.mono (by first | exact Nat.le_refl _ | (simp; done) | (simp; omega))))
    clear hb1
    obtain ⟨r0, r1, r2⟩ := (unhide HR1).c3.1
    have rl := (unhide HR1).2
    obtain ⟨h0, h1, h2, h3, h4, h5, h6, h7, h8, h9⟩ := (unhide HH1).c10.1
    have hl := (unhide HH1).2
    go_wp2_with fail
    refine (unhide CF _).mono ?_
    rintro e w' ⟨rfl, hw⟩
    obtain rfl := hw.symm
    clear hw
    go_wp2_with fail
    refine (unhide CL _).mono ?_
    rintro e w' ⟨rfl, hw⟩
    obtain rfl := hw.symm
    clear hw
    go_wp2_with fail
    refine (unhide CS _).mono ?_
    rintro e w2 ⟨rfl, hb2⟩
    clear r0 r1 r2 rl h0 h1 h2 h3 h4 h5 h6 h7 h8 h9 hl
    have HR2 := hide (((unhide HR1).later (by (repeat' (first | exact Below.refl _ _ | refine Below.alloc ?_ ?_ _ | refine Below.setCell ?_ ?_ _ | refine Below.drew ?_)); all_goals (first | exact Nat.le_refl _ | omega | (simp; done) | (simp; omega)))).later hb2)
    have HH2 := hide (((unhide HH1).later (by (repeat' (first | exact Below.refl _ _ | refine Below.alloc ?_ ?_ _ | refine Below.setCell ?_ ?_ _ | refine Below.drew ?_)); all_goals (first | exact Nat.le_refl _ | omega | (simp; done) | (simp; omega)))).later hb2)
    have HB2 := hide (show Below w.heap.size w w2 from (by have := (unhide HB1).size; exact Below.trans (by (repeat' (first | exact Below.refl _ _ | refine Below.alloc ?_ ?_ _ | refine Below.setCell ?_ ?_ _ | refine Below.drew ?_ | refine Below.trans ?_ (Below.mono (unhide HB1) ?_))); all_goals (first | exact Nat.le_refl _ | omega | (simp; done) | (simp; omega))) (hb2.mono (by first | omega | (simp; done) | (simp; omega)))))
    clear hb2
    go_wp2_with fail
    refine (unhide CN _).mono ?_
    rintro e w' ⟨rfl, hw⟩
    obtain rfl := hw.symm
    clear hw
    go_wp2
    exact bodyPost_ret (v := .tuple #[.int .i64 x, .bool false, .nilIface]) (by simp [results, Tryz.results82, go_sem]) rfl ⟨rfl, (by have := (unhide HB1).size; exact (by (repeat' (first | exact Below.refl _ _ | refine Below.alloc ?_ ?_ _ | refine Below.setCell ?_ ?_ _ | refine Below.drew ?_ | refine Below.trans ?_ (Below.mono (unhide HB2) ?_))); all_goals (first | exact Nat.le_refl _ | omega | (simp; done) | (simp; omega))))⟩
theorem jans_any (ep key old a te ta tt tg ke kn ku kg : Int) (s : ByteArray) (n now life : Int) (w : World) :
    Calls Tryz.prog 82 #[.agg #[.int .i64 ep, .int .i64 key, .int .i64 old], .agg #[.int .i64 a, .int .i64 te, .int .i64 ta, .int .i64 tt, .int .i64 tg, .int .i64 ke, .int .i64 kn, .int .i64 ku, .int .i64 kg, .string s], .int .i64 n, .int .i64 now, .int .i64 life] w fun e w' => e = .returned (.tuple #[.int .i64 (JudgeM.kind ep key old a te ta tt tg ke kn ku kg n now life), .bool (JudgeM.may ep key old a te ta tt tg ke kn ku kg s.size n now life), errV (JudgeM.ansErr ep key old a n now life)]) ∧ Below w.heap.size w w' := by
  have CO := hide (jold_any ep key old ke kn ku kg now)
  by_cases he : RingM.err ep key old = 0
  · by_cases ht : TokenM.timeB now = true
    · rw [JudgeM.oldB_yes (JudgeM.old_zero.2 ⟨he, ht⟩), errV_zero (JudgeM.old_zero.2 ⟨he, ht⟩)] at CO
      have CF := hide (fits_any a)
      have CL := hide (time_any life)
      by_cases ha : TagM.inB a = true
      · by_cases hl : TokenM.timeB life = true
        · rw [ha] at CF
          rw [hl] at CL
          have hs : JudgeM.ansErr ep key old a n now life = LoadM.err n := JudgeM.ans_load he (by rw [ha, ht, hl]; rfl)
          have CS := hide (jshown_any ep key old a te ta tt tg ke kn ku kg s now life)
          have CN := hide (needs_any n (JudgeM.shownB ep key old te ta tt tg a now life) (JudgeM.rightB ep key old ke kn ku kg now))
          by_cases hE : LoadM.err n = 0
          · rw [JudgeM.kind_yes (hs.trans hE), JudgeM.may_yes (hs.trans hE), hs, hE]
            rw [hE] at CN
            exact jans_good ep key old a te ta tt tg ke kn ku kg s n now life _ _ _ _ w CO CF CL CS CN (hide (jmay_any s))
          · rw [JudgeM.kind_no (by rw [hs]; exact hE), JudgeM.may_no (by rw [hs]; exact hE), hs]
            exact jans_load ep key old a te ta tt tg ke kn ku kg s n now life _ _ _ _ hE w CO CF CL CS CN
        · have hl' : TokenM.timeB life = false := by simpa using hl
          have h1 : JudgeM.ansErr ep key old a n now life = 1 := JudgeM.ans_range he (by rw [ha, ht, hl']; rfl)
          rw [JudgeM.kind_no (by rw [h1]; omega), JudgeM.may_no (by rw [h1]; omega), h1]
          rw [ha] at CF
          rw [hl'] at CL
          exact jans_life ep key old a te ta tt tg ke kn ku kg s n now life _ w CO CF CL
      · have ha' : TagM.inB a = false := by simpa using ha
        have h1 : JudgeM.ansErr ep key old a n now life = 1 := JudgeM.ans_range he (by rw [ha']; rfl)
        rw [JudgeM.kind_no (by rw [h1]; omega), JudgeM.may_no (by rw [h1]; omega), h1]
        rw [ha'] at CF
        exact jans_addr ep key old a te ta tt tg ke kn ku kg s n now life _ w CO CF
    · have ht' : TokenM.timeB now = false := by simpa using ht
      have h1 : JudgeM.ansErr ep key old a n now life = 1 := JudgeM.ans_range he (by rw [ht']; simp)
      have h2 : JudgeM.oldErr ep key old now = 1 := by unfold JudgeM.oldErr; rw [if_pos he, if_neg ht]
      rw [JudgeM.oldB_no (by rw [h2]; omega), h2] at CO
      rw [JudgeM.kind_no (by rw [h1]; omega), JudgeM.may_no (by rw [h1]; omega), h1]
      exact jans_old ep key old a te ta tt tg ke kn ku kg s n now life 1 (by omega) w CO
  · have h1 : JudgeM.ansErr ep key old a n now life = RingM.err ep key old := JudgeM.ans_ring he
    have h2 : JudgeM.oldErr ep key old now = RingM.err ep key old := by unfold JudgeM.oldErr; rw [if_neg he]
    rw [JudgeM.oldB_no (by rw [h2]; exact he), h2] at CO
    rw [JudgeM.kind_no (by rw [h1]; exact he), JudgeM.may_no (by rw [h1]; exact he), h1]
    exact jans_old ep key old a te ta tt tg ke kn ku kg s n now life _ he w CO

set_option maxHeartbeats 3200000 in
set_option maxRecDepth 8000 in
theorem r2old_9 (ep key old  now : Int) (w : World)  :
    Calls Tryz.prog 96 #[.agg #[.int .i64 ep, .int .i64 key, .int .i64 old], .agg #[.int .i64 0, .int .i64 0, .int .i64 0, .int .i64 0], .int .i64 now] w fun e w' => e = .returned (.bool false) ∧ Below w.heap.size w w' := by
  go_enter Tryz.func96, Tryz.ntmps96
  go_wp2
  go_ret
  exact ⟨rfl, (by (repeat' (first | exact Below.refl _ _ | refine Below.alloc ?_ ?_ _ | refine Below.setCell ?_ ?_ _ | refine Below.drew ?_)); all_goals (first | exact Nat.le_refl _ | omega | (simp; done) | (simp; omega)))⟩
set_option maxHeartbeats 3200000 in
set_option maxRecDepth 8000 in
theorem r2old_0 (ep key old te ta tt tg now n : Int) (w : World) (h : ¬ te = 0) (C2 : Hid (∀ w : World, Calls Tryz.prog 128 #[.agg #[.int .i64 ep, .int .i64 key, .int .i64 old], .agg #[.int .i64 te, .int .i64 ta, .int .i64 tt, .int .i64 tg], .int .i64 now] w fun e w' => e = .returned (.int .i64 n) ∧ Below w.heap.size w w')) :
    Calls Tryz.prog 96 #[.agg #[.int .i64 ep, .int .i64 key, .int .i64 old], .agg #[.int .i64 te, .int .i64 ta, .int .i64 tt, .int .i64 tg], .int .i64 now] w fun e w' => e = .returned (.bool (decide (n = 0))) ∧ Below w.heap.size w w' := by
  have h' := beq_no h
  go_enter Tryz.func96, Tryz.ntmps96
  go_wp2_with fail
  refine (unhide C2 _).mono ?_
  rintro e w1 ⟨rfl, hb1⟩
  have HB1 := hide (show Below w.heap.size w w1 from Below.trans (by (repeat' (first | exact Below.refl _ _ | refine Below.alloc ?_ ?_ _ | refine Below.setCell ?_ ?_ _ | refine Below.drew ?_)); all_goals (first | exact Nat.le_refl _ | omega | (simp; done) | (simp; omega))) (hb1.mono (by first | exact Nat.le_refl _ | (simp; done) | (simp; omega))))
  clear hb1
  go_wp2
  go_ret
  exact ⟨rfl, (by (repeat' (first | exact Below.refl _ _ | refine Below.alloc ?_ ?_ _ | refine Below.setCell ?_ ?_ _ | refine Below.drew ?_ | refine Below.trans ?_ (Below.mono (unhide HB1) ?_))); all_goals (first | exact Nat.le_refl _ | omega | (simp; done) | (simp; omega)))⟩
set_option maxHeartbeats 3200000 in
set_option maxRecDepth 8000 in
theorem r2old_1 (ep key old ta tt tg now n : Int) (w : World) (h : ¬ ta = 0) (C2 : Hid (∀ w : World, Calls Tryz.prog 128 #[.agg #[.int .i64 ep, .int .i64 key, .int .i64 old], .agg #[.int .i64 0, .int .i64 ta, .int .i64 tt, .int .i64 tg], .int .i64 now] w fun e w' => e = .returned (.int .i64 n) ∧ Below w.heap.size w w')) :
    Calls Tryz.prog 96 #[.agg #[.int .i64 ep, .int .i64 key, .int .i64 old], .agg #[.int .i64 0, .int .i64 ta, .int .i64 tt, .int .i64 tg], .int .i64 now] w fun e w' => e = .returned (.bool (decide (n = 0))) ∧ Below w.heap.size w w' := by
  have h' := beq_no h
  go_enter Tryz.func96, Tryz.ntmps96
  go_wp2_with fail
  refine (unhide C2 _).mono ?_
  rintro e w1 ⟨rfl, hb1⟩
  have HB1 := hide (show Below w.heap.size w w1 from Below.trans (by (repeat' (first | exact Below.refl _ _ | refine Below.alloc ?_ ?_ _ | refine Below.setCell ?_ ?_ _ | refine Below.drew ?_)); all_goals (first | exact Nat.le_refl _ | omega | (simp; done) | (simp; omega))) (hb1.mono (by first | exact Nat.le_refl _ | (simp; done) | (simp; omega))))
  clear hb1
  go_wp2
  go_ret
  exact ⟨rfl, (by (repeat' (first | exact Below.refl _ _ | refine Below.alloc ?_ ?_ _ | refine Below.setCell ?_ ?_ _ | refine Below.drew ?_ | refine Below.trans ?_ (Below.mono (unhide HB1) ?_))); all_goals (first | exact Nat.le_refl _ | omega | (simp; done) | (simp; omega)))⟩
set_option maxHeartbeats 3200000 in
set_option maxRecDepth 8000 in
theorem r2old_2 (ep key old tt tg now n : Int) (w : World) (h : ¬ tt = 0) (C2 : Hid (∀ w : World, Calls Tryz.prog 128 #[.agg #[.int .i64 ep, .int .i64 key, .int .i64 old], .agg #[.int .i64 0, .int .i64 0, .int .i64 tt, .int .i64 tg], .int .i64 now] w fun e w' => e = .returned (.int .i64 n) ∧ Below w.heap.size w w')) :
    Calls Tryz.prog 96 #[.agg #[.int .i64 ep, .int .i64 key, .int .i64 old], .agg #[.int .i64 0, .int .i64 0, .int .i64 tt, .int .i64 tg], .int .i64 now] w fun e w' => e = .returned (.bool (decide (n = 0))) ∧ Below w.heap.size w w' := by
  have h' := beq_no h
  go_enter Tryz.func96, Tryz.ntmps96
  go_wp2_with fail
  refine (unhide C2 _).mono ?_
  rintro e w1 ⟨rfl, hb1⟩
  have HB1 := hide (show Below w.heap.size w w1 from Below.trans (by (repeat' (first | exact Below.refl _ _ | refine Below.alloc ?_ ?_ _ | refine Below.setCell ?_ ?_ _ | refine Below.drew ?_)); all_goals (first | exact Nat.le_refl _ | omega | (simp; done) | (simp; omega))) (hb1.mono (by first | exact Nat.le_refl _ | (simp; done) | (simp; omega))))
  clear hb1
  go_wp2
  go_ret
  exact ⟨rfl, (by (repeat' (first | exact Below.refl _ _ | refine Below.alloc ?_ ?_ _ | refine Below.setCell ?_ ?_ _ | refine Below.drew ?_ | refine Below.trans ?_ (Below.mono (unhide HB1) ?_))); all_goals (first | exact Nat.le_refl _ | omega | (simp; done) | (simp; omega)))⟩
set_option maxHeartbeats 3200000 in
set_option maxRecDepth 8000 in
theorem r2old_3 (ep key old tg now n : Int) (w : World) (h : ¬ tg = 0) (C2 : Hid (∀ w : World, Calls Tryz.prog 128 #[.agg #[.int .i64 ep, .int .i64 key, .int .i64 old], .agg #[.int .i64 0, .int .i64 0, .int .i64 0, .int .i64 tg], .int .i64 now] w fun e w' => e = .returned (.int .i64 n) ∧ Below w.heap.size w w')) :
    Calls Tryz.prog 96 #[.agg #[.int .i64 ep, .int .i64 key, .int .i64 old], .agg #[.int .i64 0, .int .i64 0, .int .i64 0, .int .i64 tg], .int .i64 now] w fun e w' => e = .returned (.bool (decide (n = 0))) ∧ Below w.heap.size w w' := by
  have h' := beq_no h
  go_enter Tryz.func96, Tryz.ntmps96
  go_wp2_with fail
  refine (unhide C2 _).mono ?_
  rintro e w1 ⟨rfl, hb1⟩
  have HB1 := hide (show Below w.heap.size w w1 from Below.trans (by (repeat' (first | exact Below.refl _ _ | refine Below.alloc ?_ ?_ _ | refine Below.setCell ?_ ?_ _ | refine Below.drew ?_)); all_goals (first | exact Nat.le_refl _ | omega | (simp; done) | (simp; omega))) (hb1.mono (by first | exact Nat.le_refl _ | (simp; done) | (simp; omega))))
  clear hb1
  go_wp2
  go_ret
  exact ⟨rfl, (by (repeat' (first | exact Below.refl _ _ | refine Below.alloc ?_ ?_ _ | refine Below.setCell ?_ ?_ _ | refine Below.drew ?_ | refine Below.trans ?_ (Below.mono (unhide HB1) ?_))); all_goals (first | exact Nat.le_refl _ | omega | (simp; done) | (simp; omega)))⟩
theorem r2old_any (ep key old te ta tt tg now : Int) (w : World) :
    Calls Tryz.prog 96 #[.agg #[.int .i64 ep, .int .i64 key, .int .i64 old], .agg #[.int .i64 te, .int .i64 ta, .int .i64 tt, .int .i64 tg], .int .i64 now] w fun e w' => e = .returned (.bool (JudgeM.rightB ep key old te ta tt tg now)) ∧ Below w.heap.size w w' := by
  unfold JudgeM.rightB
  by_cases hn : JudgeM.noneB te ta tt tg = true
  · rw [hn]
    obtain ⟨rfl, rfl, rfl, rfl⟩ := JudgeM.noneB_iff.1 hn
    simp only [Bool.not_true, Bool.false_and]
    exact r2old_9 ep key old now w
  · have hn' : JudgeM.noneB te ta tt tg = false := by simpa using hn
    rw [hn']
    simp only [Bool.not_false, Bool.true_and]
    have C2 := hide (ref_ticket_any ep key old te ta tt tg now)
    rcases JudgeM.some4 hn' with h | ⟨rfl, h⟩ | ⟨rfl, rfl, h⟩ | ⟨rfl, rfl, rfl, h⟩
    · exact r2old_0 ep key old te ta tt tg now _ w h C2
    · exact r2old_1 ep key old ta tt tg now _ w h C2
    · exact r2old_2 ep key old tt tg now _ w h C2
    · exact r2old_3 ep key old tg now _ w h C2

set_option maxHeartbeats 3200000 in
set_option maxRecDepth 8000 in
theorem r2ans_ring (ep key old a te ta tt tg ke kn ku kg : Int) (s : ByteArray) (n now life : Int) (E : Int) (hE : ¬ E = 0) (w : World) (DR : Hid (∀ w : World, Calls Tryz.prog 93 #[.agg #[.int .i64 ep, .int .i64 key, .int .i64 old]] w fun e w' => e = .returned (.int .i64 E) ∧ Below w.heap.size w w')) :
    Calls Tryz.prog 70 #[.agg #[.int .i64 ep, .int .i64 key, .int .i64 old], .agg #[.int .i64 a, .int .i64 te, .int .i64 ta, .int .i64 tt, .int .i64 tg, .int .i64 ke, .int .i64 kn, .int .i64 ku, .int .i64 kg, .string s], .int .i64 n, .int .i64 now, .int .i64 life] w fun e w' => e = .returned (.tuple #[.int .i64 0, .bool false, .int .i64 E]) ∧ Below w.heap.size w w' := by
  have hE' := beq_no hE
  go_enter Tryz.func70, Tryz.ntmps70
  go_wp2_with fail
  refine (unhide DR _).mono ?_
  rintro e w1 ⟨rfl, hb1⟩
  have HR1 : Hid (Held w1 (w.heap.size) (n3 ep key old)) := hide (((Held.fresh (w := w) (n3 ep key old) 56 (by first | rfl | (simp; done))).later (by (repeat' (first | exact Below.refl _ _ | refine Below.alloc ?_ ?_ _ | refine Below.setCell ?_ ?_ _ | refine Below.drew ?_)); all_goals (first | exact Nat.le_refl _ | omega | (simp; done) | (simp; omega)))).later hb1)
  have HH1 : Hid (Held w1 (w.heap.size + 1) (nh a te ta tt tg ke kn ku kg s)) := hide (((Held.fresh (w := w.alloc (.cells (n3 ep key old).toArray 56)) (nh a te ta tt tg ke kn ku kg s) 73 (by first | rfl | (simp; done))).later (by (repeat' (first | exact Below.refl _ _ | refine Below.alloc ?_ ?_ _ | refine Below.setCell ?_ ?_ _ | refine Below.drew ?_)); all_goals (first | exact Nat.le_refl _ | omega | (simp; done) | (simp; omega)))).later hb1)
  have HB1 := hide (show Below w.heap.size w w1 from Below.trans (by (repeat' (first | exact Below.refl _ _ | refine Below.alloc ?_ ?_ _ | refine Below.setCell ?_ ?_ _ | refine Below.drew ?_)); all_goals (first | exact Nat.le_refl _ | omega | (simp; done) | (simp; omega))) (hb1.mono (by first | exact Nat.le_refl _ | (simp; done) | (simp; omega))))
  clear hb1
  go_wp2
  exact bodyPost_ret (v := .tuple #[.int .i64 0, .bool false, .int .i64 E]) (by simp [results, Tryz.results70, go_sem]) rfl ⟨rfl, (by  exact (by (repeat' (first | exact Below.refl _ _ | refine Below.alloc ?_ ?_ _ | refine Below.setCell ?_ ?_ _ | refine Below.drew ?_ | refine Below.trans ?_ (Below.mono (unhide HB1) ?_))); all_goals (first | exact Nat.le_refl _ | omega | (simp; done) | (simp; omega))))⟩
set_option maxHeartbeats 3200000 in
set_option maxRecDepth 8000 in
theorem r2ans_addr (ep key old a te ta tt tg ke kn ku kg : Int) (s : ByteArray) (n now life : Int) (t q : Bool) (w : World) (DR : Hid (∀ w : World, Calls Tryz.prog 93 #[.agg #[.int .i64 ep, .int .i64 key, .int .i64 old]] w fun e w' => e = .returned (.int .i64 0) ∧ Below w.heap.size w w')) (DI : Hid (∀ w : World, Calls Tryz.prog 94 #[.int .i64 a] w fun e w' => e = .returned (.bool false) ∧ w' = w)) (DT : Hid (∀ w : World, Calls Tryz.prog 44 #[.int .i64 now] w fun e w' => e = .returned (.bool t) ∧ w' = w)) (DL : Hid (∀ w : World, Calls Tryz.prog 44 #[.int .i64 life] w fun e w' => e = .returned (.bool q) ∧ w' = w)) :
    Calls Tryz.prog 70 #[.agg #[.int .i64 ep, .int .i64 key, .int .i64 old], .agg #[.int .i64 a, .int .i64 te, .int .i64 ta, .int .i64 tt, .int .i64 tg, .int .i64 ke, .int .i64 kn, .int .i64 ku, .int .i64 kg, .string s], .int .i64 n, .int .i64 now, .int .i64 life] w fun e w' => e = .returned (.tuple #[.int .i64 0, .bool false, .int .i64 1]) ∧ Below w.heap.size w w' := by
  go_enter Tryz.func70, Tryz.ntmps70
  go_wp2_with fail
  refine (unhide DR _).mono ?_
  rintro e w1 ⟨rfl, hb1⟩
  have HR1 : Hid (Held w1 (w.heap.size) (n3 ep key old)) := hide (((Held.fresh (w := w) (n3 ep key old) 56 (by first | rfl | (simp; done))).later (by (repeat' (first | exact Below.refl _ _ | refine Below.alloc ?_ ?_ _ | refine Below.setCell ?_ ?_ _ | refine Below.drew ?_)); all_goals (first | exact Nat.le_refl _ | omega | (simp; done) | (simp; omega)))).later hb1)
  have HH1 : Hid (Held w1 (w.heap.size + 1) (nh a te ta tt tg ke kn ku kg s)) := hide (((Held.fresh (w := w.alloc (.cells (n3 ep key old).toArray 56)) (nh a te ta tt tg ke kn ku kg s) 73 (by first | rfl | (simp; done))).later (by (repeat' (first | exact Below.refl _ _ | refine Below.alloc ?_ ?_ _ | refine Below.setCell ?_ ?_ _ | refine Below.drew ?_)); all_goals (first | exact Nat.le_refl _ | omega | (simp; done) | (simp; omega)))).later hb1)
  have HB1 := hide (show Below w.heap.size w w1 from Below.trans (by (repeat' (first | exact Below.refl _ _ | refine Below.alloc ?_ ?_ _ | refine Below.setCell ?_ ?_ _ | refine Below.drew ?_)); all_goals (first | exact Nat.le_refl _ | omega | (simp; done) | (simp; omega))) (hb1.mono (by first | exact Nat.le_refl _ | (simp; done) | (simp; omega))))
  clear hb1
  obtain ⟨h0, h1, h2, h3, h4, h5, h6, h7, h8, h9⟩ := (unhide HH1).c10.1
  have hl := (unhide HH1).2
  go_wp2_with fail
  refine (unhide DI _).mono ?_
  rintro e w' ⟨rfl, hw⟩
  obtain rfl := hw.symm
  clear hw
  go_wp2_with fail
  refine (unhide DT _).mono ?_
  rintro e w' ⟨rfl, hw⟩
  obtain rfl := hw.symm
  clear hw
  go_wp2_with fail
  refine (unhide DL _).mono ?_
  rintro e w' ⟨rfl, hw⟩
  obtain rfl := hw.symm
  clear hw
  go_wp2
  exact bodyPost_ret (v := .tuple #[.int .i64 0, .bool false, .int .i64 1]) (by simp [results, Tryz.results70, go_sem]) rfl ⟨rfl, (by  exact (by (repeat' (first | exact Below.refl _ _ | refine Below.alloc ?_ ?_ _ | refine Below.setCell ?_ ?_ _ | refine Below.drew ?_ | refine Below.trans ?_ (Below.mono (unhide HB1) ?_))); all_goals (first | exact Nat.le_refl _ | omega | (simp; done) | (simp; omega))))⟩
set_option maxHeartbeats 3200000 in
set_option maxRecDepth 8000 in
theorem r2ans_now (ep key old a te ta tt tg ke kn ku kg : Int) (s : ByteArray) (n now life : Int) (q : Bool) (w : World) (DR : Hid (∀ w : World, Calls Tryz.prog 93 #[.agg #[.int .i64 ep, .int .i64 key, .int .i64 old]] w fun e w' => e = .returned (.int .i64 0) ∧ Below w.heap.size w w')) (DI : Hid (∀ w : World, Calls Tryz.prog 94 #[.int .i64 a] w fun e w' => e = .returned (.bool true) ∧ w' = w)) (DT : Hid (∀ w : World, Calls Tryz.prog 44 #[.int .i64 now] w fun e w' => e = .returned (.bool false) ∧ w' = w)) (DL : Hid (∀ w : World, Calls Tryz.prog 44 #[.int .i64 life] w fun e w' => e = .returned (.bool q) ∧ w' = w)) :
    Calls Tryz.prog 70 #[.agg #[.int .i64 ep, .int .i64 key, .int .i64 old], .agg #[.int .i64 a, .int .i64 te, .int .i64 ta, .int .i64 tt, .int .i64 tg, .int .i64 ke, .int .i64 kn, .int .i64 ku, .int .i64 kg, .string s], .int .i64 n, .int .i64 now, .int .i64 life] w fun e w' => e = .returned (.tuple #[.int .i64 0, .bool false, .int .i64 1]) ∧ Below w.heap.size w w' := by
  go_enter Tryz.func70, Tryz.ntmps70
  go_wp2_with fail
  refine (unhide DR _).mono ?_
  rintro e w1 ⟨rfl, hb1⟩
  have HR1 : Hid (Held w1 (w.heap.size) (n3 ep key old)) := hide (((Held.fresh (w := w) (n3 ep key old) 56 (by first | rfl | (simp; done))).later (by (repeat' (first | exact Below.refl _ _ | refine Below.alloc ?_ ?_ _ | refine Below.setCell ?_ ?_ _ | refine Below.drew ?_)); all_goals (first | exact Nat.le_refl _ | omega | (simp; done) | (simp; omega)))).later hb1)
  have HH1 : Hid (Held w1 (w.heap.size + 1) (nh a te ta tt tg ke kn ku kg s)) := hide (((Held.fresh (w := w.alloc (.cells (n3 ep key old).toArray 56)) (nh a te ta tt tg ke kn ku kg s) 73 (by first | rfl | (simp; done))).later (by (repeat' (first | exact Below.refl _ _ | refine Below.alloc ?_ ?_ _ | refine Below.setCell ?_ ?_ _ | refine Below.drew ?_)); all_goals (first | exact Nat.le_refl _ | omega | (simp; done) | (simp; omega)))).later hb1)
  have HB1 := hide (show Below w.heap.size w w1 from Below.trans (by (repeat' (first | exact Below.refl _ _ | refine Below.alloc ?_ ?_ _ | refine Below.setCell ?_ ?_ _ | refine Below.drew ?_)); all_goals (first | exact Nat.le_refl _ | omega | (simp; done) | (simp; omega))) (hb1.mono (by first | exact Nat.le_refl _ | (simp; done) | (simp; omega))))
  clear hb1
  obtain ⟨h0, h1, h2, h3, h4, h5, h6, h7, h8, h9⟩ := (unhide HH1).c10.1
  have hl := (unhide HH1).2
  go_wp2_with fail
  refine (unhide DI _).mono ?_
  rintro e w' ⟨rfl, hw⟩
  obtain rfl := hw.symm
  clear hw
  go_wp2_with fail
  refine (unhide DT _).mono ?_
  rintro e w' ⟨rfl, hw⟩
  obtain rfl := hw.symm
  clear hw
  go_wp2_with fail
  refine (unhide DL _).mono ?_
  rintro e w' ⟨rfl, hw⟩
  obtain rfl := hw.symm
  clear hw
  go_wp2
  exact bodyPost_ret (v := .tuple #[.int .i64 0, .bool false, .int .i64 1]) (by simp [results, Tryz.results70, go_sem]) rfl ⟨rfl, (by  exact (by (repeat' (first | exact Below.refl _ _ | refine Below.alloc ?_ ?_ _ | refine Below.setCell ?_ ?_ _ | refine Below.drew ?_ | refine Below.trans ?_ (Below.mono (unhide HB1) ?_))); all_goals (first | exact Nat.le_refl _ | omega | (simp; done) | (simp; omega))))⟩
set_option maxHeartbeats 3200000 in
set_option maxRecDepth 8000 in
theorem r2ans_life (ep key old a te ta tt tg ke kn ku kg : Int) (s : ByteArray) (n now life : Int) (w : World) (DR : Hid (∀ w : World, Calls Tryz.prog 93 #[.agg #[.int .i64 ep, .int .i64 key, .int .i64 old]] w fun e w' => e = .returned (.int .i64 0) ∧ Below w.heap.size w w')) (DI : Hid (∀ w : World, Calls Tryz.prog 94 #[.int .i64 a] w fun e w' => e = .returned (.bool true) ∧ w' = w)) (DT : Hid (∀ w : World, Calls Tryz.prog 44 #[.int .i64 now] w fun e w' => e = .returned (.bool true) ∧ w' = w)) (DL : Hid (∀ w : World, Calls Tryz.prog 44 #[.int .i64 life] w fun e w' => e = .returned (.bool false) ∧ w' = w)) :
    Calls Tryz.prog 70 #[.agg #[.int .i64 ep, .int .i64 key, .int .i64 old], .agg #[.int .i64 a, .int .i64 te, .int .i64 ta, .int .i64 tt, .int .i64 tg, .int .i64 ke, .int .i64 kn, .int .i64 ku, .int .i64 kg, .string s], .int .i64 n, .int .i64 now, .int .i64 life] w fun e w' => e = .returned (.tuple #[.int .i64 0, .bool false, .int .i64 1]) ∧ Below w.heap.size w w' := by
  go_enter Tryz.func70, Tryz.ntmps70
  go_wp2_with fail
  refine (unhide DR _).mono ?_
  rintro e w1 ⟨rfl, hb1⟩
  have HR1 : Hid (Held w1 (w.heap.size) (n3 ep key old)) := hide (((Held.fresh (w := w) (n3 ep key old) 56 (by first | rfl | (simp; done))).later (by (repeat' (first | exact Below.refl _ _ | refine Below.alloc ?_ ?_ _ | refine Below.setCell ?_ ?_ _ | refine Below.drew ?_)); all_goals (first | exact Nat.le_refl _ | omega | (simp; done) | (simp; omega)))).later hb1)
  have HH1 : Hid (Held w1 (w.heap.size + 1) (nh a te ta tt tg ke kn ku kg s)) := hide (((Held.fresh (w := w.alloc (.cells (n3 ep key old).toArray 56)) (nh a te ta tt tg ke kn ku kg s) 73 (by first | rfl | (simp; done))).later (by (repeat' (first | exact Below.refl _ _ | refine Below.alloc ?_ ?_ _ | refine Below.setCell ?_ ?_ _ | refine Below.drew ?_)); all_goals (first | exact Nat.le_refl _ | omega | (simp; done) | (simp; omega)))).later hb1)
  have HB1 := hide (show Below w.heap.size w w1 from Below.trans (by (repeat' (first | exact Below.refl _ _ | refine Below.alloc ?_ ?_ _ | refine Below.setCell ?_ ?_ _ | refine Below.drew ?_)); all_goals (first | exact Nat.le_refl _ | omega | (simp; done) | (simp; omega))) (hb1.mono (by first | exact Nat.le_refl _ | (simp; done) | (simp; omega))))
  clear hb1
  obtain ⟨h0, h1, h2, h3, h4, h5, h6, h7, h8, h9⟩ := (unhide HH1).c10.1
  have hl := (unhide HH1).2
  go_wp2_with fail
  refine (unhide DI _).mono ?_
  rintro e w' ⟨rfl, hw⟩
  obtain rfl := hw.symm
  clear hw
  go_wp2_with fail
  refine (unhide DT _).mono ?_
  rintro e w' ⟨rfl, hw⟩
  obtain rfl := hw.symm
  clear hw
  go_wp2_with fail
  refine (unhide DL _).mono ?_
  rintro e w' ⟨rfl, hw⟩
  obtain rfl := hw.symm
  clear hw
  go_wp2
  exact bodyPost_ret (v := .tuple #[.int .i64 0, .bool false, .int .i64 1]) (by simp [results, Tryz.results70, go_sem]) rfl ⟨rfl, (by  exact (by (repeat' (first | exact Below.refl _ _ | refine Below.alloc ?_ ?_ _ | refine Below.setCell ?_ ?_ _ | refine Below.drew ?_ | refine Below.trans ?_ (Below.mono (unhide HB1) ?_))); all_goals (first | exact Nat.le_refl _ | omega | (simp; done) | (simp; omega))))⟩
set_option maxHeartbeats 3200000 in
set_option maxRecDepth 8000 in
theorem r2ans_9 (ep key old a  ke kn ku kg : Int) (s : ByteArray) (n now life x E : Int) (o : Bool) (w : World) (DR : Hid (∀ w : World, Calls Tryz.prog 93 #[.agg #[.int .i64 ep, .int .i64 key, .int .i64 old]] w fun e w' => e = .returned (.int .i64 0) ∧ Below w.heap.size w w')) (DI : Hid (∀ w : World, Calls Tryz.prog 94 #[.int .i64 a] w fun e w' => e = .returned (.bool true) ∧ w' = w)) (DT : Hid (∀ w : World, Calls Tryz.prog 44 #[.int .i64 now] w fun e w' => e = .returned (.bool true) ∧ w' = w)) (DL : Hid (∀ w : World, Calls Tryz.prog 44 #[.int .i64 life] w fun e w' => e = .returned (.bool true) ∧ w' = w)) (DO : Hid (∀ w : World, Calls Tryz.prog 96 #[.agg #[.int .i64 ep, .int .i64 key, .int .i64 old], .agg #[.int .i64 ke, .int .i64 kn, .int .i64 ku, .int .i64 kg], .int .i64 now] w fun e w' => e = .returned (.bool o) ∧ Below w.heap.size w w')) (DN : Hid (∀ w : World, Calls Tryz.prog 97 #[.int .i64 n, .bool false, .bool o] w fun e w' => e = .returned (.tuple #[.int .i64 x, .int .i64 E]) ∧ w' = w)) :
    Calls Tryz.prog 70 #[.agg #[.int .i64 ep, .int .i64 key, .int .i64 old], .agg #[.int .i64 a, .int .i64 0, .int .i64 0, .int .i64 0, .int .i64 0, .int .i64 ke, .int .i64 kn, .int .i64 ku, .int .i64 kg, .string s], .int .i64 n, .int .i64 now, .int .i64 life] w fun e w' => e = .returned (.tuple #[.int .i64 (if E = 0 then x else 0), .bool (decide (E = 0) && (decide (x = 1) && o && JudgeM.mayB s.size)), .int .i64 E]) ∧ Below w.heap.size w w' := by
  have HM := hide (JudgeM.mayB_ways s)
  go_enter Tryz.func70, Tryz.ntmps70
  go_wp2_with fail
  refine (unhide DR _).mono ?_
  rintro e w1 ⟨rfl, hb1⟩
  have HR1 : Hid (Held w1 (w.heap.size) (n3 ep key old)) := hide (((Held.fresh (w := w) (n3 ep key old) 56 (by first | rfl | (simp; done))).later (by (repeat' (first | exact Below.refl _ _ | refine Below.alloc ?_ ?_ _ | refine Below.setCell ?_ ?_ _ | refine Below.drew ?_)); all_goals (first | exact Nat.le_refl _ | omega | (simp; done) | (simp; omega)))).later hb1)
  have HH1 : Hid (Held w1 (w.heap.size + 1) (nh a 0 0 0 0 ke kn ku kg s)) := hide (((Held.fresh (w := w.alloc (.cells (n3 ep key old).toArray 56)) (nh a 0 0 0 0 ke kn ku kg s) 73 (by first | rfl | (simp; done))).later (by (repeat' (first | exact Below.refl _ _ | refine Below.alloc ?_ ?_ _ | refine Below.setCell ?_ ?_ _ | refine Below.drew ?_)); all_goals (first | exact Nat.le_refl _ | omega | (simp; done) | (simp; omega)))).later hb1)
  have HB1 := hide (show Below w.heap.size w w1 from Below.trans (by (repeat' (first | exact Below.refl _ _ | refine Below.alloc ?_ ?_ _ | refine Below.setCell ?_ ?_ _ | refine Below.drew ?_)); all_goals (first | exact Nat.le_refl _ | omega | (simp; done) | (simp; omega))) (hb1.mono (by first | exact Nat.le_refl _ | (simp; done) | (simp; omega))))
  clear hb1
  obtain ⟨r0, r1, r2⟩ := (unhide HR1).c3.1
  have rl := (unhide HR1).2
  obtain ⟨h0, h1, h2, h3, h4, h5, h6, h7, h8, h9⟩ := (unhide HH1).c10.1
  have hl := (unhide HH1).2
  go_wp2_with fail
  refine (unhide DI _).mono ?_
  rintro e w' ⟨rfl, hw⟩
  obtain rfl := hw.symm
  clear hw
  go_wp2_with fail
  refine (unhide DT _).mono ?_
  rintro e w' ⟨rfl, hw⟩
  obtain rfl := hw.symm
  clear hw
  go_wp2_with fail
  refine (unhide DL _).mono ?_
  rintro e w' ⟨rfl, hw⟩
  obtain rfl := hw.symm
  clear hw
  go_wp2_with fail
  refine (unhide DO _).mono ?_
  rintro e w2 ⟨rfl, hb2⟩
  clear r0 r1 r2 rl h0 h1 h2 h3 h4 h5 h6 h7 h8 h9 hl
  have HR2 := hide (((unhide HR1).later (by (repeat' (first | exact Below.refl _ _ | refine Below.alloc ?_ ?_ _ | refine Below.setCell ?_ ?_ _ | refine Below.drew ?_)); all_goals (first | exact Nat.le_refl _ | omega | (simp; done) | (simp; omega)))).later hb2)
  have HH2 := hide (((unhide HH1).later (by (repeat' (first | exact Below.refl _ _ | refine Below.alloc ?_ ?_ _ | refine Below.setCell ?_ ?_ _ | refine Below.drew ?_)); all_goals (first | exact Nat.le_refl _ | omega | (simp; done) | (simp; omega)))).later hb2)
  have HB2 := hide (show Below w.heap.size w w2 from (by have := (unhide HB1).size; exact Below.trans (by (repeat' (first | exact Below.refl _ _ | refine Below.alloc ?_ ?_ _ | refine Below.setCell ?_ ?_ _ | refine Below.drew ?_ | refine Below.trans ?_ (Below.mono (unhide HB1) ?_))); all_goals (first | exact Nat.le_refl _ | omega | (simp; done) | (simp; omega))) (hb2.mono (by first | omega | (simp; done) | (simp; omega)))))
  clear hb2
  obtain ⟨h0, h1, h2, h3, h4, h5, h6, h7, h8, h9⟩ := (unhide HH2).c10.1
  have hl := (unhide HH2).2
  go_wp2_with fail
  refine (unhide DN _).mono ?_
  rintro e w' ⟨rfl, hw⟩
  obtain rfl := hw.symm
  clear hw
  by_cases hE : E = 0
  · subst hE
    by_cases hx : x = 1
    · subst hx
      cases o
      · go_wp2
        go_quiet (fail)
        go_wp2
        exact bodyPost_ret (v := .tuple #[.int .i64 1, .bool false, .int .i64 0]) (by simp [results, Tryz.results70, go_sem]) rfl ⟨by simp [], below_drewN (by have := (unhide HB1).size; exact (by (repeat' (first | exact Below.refl _ _ | refine Below.alloc ?_ ?_ _ | refine Below.setCell ?_ ?_ _ | refine Below.drew ?_ | refine Below.trans ?_ (Below.mono (unhide HB2) ?_))); all_goals (first | exact Nat.le_refl _ | omega | (simp; done) | (simp; omega)))) _⟩
      · rcases unhide HM with ⟨m0, m1⟩ | ⟨m0, m1, m2, m3⟩ | ⟨m0, m1, m2, m3⟩
        · obtain rfl := m1
          clear m0 HM
          go_wp2
          go_quiet (fail)
          go_wp2
          exact bodyPost_ret (v := .tuple #[.int .i64 1, .bool false, .int .i64 0]) (by simp [results, Tryz.results70, go_sem]) rfl ⟨by simp [JudgeM.mayB], below_drewN (by have := (unhide HB1).size; exact (by (repeat' (first | exact Below.refl _ _ | refine Below.alloc ?_ ?_ _ | refine Below.setCell ?_ ?_ _ | refine Below.drew ?_ | refine Below.trans ?_ (Below.mono (unhide HB2) ?_))); all_goals (first | exact Nat.le_refl _ | omega | (simp; done) | (simp; omega)))) _⟩
        · have HM1 := hide m3
          clear m3
          go_wp2
          go_quiet (fail)
          go_wp2
          exact bodyPost_ret (v := .tuple #[.int .i64 1, .bool true, .int .i64 0]) (by simp [results, Tryz.results70, go_sem]) rfl ⟨by simp [unhide HM1], below_drewN (by have := (unhide HB1).size; exact (by (repeat' (first | exact Below.refl _ _ | refine Below.alloc ?_ ?_ _ | refine Below.setCell ?_ ?_ _ | refine Below.drew ?_ | refine Below.trans ?_ (Below.mono (unhide HB2) ?_))); all_goals (first | exact Nat.le_refl _ | omega | (simp; done) | (simp; omega)))) _⟩
        · have HM1 := hide m3
          clear m3
          go_wp2
          go_quiet (fail)
          go_wp2
          exact bodyPost_ret (v := .tuple #[.int .i64 1, .bool false, .int .i64 0]) (by simp [results, Tryz.results70, go_sem]; omega) rfl ⟨by simp [unhide HM1], below_drewN (by have := (unhide HB1).size; exact (by (repeat' (first | exact Below.refl _ _ | refine Below.alloc ?_ ?_ _ | refine Below.setCell ?_ ?_ _ | refine Below.drew ?_ | refine Below.trans ?_ (Below.mono (unhide HB2) ?_))); all_goals (first | exact Nat.le_refl _ | omega | (simp; done) | (simp; omega)))) _⟩
    · have hx' := beq_no hx
      go_wp2
      go_quiet (fail)
      go_wp2
      exact bodyPost_ret (v := .tuple #[.int .i64 x, .bool false, .int .i64 0]) (by simp [results, Tryz.results70, go_sem]) rfl ⟨by simp [], below_drewN (by have := (unhide HB1).size; exact (by (repeat' (first | exact Below.refl _ _ | refine Below.alloc ?_ ?_ _ | refine Below.setCell ?_ ?_ _ | refine Below.drew ?_ | refine Below.trans ?_ (Below.mono (unhide HB2) ?_))); all_goals (first | exact Nat.le_refl _ | omega | (simp; done) | (simp; omega)))) _⟩
  · have hE' := beq_no hE
    go_wp2
    exact bodyPost_ret (v := .tuple #[.int .i64 0, .bool false, .int .i64 E]) (by simp [results, Tryz.results70, go_sem]) rfl ⟨by simp [], (by have := (unhide HB1).size; exact (by (repeat' (first | exact Below.refl _ _ | refine Below.alloc ?_ ?_ _ | refine Below.setCell ?_ ?_ _ | refine Below.drew ?_ | refine Below.trans ?_ (Below.mono (unhide HB2) ?_))); all_goals (first | exact Nat.le_refl _ | omega | (simp; done) | (simp; omega))))⟩
set_option maxHeartbeats 3200000 in
set_option maxRecDepth 8000 in
theorem r2ans_0 (ep key old a te ta tt tg ke kn ku kg : Int) (s : ByteArray) (n now life c x E : Int) (o : Bool) (w : World) (h : ¬ te = 0) (DR : Hid (∀ w : World, Calls Tryz.prog 93 #[.agg #[.int .i64 ep, .int .i64 key, .int .i64 old]] w fun e w' => e = .returned (.int .i64 0) ∧ Below w.heap.size w w')) (DI : Hid (∀ w : World, Calls Tryz.prog 94 #[.int .i64 a] w fun e w' => e = .returned (.bool true) ∧ w' = w)) (DT : Hid (∀ w : World, Calls Tryz.prog 44 #[.int .i64 now] w fun e w' => e = .returned (.bool true) ∧ w' = w)) (DL : Hid (∀ w : World, Calls Tryz.prog 44 #[.int .i64 life] w fun e w' => e = .returned (.bool true) ∧ w' = w)) (DK : Hid (∀ w : World, Calls Tryz.prog 95 #[.agg #[.int .i64 ep, .int .i64 key, .int .i64 old], .agg #[.int .i64 te, .int .i64 ta, .int .i64 tt, .int .i64 tg], .int .i64 a, .int .i64 now, .int .i64 life] w fun e w' => e = .returned (.int .i64 c) ∧ Below w.heap.size w w')) (DO : Hid (∀ w : World, Calls Tryz.prog 96 #[.agg #[.int .i64 ep, .int .i64 key, .int .i64 old], .agg #[.int .i64 ke, .int .i64 kn, .int .i64 ku, .int .i64 kg], .int .i64 now] w fun e w' => e = .returned (.bool o) ∧ Below w.heap.size w w')) (DN : Hid (∀ w : World, Calls Tryz.prog 97 #[.int .i64 n, .bool (decide (c = 0)), .bool o] w fun e w' => e = .returned (.tuple #[.int .i64 x, .int .i64 E]) ∧ w' = w)) :
    Calls Tryz.prog 70 #[.agg #[.int .i64 ep, .int .i64 key, .int .i64 old], .agg #[.int .i64 a, .int .i64 te, .int .i64 ta, .int .i64 tt, .int .i64 tg, .int .i64 ke, .int .i64 kn, .int .i64 ku, .int .i64 kg, .string s], .int .i64 n, .int .i64 now, .int .i64 life] w fun e w' => e = .returned (.tuple #[.int .i64 (if E = 0 then x else 0), .bool (decide (E = 0) && (decide (x = 1) && o && JudgeM.mayB s.size)), .int .i64 E]) ∧ Below w.heap.size w w' := by
  have h' := beq_no h
  have HM := hide (JudgeM.mayB_ways s)
  go_enter Tryz.func70, Tryz.ntmps70
  go_wp2_with fail
  refine (unhide DR _).mono ?_
  rintro e w1 ⟨rfl, hb1⟩
  have HR1 : Hid (Held w1 (w.heap.size) (n3 ep key old)) := hide (((Held.fresh (w := w) (n3 ep key old) 56 (by first | rfl | (simp; done))).later (by (repeat' (first | exact Below.refl _ _ | refine Below.alloc ?_ ?_ _ | refine Below.setCell ?_ ?_ _ | refine Below.drew ?_)); all_goals (first | exact Nat.le_refl _ | omega | (simp; done) | (simp; omega)))).later hb1)
  have HH1 : Hid (Held w1 (w.heap.size + 1) (nh a te ta tt tg ke kn ku kg s)) := hide (((Held.fresh (w := w.alloc (.cells (n3 ep key old).toArray 56)) (nh a te ta tt tg ke kn ku kg s) 73 (by first | rfl | (simp; done))).later (by (repeat' (first | exact Below.refl _ _ | refine Below.alloc ?_ ?_ _ | refine Below.setCell ?_ ?_ _ | refine Below.drew ?_)); all_goals (first | exact Nat.le_refl _ | omega | (simp; done) | (simp; omega)))).later hb1)
  have HB1 := hide (show Below w.heap.size w w1 from Below.trans (by (repeat' (first | exact Below.refl _ _ | refine Below.alloc ?_ ?_ _ | refine Below.setCell ?_ ?_ _ | refine Below.drew ?_)); all_goals (first | exact Nat.le_refl _ | omega | (simp; done) | (simp; omega))) (hb1.mono (by first | exact Nat.le_refl _ | (simp; done) | (simp; omega))))
  clear hb1
  obtain ⟨r0, r1, r2⟩ := (unhide HR1).c3.1
  have rl := (unhide HR1).2
  obtain ⟨h0, h1, h2, h3, h4, h5, h6, h7, h8, h9⟩ := (unhide HH1).c10.1
  have hl := (unhide HH1).2
  go_wp2_with fail
  refine (unhide DI _).mono ?_
  rintro e w' ⟨rfl, hw⟩
  obtain rfl := hw.symm
  clear hw
  go_wp2_with fail
  refine (unhide DT _).mono ?_
  rintro e w' ⟨rfl, hw⟩
  obtain rfl := hw.symm
  clear hw
  go_wp2_with fail
  refine (unhide DL _).mono ?_
  rintro e w' ⟨rfl, hw⟩
  obtain rfl := hw.symm
  clear hw
  go_wp2_with fail
  refine (unhide DK _).mono ?_
  rintro e w2 ⟨rfl, hb2⟩
  clear r0 r1 r2 rl h0 h1 h2 h3 h4 h5 h6 h7 h8 h9 hl
  have HR2 := hide (((unhide HR1).later (by (repeat' (first | exact Below.refl _ _ | refine Below.alloc ?_ ?_ _ | refine Below.setCell ?_ ?_ _ | refine Below.drew ?_)); all_goals (first | exact Nat.le_refl _ | omega | (simp; done) | (simp; omega)))).later hb2)
  have HH2 := hide (((unhide HH1).later (by (repeat' (first | exact Below.refl _ _ | refine Below.alloc ?_ ?_ _ | refine Below.setCell ?_ ?_ _ | refine Below.drew ?_)); all_goals (first | exact Nat.le_refl _ | omega | (simp; done) | (simp; omega)))).later hb2)
  have HN2 : Hid (Held w2 (w1.heap.size) (n4 0 0 0 0)) := hide (((Held.fresh (w := w1) (n4 0 0 0 0) 69 (by first | rfl | (simp; done))).later (by (repeat' (first | exact Below.refl _ _ | refine Below.alloc ?_ ?_ _ | refine Below.setCell ?_ ?_ _ | refine Below.drew ?_)); all_goals (first | exact Nat.le_refl _ | omega | (simp; done) | (simp; omega)))).later hb2)
  have HB2 := hide (show Below w.heap.size w w2 from (by have := (unhide HB1).size; exact Below.trans (by (repeat' (first | exact Below.refl _ _ | refine Below.alloc ?_ ?_ _ | refine Below.setCell ?_ ?_ _ | refine Below.drew ?_ | refine Below.trans ?_ (Below.mono (unhide HB1) ?_))); all_goals (first | exact Nat.le_refl _ | omega | (simp; done) | (simp; omega))) (hb2.mono (by first | omega | (simp; done) | (simp; omega)))))
  clear hb2
  obtain ⟨r0, r1, r2⟩ := (unhide HR2).c3.1
  have rl := (unhide HR2).2
  obtain ⟨h0, h1, h2, h3, h4, h5, h6, h7, h8, h9⟩ := (unhide HH2).c10.1
  have hl := (unhide HH2).2
  go_wp2_with fail
  refine (unhide DO _).mono ?_
  rintro e w3 ⟨rfl, hb3⟩
  clear r0 r1 r2 rl h0 h1 h2 h3 h4 h5 h6 h7 h8 h9 hl
  have HR3 := hide (((unhide HR2).later (by (repeat' (first | exact Below.refl _ _ | refine Below.alloc ?_ ?_ _ | refine Below.setCell ?_ ?_ _ | refine Below.drew ?_)); all_goals (first | exact Nat.le_refl _ | omega | (simp; done) | (simp; omega)))).later hb3)
  have HH3 := hide (((unhide HH2).later (by (repeat' (first | exact Below.refl _ _ | refine Below.alloc ?_ ?_ _ | refine Below.setCell ?_ ?_ _ | refine Below.drew ?_)); all_goals (first | exact Nat.le_refl _ | omega | (simp; done) | (simp; omega)))).later hb3)
  have HN3 := hide (((unhide HN2).later (by (repeat' (first | exact Below.refl _ _ | refine Below.alloc ?_ ?_ _ | refine Below.setCell ?_ ?_ _ | refine Below.drew ?_)); all_goals (first | exact Nat.le_refl _ | omega | (simp; done) | (simp; omega)))).later hb3)
  have HB3 := hide (show Below w.heap.size w w3 from (by have := (unhide HB2).size; exact Below.trans (by (repeat' (first | exact Below.refl _ _ | refine Below.alloc ?_ ?_ _ | refine Below.setCell ?_ ?_ _ | refine Below.drew ?_ | refine Below.trans ?_ (Below.mono (unhide HB2) ?_))); all_goals (first | exact Nat.le_refl _ | omega | (simp; done) | (simp; omega))) (hb3.mono (by first | omega | (simp; done) | (simp; omega)))))
  clear hb3
  obtain ⟨h0, h1, h2, h3, h4, h5, h6, h7, h8, h9⟩ := (unhide HH3).c10.1
  have hl := (unhide HH3).2
  go_wp2_with fail
  refine (unhide DN _).mono ?_
  rintro e w' ⟨rfl, hw⟩
  obtain rfl := hw.symm
  clear hw
  by_cases hE : E = 0
  · subst hE
    by_cases hx : x = 1
    · subst hx
      cases o
      · go_wp2
        go_quiet (fail)
        go_wp2
        exact bodyPost_ret (v := .tuple #[.int .i64 1, .bool false, .int .i64 0]) (by simp [results, Tryz.results70, go_sem]) rfl ⟨by simp [], below_drewN (by have := (unhide HB1).size; have := (unhide HB2).size; exact (by (repeat' (first | exact Below.refl _ _ | refine Below.alloc ?_ ?_ _ | refine Below.setCell ?_ ?_ _ | refine Below.drew ?_ | refine Below.trans ?_ (Below.mono (unhide HB3) ?_))); all_goals (first | exact Nat.le_refl _ | omega | (simp; done) | (simp; omega)))) _⟩
      · rcases unhide HM with ⟨m0, m1⟩ | ⟨m0, m1, m2, m3⟩ | ⟨m0, m1, m2, m3⟩
        · obtain rfl := m1
          clear m0 HM
          go_wp2
          go_quiet (fail)
          go_wp2
          exact bodyPost_ret (v := .tuple #[.int .i64 1, .bool false, .int .i64 0]) (by simp [results, Tryz.results70, go_sem]) rfl ⟨by simp [JudgeM.mayB], below_drewN (by have := (unhide HB1).size; have := (unhide HB2).size; exact (by (repeat' (first | exact Below.refl _ _ | refine Below.alloc ?_ ?_ _ | refine Below.setCell ?_ ?_ _ | refine Below.drew ?_ | refine Below.trans ?_ (Below.mono (unhide HB3) ?_))); all_goals (first | exact Nat.le_refl _ | omega | (simp; done) | (simp; omega)))) _⟩
        · have HM1 := hide m3
          clear m3
          go_wp2
          go_quiet (fail)
          go_wp2
          exact bodyPost_ret (v := .tuple #[.int .i64 1, .bool true, .int .i64 0]) (by simp [results, Tryz.results70, go_sem]) rfl ⟨by simp [unhide HM1], below_drewN (by have := (unhide HB1).size; have := (unhide HB2).size; exact (by (repeat' (first | exact Below.refl _ _ | refine Below.alloc ?_ ?_ _ | refine Below.setCell ?_ ?_ _ | refine Below.drew ?_ | refine Below.trans ?_ (Below.mono (unhide HB3) ?_))); all_goals (first | exact Nat.le_refl _ | omega | (simp; done) | (simp; omega)))) _⟩
        · have HM1 := hide m3
          clear m3
          go_wp2
          go_quiet (fail)
          go_wp2
          exact bodyPost_ret (v := .tuple #[.int .i64 1, .bool false, .int .i64 0]) (by simp [results, Tryz.results70, go_sem]; omega) rfl ⟨by simp [unhide HM1], below_drewN (by have := (unhide HB1).size; have := (unhide HB2).size; exact (by (repeat' (first | exact Below.refl _ _ | refine Below.alloc ?_ ?_ _ | refine Below.setCell ?_ ?_ _ | refine Below.drew ?_ | refine Below.trans ?_ (Below.mono (unhide HB3) ?_))); all_goals (first | exact Nat.le_refl _ | omega | (simp; done) | (simp; omega)))) _⟩
    · have hx' := beq_no hx
      go_wp2
      go_quiet (fail)
      go_wp2
      exact bodyPost_ret (v := .tuple #[.int .i64 x, .bool false, .int .i64 0]) (by simp [results, Tryz.results70, go_sem]) rfl ⟨by simp [], below_drewN (by have := (unhide HB1).size; have := (unhide HB2).size; exact (by (repeat' (first | exact Below.refl _ _ | refine Below.alloc ?_ ?_ _ | refine Below.setCell ?_ ?_ _ | refine Below.drew ?_ | refine Below.trans ?_ (Below.mono (unhide HB3) ?_))); all_goals (first | exact Nat.le_refl _ | omega | (simp; done) | (simp; omega)))) _⟩
  · have hE' := beq_no hE
    go_wp2
    exact bodyPost_ret (v := .tuple #[.int .i64 0, .bool false, .int .i64 E]) (by simp [results, Tryz.results70, go_sem]) rfl ⟨by simp [], (by have := (unhide HB1).size; have := (unhide HB2).size; exact (by (repeat' (first | exact Below.refl _ _ | refine Below.alloc ?_ ?_ _ | refine Below.setCell ?_ ?_ _ | refine Below.drew ?_ | refine Below.trans ?_ (Below.mono (unhide HB3) ?_))); all_goals (first | exact Nat.le_refl _ | omega | (simp; done) | (simp; omega))))⟩
set_option maxHeartbeats 3200000 in
set_option maxRecDepth 8000 in
theorem r2ans_1 (ep key old a ta tt tg ke kn ku kg : Int) (s : ByteArray) (n now life c x E : Int) (o : Bool) (w : World) (h : ¬ ta = 0) (DR : Hid (∀ w : World, Calls Tryz.prog 93 #[.agg #[.int .i64 ep, .int .i64 key, .int .i64 old]] w fun e w' => e = .returned (.int .i64 0) ∧ Below w.heap.size w w')) (DI : Hid (∀ w : World, Calls Tryz.prog 94 #[.int .i64 a] w fun e w' => e = .returned (.bool true) ∧ w' = w)) (DT : Hid (∀ w : World, Calls Tryz.prog 44 #[.int .i64 now] w fun e w' => e = .returned (.bool true) ∧ w' = w)) (DL : Hid (∀ w : World, Calls Tryz.prog 44 #[.int .i64 life] w fun e w' => e = .returned (.bool true) ∧ w' = w)) (DK : Hid (∀ w : World, Calls Tryz.prog 95 #[.agg #[.int .i64 ep, .int .i64 key, .int .i64 old], .agg #[.int .i64 0, .int .i64 ta, .int .i64 tt, .int .i64 tg], .int .i64 a, .int .i64 now, .int .i64 life] w fun e w' => e = .returned (.int .i64 c) ∧ Below w.heap.size w w')) (DO : Hid (∀ w : World, Calls Tryz.prog 96 #[.agg #[.int .i64 ep, .int .i64 key, .int .i64 old], .agg #[.int .i64 ke, .int .i64 kn, .int .i64 ku, .int .i64 kg], .int .i64 now] w fun e w' => e = .returned (.bool o) ∧ Below w.heap.size w w')) (DN : Hid (∀ w : World, Calls Tryz.prog 97 #[.int .i64 n, .bool (decide (c = 0)), .bool o] w fun e w' => e = .returned (.tuple #[.int .i64 x, .int .i64 E]) ∧ w' = w)) :
    Calls Tryz.prog 70 #[.agg #[.int .i64 ep, .int .i64 key, .int .i64 old], .agg #[.int .i64 a, .int .i64 0, .int .i64 ta, .int .i64 tt, .int .i64 tg, .int .i64 ke, .int .i64 kn, .int .i64 ku, .int .i64 kg, .string s], .int .i64 n, .int .i64 now, .int .i64 life] w fun e w' => e = .returned (.tuple #[.int .i64 (if E = 0 then x else 0), .bool (decide (E = 0) && (decide (x = 1) && o && JudgeM.mayB s.size)), .int .i64 E]) ∧ Below w.heap.size w w' := by
  have h' := beq_no h
  have HM := hide (JudgeM.mayB_ways s)
  go_enter Tryz.func70, Tryz.ntmps70
  go_wp2_with fail
  refine (unhide DR _).mono ?_
  rintro e w1 ⟨rfl, hb1⟩
  have HR1 : Hid (Held w1 (w.heap.size) (n3 ep key old)) := hide (((Held.fresh (w := w) (n3 ep key old) 56 (by first | rfl | (simp; done))).later (by (repeat' (first | exact Below.refl _ _ | refine Below.alloc ?_ ?_ _ | refine Below.setCell ?_ ?_ _ | refine Below.drew ?_)); all_goals (first | exact Nat.le_refl _ | omega | (simp; done) | (simp; omega)))).later hb1)
  have HH1 : Hid (Held w1 (w.heap.size + 1) (nh a 0 ta tt tg ke kn ku kg s)) := hide (((Held.fresh (w := w.alloc (.cells (n3 ep key old).toArray 56)) (nh a 0 ta tt tg ke kn ku kg s) 73 (by first | rfl | (simp; done))).later (by (repeat' (first | exact Below.refl _ _ | refine Below.alloc ?_ ?_ _ | refine Below.setCell ?_ ?_ _ | refine Below.drew ?_)); all_goals (first | exact Nat.le_refl _ | omega | (simp; done) | (simp; omega)))).later hb1)
  have HB1 := hide (show Below w.heap.size w w1 from Below.trans (by (repeat' (first | exact Below.refl _ _ | refine Below.alloc ?_ ?_ _ | refine Below.setCell ?_ ?_ _ | refine Below.drew ?_)); all_goals (first | exact Nat.le_refl _ | omega | (simp; done) | (simp; omega))) (hb1.mono (by first | exact Nat.le_refl _ | (simp; done) | (simp; omega))))
  clear hb1
  obtain ⟨r0, r1, r2⟩ := (unhide HR1).c3.1
  have rl := (unhide HR1).2
  obtain ⟨h0, h1, h2, h3, h4, h5, h6, h7, h8, h9⟩ := (unhide HH1).c10.1
  have hl := (unhide HH1).2
  go_wp2_with fail
  refine (unhide DI _).mono ?_
  rintro e w' ⟨rfl, hw⟩
  obtain rfl := hw.symm
  clear hw
  go_wp2_with fail
  refine (unhide DT _).mono ?_
  rintro e w' ⟨rfl, hw⟩
  obtain rfl := hw.symm
  clear hw
  go_wp2_with fail
  refine (unhide DL _).mono ?_
  rintro e w' ⟨rfl, hw⟩
  obtain rfl := hw.symm
  clear hw
  go_wp2_with fail
  refine (unhide DK _).mono ?_
  rintro e w2 ⟨rfl, hb2⟩
  clear r0 r1 r2 rl h0 h1 h2 h3 h4 h5 h6 h7 h8 h9 hl
  have HR2 := hide (((unhide HR1).later (by (repeat' (first | exact Below.refl _ _ | refine Below.alloc ?_ ?_ _ | refine Below.setCell ?_ ?_ _ | refine Below.drew ?_)); all_goals (first | exact Nat.le_refl _ | omega | (simp; done) | (simp; omega)))).later hb2)
  have HH2 := hide (((unhide HH1).later (by (repeat' (first | exact Below.refl _ _ | refine Below.alloc ?_ ?_ _ | refine Below.setCell ?_ ?_ _ | refine Below.drew ?_)); all_goals (first | exact Nat.le_refl _ | omega | (simp; done) | (simp; omega)))).later hb2)
  have HN2 : Hid (Held w2 (w1.heap.size) (n4 0 0 0 0)) := hide (((Held.fresh (w := w1) (n4 0 0 0 0) 69 (by first | rfl | (simp; done))).later (by (repeat' (first | exact Below.refl _ _ | refine Below.alloc ?_ ?_ _ | refine Below.setCell ?_ ?_ _ | refine Below.drew ?_)); all_goals (first | exact Nat.le_refl _ | omega | (simp; done) | (simp; omega)))).later hb2)
  have HB2 := hide (show Below w.heap.size w w2 from (by have := (unhide HB1).size; exact Below.trans (by (repeat' (first | exact Below.refl _ _ | refine Below.alloc ?_ ?_ _ | refine Below.setCell ?_ ?_ _ | refine Below.drew ?_ | refine Below.trans ?_ (Below.mono (unhide HB1) ?_))); all_goals (first | exact Nat.le_refl _ | omega | (simp; done) | (simp; omega))) (hb2.mono (by first | omega | (simp; done) | (simp; omega)))))
  clear hb2
  obtain ⟨r0, r1, r2⟩ := (unhide HR2).c3.1
  have rl := (unhide HR2).2
  obtain ⟨h0, h1, h2, h3, h4, h5, h6, h7, h8, h9⟩ := (unhide HH2).c10.1
  have hl := (unhide HH2).2
  go_wp2_with fail
  refine (unhide DO _).mono ?_
  rintro e w3 ⟨rfl, hb3⟩
  clear r0 r1 r2 rl h0 h1 h2 h3 h4 h5 h6 h7 h8 h9 hl
  have HR3 := hide (((unhide HR2).later (by (repeat' (first | exact Below.refl _ _ | refine Below.alloc ?_ ?_ _ | refine Below.setCell ?_ ?_ _ | refine Below.drew ?_)); all_goals (first | exact Nat.le_refl _ | omega | (simp; done) | (simp; omega)))).later hb3)
  have HH3 := hide (((unhide HH2).later (by (repeat' (first | exact Below.refl _ _ | refine Below.alloc ?_ ?_ _ | refine Below.setCell ?_ ?_ _ | refine Below.drew ?_)); all_goals (first | exact Nat.le_refl _ | omega | (simp; done) | (simp; omega)))).later hb3)
  have HN3 := hide (((unhide HN2).later (by (repeat' (first | exact Below.refl _ _ | refine Below.alloc ?_ ?_ _ | refine Below.setCell ?_ ?_ _ | refine Below.drew ?_)); all_goals (first | exact Nat.le_refl _ | omega | (simp; done) | (simp; omega)))).later hb3)
  have HB3 := hide (show Below w.heap.size w w3 from (by have := (unhide HB2).size; exact Below.trans (by (repeat' (first | exact Below.refl _ _ | refine Below.alloc ?_ ?_ _ | refine Below.setCell ?_ ?_ _ | refine Below.drew ?_ | refine Below.trans ?_ (Below.mono (unhide HB2) ?_))); all_goals (first | exact Nat.le_refl _ | omega | (simp; done) | (simp; omega))) (hb3.mono (by first | omega | (simp; done) | (simp; omega)))))
  clear hb3
  obtain ⟨h0, h1, h2, h3, h4, h5, h6, h7, h8, h9⟩ := (unhide HH3).c10.1
  have hl := (unhide HH3).2
  go_wp2_with fail
  refine (unhide DN _).mono ?_
  rintro e w' ⟨rfl, hw⟩
  obtain rfl := hw.symm
  clear hw
  by_cases hE : E = 0
  · subst hE
    by_cases hx : x = 1
    · subst hx
      cases o
      · go_wp2
        go_quiet (fail)
        go_wp2
        exact bodyPost_ret (v := .tuple #[.int .i64 1, .bool false, .int .i64 0]) (by simp [results, Tryz.results70, go_sem]) rfl ⟨by simp [], below_drewN (by have := (unhide HB1).size; have := (unhide HB2).size; exact (by (repeat' (first | exact Below.refl _ _ | refine Below.alloc ?_ ?_ _ | refine Below.setCell ?_ ?_ _ | refine Below.drew ?_ | refine Below.trans ?_ (Below.mono (unhide HB3) ?_))); all_goals (first | exact Nat.le_refl _ | omega | (simp; done) | (simp; omega)))) _⟩
      · rcases unhide HM with ⟨m0, m1⟩ | ⟨m0, m1, m2, m3⟩ | ⟨m0, m1, m2, m3⟩
        · obtain rfl := m1
          clear m0 HM
          go_wp2
          go_quiet (fail)
          go_wp2
          exact bodyPost_ret (v := .tuple #[.int .i64 1, .bool false, .int .i64 0]) (by simp [results, Tryz.results70, go_sem]) rfl ⟨by simp [JudgeM.mayB], below_drewN (by have := (unhide HB1).size; have := (unhide HB2).size; exact (by (repeat' (first | exact Below.refl _ _ | refine Below.alloc ?_ ?_ _ | refine Below.setCell ?_ ?_ _ | refine Below.drew ?_ | refine Below.trans ?_ (Below.mono (unhide HB3) ?_))); all_goals (first | exact Nat.le_refl _ | omega | (simp; done) | (simp; omega)))) _⟩
        · have HM1 := hide m3
          clear m3
          go_wp2
          go_quiet (fail)
          go_wp2
          exact bodyPost_ret (v := .tuple #[.int .i64 1, .bool true, .int .i64 0]) (by simp [results, Tryz.results70, go_sem]) rfl ⟨by simp [unhide HM1], below_drewN (by have := (unhide HB1).size; have := (unhide HB2).size; exact (by (repeat' (first | exact Below.refl _ _ | refine Below.alloc ?_ ?_ _ | refine Below.setCell ?_ ?_ _ | refine Below.drew ?_ | refine Below.trans ?_ (Below.mono (unhide HB3) ?_))); all_goals (first | exact Nat.le_refl _ | omega | (simp; done) | (simp; omega)))) _⟩
        · have HM1 := hide m3
          clear m3
          go_wp2
          go_quiet (fail)
          go_wp2
          exact bodyPost_ret (v := .tuple #[.int .i64 1, .bool false, .int .i64 0]) (by simp [results, Tryz.results70, go_sem]; omega) rfl ⟨by simp [unhide HM1], below_drewN (by have := (unhide HB1).size; have := (unhide HB2).size; exact (by (repeat' (first | exact Below.refl _ _ | refine Below.alloc ?_ ?_ _ | refine Below.setCell ?_ ?_ _ | refine Below.drew ?_ | refine Below.trans ?_ (Below.mono (unhide HB3) ?_))); all_goals (first | exact Nat.le_refl _ | omega | (simp; done) | (simp; omega)))) _⟩
    · have hx' := beq_no hx
      go_wp2
      go_quiet (fail)
      go_wp2
      exact bodyPost_ret (v := .tuple #[.int .i64 x, .bool false, .int .i64 0]) (by simp [results, Tryz.results70, go_sem]) rfl ⟨by simp [], below_drewN (by have := (unhide HB1).size; have := (unhide HB2).size; exact (by (repeat' (first | exact Below.refl _ _ | refine Below.alloc ?_ ?_ _ | refine Below.setCell ?_ ?_ _ | refine Below.drew ?_ | refine Below.trans ?_ (Below.mono (unhide HB3) ?_))); all_goals (first | exact Nat.le_refl _ | omega | (simp; done) | (simp; omega)))) _⟩
  · have hE' := beq_no hE
    go_wp2
    exact bodyPost_ret (v := .tuple #[.int .i64 0, .bool false, .int .i64 E]) (by simp [results, Tryz.results70, go_sem]) rfl ⟨by simp [], (by have := (unhide HB1).size; have := (unhide HB2).size; exact (by (repeat' (first | exact Below.refl _ _ | refine Below.alloc ?_ ?_ _ | refine Below.setCell ?_ ?_ _ | refine Below.drew ?_ | refine Below.trans ?_ (Below.mono (unhide HB3) ?_))); all_goals (first | exact Nat.le_refl _ | omega | (simp; done) | (simp; omega))))⟩
set_option maxHeartbeats 3200000 in
set_option maxRecDepth 8000 in
theorem r2ans_2 (ep key old a tt tg ke kn ku kg : Int) (s : ByteArray) (n now life c x E : Int) (o : Bool) (w : World) (h : ¬ tt = 0) (DR : Hid (∀ w : World, Calls Tryz.prog 93 #[.agg #[.int .i64 ep, .int .i64 key, .int .i64 old]] w fun e w' => e = .returned (.int .i64 0) ∧ Below w.heap.size w w')) (DI : Hid (∀ w : World, Calls Tryz.prog 94 #[.int .i64 a] w fun e w' => e = .returned (.bool true) ∧ w' = w)) (DT : Hid (∀ w : World, Calls Tryz.prog 44 #[.int .i64 now] w fun e w' => e = .returned (.bool true) ∧ w' = w)) (DL : Hid (∀ w : World, Calls Tryz.prog 44 #[.int .i64 life] w fun e w' => e = .returned (.bool true) ∧ w' = w)) (DK : Hid (∀ w : World, Calls Tryz.prog 95 #[.agg #[.int .i64 ep, .int .i64 key, .int .i64 old], .agg #[.int .i64 0, .int .i64 0, .int .i64 tt, .int .i64 tg], .int .i64 a, .int .i64 now, .int .i64 life] w fun e w' => e = .returned (.int .i64 c) ∧ Below w.heap.size w w')) (DO : Hid (∀ w : World, Calls Tryz.prog 96 #[.agg #[.int .i64 ep, .int .i64 key, .int .i64 old], .agg #[.int .i64 ke, .int .i64 kn, .int .i64 ku, .int .i64 kg], .int .i64 now] w fun e w' => e = .returned (.bool o) ∧ Below w.heap.size w w')) (DN : Hid (∀ w : World, Calls Tryz.prog 97 #[.int .i64 n, .bool (decide (c = 0)), .bool o] w fun e w' => e = .returned (.tuple #[.int .i64 x, .int .i64 E]) ∧ w' = w)) :
    Calls Tryz.prog 70 #[.agg #[.int .i64 ep, .int .i64 key, .int .i64 old], .agg #[.int .i64 a, .int .i64 0, .int .i64 0, .int .i64 tt, .int .i64 tg, .int .i64 ke, .int .i64 kn, .int .i64 ku, .int .i64 kg, .string s], .int .i64 n, .int .i64 now, .int .i64 life] w fun e w' => e = .returned (.tuple #[.int .i64 (if E = 0 then x else 0), .bool (decide (E = 0) && (decide (x = 1) && o && JudgeM.mayB s.size)), .int .i64 E]) ∧ Below w.heap.size w w' := by
  have h' := beq_no h
  have HM := hide (JudgeM.mayB_ways s)
  go_enter Tryz.func70, Tryz.ntmps70
  go_wp2_with fail
  refine (unhide DR _).mono ?_
  rintro e w1 ⟨rfl, hb1⟩
  have HR1 : Hid (Held w1 (w.heap.size) (n3 ep key old)) := hide (((Held.fresh (w := w) (n3 ep key old) 56 (by first | rfl | (simp; done))).later (by (repeat' (first | exact Below.refl _ _ | refine Below.alloc ?_ ?_ _ | refine Below.setCell ?_ ?_ _ | refine Below.drew ?_)); all_goals (first | exact Nat.le_refl _ | omega | (simp; done) | (simp; omega)))).later hb1)
  have HH1 : Hid (Held w1 (w.heap.size + 1) (nh a 0 0 tt tg ke kn ku kg s)) := hide (((Held.fresh (w := w.alloc (.cells (n3 ep key old).toArray 56)) (nh a 0 0 tt tg ke kn ku kg s) 73 (by first | rfl | (simp; done))).later (by (repeat' (first | exact Below.refl _ _ | refine Below.alloc ?_ ?_ _ | refine Below.setCell ?_ ?_ _ | refine Below.drew ?_)); all_goals (first | exact Nat.le_refl _ | omega | (simp; done) | (simp; omega)))).later hb1)
  have HB1 := hide (show Below w.heap.size w w1 from Below.trans (by (repeat' (first | exact Below.refl _ _ | refine Below.alloc ?_ ?_ _ | refine Below.setCell ?_ ?_ _ | refine Below.drew ?_)); all_goals (first | exact Nat.le_refl _ | omega | (simp; done) | (simp; omega))) (hb1.mono (by first | exact Nat.le_refl _ | (simp; done) | (simp; omega))))
  clear hb1
  obtain ⟨r0, r1, r2⟩ := (unhide HR1).c3.1
  have rl := (unhide HR1).2
  obtain ⟨h0, h1, h2, h3, h4, h5, h6, h7, h8, h9⟩ := (unhide HH1).c10.1
  have hl := (unhide HH1).2
  go_wp2_with fail
  refine (unhide DI _).mono ?_
  rintro e w' ⟨rfl, hw⟩
  obtain rfl := hw.symm
  clear hw
  go_wp2_with fail
  refine (unhide DT _).mono ?_
  rintro e w' ⟨rfl, hw⟩
  obtain rfl := hw.symm
  clear hw
  go_wp2_with fail
  refine (unhide DL _).mono ?_
  rintro e w' ⟨rfl, hw⟩
  obtain rfl := hw.symm
  clear hw
  go_wp2_with fail
  refine (unhide DK _).mono ?_
  rintro e w2 ⟨rfl, hb2⟩
  clear r0 r1 r2 rl h0 h1 h2 h3 h4 h5 h6 h7 h8 h9 hl
  have HR2 := hide (((unhide HR1).later (by (repeat' (first | exact Below.refl _ _ | refine Below.alloc ?_ ?_ _ | refine Below.setCell ?_ ?_ _ | refine Below.drew ?_)); all_goals (first | exact Nat.le_refl _ | omega | (simp; done) | (simp; omega)))).later hb2)
  have HH2 := hide (((unhide HH1).later (by (repeat' (first | exact Below.refl _ _ | refine Below.alloc ?_ ?_ _ | refine Below.setCell ?_ ?_ _ | refine Below.drew ?_)); all_goals (first | exact Nat.le_refl _ | omega | (simp; done) | (simp; omega)))).later hb2)
  have HN2 : Hid (Held w2 (w1.heap.size) (n4 0 0 0 0)) := hide (((Held.fresh (w := w1) (n4 0 0 0 0) 69 (by first | rfl | (simp; done))).later (by (repeat' (first | exact Below.refl _ _ | refine Below.alloc ?_ ?_ _ | refine Below.setCell ?_ ?_ _ | refine Below.drew ?_)); all_goals (first | exact Nat.le_refl _ | omega | (simp; done) | (simp; omega)))).later hb2)
  have HB2 := hide (show Below w.heap.size w w2 from (by have := (unhide HB1).size; exact Below.trans (by (repeat' (first | exact Below.refl _ _ | refine Below.alloc ?_ ?_ _ | refine Below.setCell ?_ ?_ _ | refine Below.drew ?_ | refine Below.trans ?_ (Below.mono (unhide HB1) ?_))); all_goals (first | exact Nat.le_refl _ | omega | (simp; done) | (simp; omega))) (hb2.mono (by first | omega | (simp; done) | (simp; omega)))))
  clear hb2
  obtain ⟨r0, r1, r2⟩ := (unhide HR2).c3.1
  have rl := (unhide HR2).2
  obtain ⟨h0, h1, h2, h3, h4, h5, h6, h7, h8, h9⟩ := (unhide HH2).c10.1
  have hl := (unhide HH2).2
  go_wp2_with fail
  refine (unhide DO _).mono ?_
  rintro e w3 ⟨rfl, hb3⟩
  clear r0 r1 r2 rl h0 h1 h2 h3 h4 h5 h6 h7 h8 h9 hl
  have HR3 := hide (((unhide HR2).later (by (repeat' (first | exact Below.refl _ _ | refine Below.alloc ?_ ?_ _ | refine Below.setCell ?_ ?_ _ | refine Below.drew ?_)); all_goals (first | exact Nat.le_refl _ | omega | (simp; done) | (simp; omega)))).later hb3)
  have HH3 := hide (((unhide HH2).later (by (repeat' (first | exact Below.refl _ _ | refine Below.alloc ?_ ?_ _ | refine Below.setCell ?_ ?_ _ | refine Below.drew ?_)); all_goals (first | exact Nat.le_refl _ | omega | (simp; done) | (simp; omega)))).later hb3)
  have HN3 := hide (((unhide HN2).later (by (repeat' (first | exact Below.refl _ _ | refine Below.alloc ?_ ?_ _ | refine Below.setCell ?_ ?_ _ | refine Below.drew ?_)); all_goals (first | exact Nat.le_refl _ | omega | (simp; done) | (simp; omega)))).later hb3)
  have HB3 := hide (show Below w.heap.size w w3 from (by have := (unhide HB2).size; exact Below.trans (by (repeat' (first | exact Below.refl _ _ | refine Below.alloc ?_ ?_ _ | refine Below.setCell ?_ ?_ _ | refine Below.drew ?_ | refine Below.trans ?_ (Below.mono (unhide HB2) ?_))); all_goals (first | exact Nat.le_refl _ | omega | (simp; done) | (simp; omega))) (hb3.mono (by first | omega | (simp; done) | (simp; omega)))))
  clear hb3
  obtain ⟨h0, h1, h2, h3, h4, h5, h6, h7, h8, h9⟩ := (unhide HH3).c10.1
  have hl := (unhide HH3).2
  go_wp2_with fail
  refine (unhide DN _).mono ?_
  rintro e w' ⟨rfl, hw⟩
  obtain rfl := hw.symm
  clear hw
  by_cases hE : E = 0
  · subst hE
    by_cases hx : x = 1
    · subst hx
      cases o
      · go_wp2
        go_quiet (fail)
        go_wp2
        exact bodyPost_ret (v := .tuple #[.int .i64 1, .bool false, .int .i64 0]) (by simp [results, Tryz.results70, go_sem]) rfl ⟨by simp [], below_drewN (by have := (unhide HB1).size; have := (unhide HB2).size; exact (by (repeat' (first | exact Below.refl _ _ | refine Below.alloc ?_ ?_ _ | refine Below.setCell ?_ ?_ _ | refine Below.drew ?_ | refine Below.trans ?_ (Below.mono (unhide HB3) ?_))); all_goals (first | exact Nat.le_refl _ | omega | (simp; done) | (simp; omega)))) _⟩
      · rcases unhide HM with ⟨m0, m1⟩ | ⟨m0, m1, m2, m3⟩ | ⟨m0, m1, m2, m3⟩
        · obtain rfl := m1
          clear m0 HM
          go_wp2
          go_quiet (fail)
          go_wp2
          exact bodyPost_ret (v := .tuple #[.int .i64 1, .bool false, .int .i64 0]) (by simp [results, Tryz.results70, go_sem]) rfl ⟨by simp [JudgeM.mayB], below_drewN (by have := (unhide HB1).size; have := (unhide HB2).size; exact (by (repeat' (first | exact Below.refl _ _ | refine Below.alloc ?_ ?_ _ | refine Below.setCell ?_ ?_ _ | refine Below.drew ?_ | refine Below.trans ?_ (Below.mono (unhide HB3) ?_))); all_goals (first | exact Nat.le_refl _ | omega | (simp; done) | (simp; omega)))) _⟩
        · have HM1 := hide m3
          clear m3
          go_wp2
          go_quiet (fail)
          go_wp2
          exact bodyPost_ret (v := .tuple #[.int .i64 1, .bool true, .int .i64 0]) (by simp [results, Tryz.results70, go_sem]) rfl ⟨by simp [unhide HM1], below_drewN (by have := (unhide HB1).size; have := (unhide HB2).size; exact (by (repeat' (first | exact Below.refl _ _ | refine Below.alloc ?_ ?_ _ | refine Below.setCell ?_ ?_ _ | refine Below.drew ?_ | refine Below.trans ?_ (Below.mono (unhide HB3) ?_))); all_goals (first | exact Nat.le_refl _ | omega | (simp; done) | (simp; omega)))) _⟩
        · have HM1 := hide m3
          clear m3
          go_wp2
          go_quiet (fail)
          go_wp2
          exact bodyPost_ret (v := .tuple #[.int .i64 1, .bool false, .int .i64 0]) (by simp [results, Tryz.results70, go_sem]; omega) rfl ⟨by simp [unhide HM1], below_drewN (by have := (unhide HB1).size; have := (unhide HB2).size; exact (by (repeat' (first | exact Below.refl _ _ | refine Below.alloc ?_ ?_ _ | refine Below.setCell ?_ ?_ _ | refine Below.drew ?_ | refine Below.trans ?_ (Below.mono (unhide HB3) ?_))); all_goals (first | exact Nat.le_refl _ | omega | (simp; done) | (simp; omega)))) _⟩
    · have hx' := beq_no hx
      go_wp2
      go_quiet (fail)
      go_wp2
      exact bodyPost_ret (v := .tuple #[.int .i64 x, .bool false, .int .i64 0]) (by simp [results, Tryz.results70, go_sem]) rfl ⟨by simp [], below_drewN (by have := (unhide HB1).size; have := (unhide HB2).size; exact (by (repeat' (first | exact Below.refl _ _ | refine Below.alloc ?_ ?_ _ | refine Below.setCell ?_ ?_ _ | refine Below.drew ?_ | refine Below.trans ?_ (Below.mono (unhide HB3) ?_))); all_goals (first | exact Nat.le_refl _ | omega | (simp; done) | (simp; omega)))) _⟩
  · have hE' := beq_no hE
    go_wp2
    exact bodyPost_ret (v := .tuple #[.int .i64 0, .bool false, .int .i64 E]) (by simp [results, Tryz.results70, go_sem]) rfl ⟨by simp [], (by have := (unhide HB1).size; have := (unhide HB2).size; exact (by (repeat' (first | exact Below.refl _ _ | refine Below.alloc ?_ ?_ _ | refine Below.setCell ?_ ?_ _ | refine Below.drew ?_ | refine Below.trans ?_ (Below.mono (unhide HB3) ?_))); all_goals (first | exact Nat.le_refl _ | omega | (simp; done) | (simp; omega))))⟩
set_option maxHeartbeats 3200000 in
set_option maxRecDepth 8000 in
theorem r2ans_3 (ep key old a tg ke kn ku kg : Int) (s : ByteArray) (n now life c x E : Int) (o : Bool) (w : World) (h : ¬ tg = 0) (DR : Hid (∀ w : World, Calls Tryz.prog 93 #[.agg #[.int .i64 ep, .int .i64 key, .int .i64 old]] w fun e w' => e = .returned (.int .i64 0) ∧ Below w.heap.size w w')) (DI : Hid (∀ w : World, Calls Tryz.prog 94 #[.int .i64 a] w fun e w' => e = .returned (.bool true) ∧ w' = w)) (DT : Hid (∀ w : World, Calls Tryz.prog 44 #[.int .i64 now] w fun e w' => e = .returned (.bool true) ∧ w' = w)) (DL : Hid (∀ w : World, Calls Tryz.prog 44 #[.int .i64 life] w fun e w' => e = .returned (.bool true) ∧ w' = w)) (DK : Hid (∀ w : World, Calls Tryz.prog 95 #[.agg #[.int .i64 ep, .int .i64 key, .int .i64 old], .agg #[.int .i64 0, .int .i64 0, .int .i64 0, .int .i64 tg], .int .i64 a, .int .i64 now, .int .i64 life] w fun e w' => e = .returned (.int .i64 c) ∧ Below w.heap.size w w')) (DO : Hid (∀ w : World, Calls Tryz.prog 96 #[.agg #[.int .i64 ep, .int .i64 key, .int .i64 old], .agg #[.int .i64 ke, .int .i64 kn, .int .i64 ku, .int .i64 kg], .int .i64 now] w fun e w' => e = .returned (.bool o) ∧ Below w.heap.size w w')) (DN : Hid (∀ w : World, Calls Tryz.prog 97 #[.int .i64 n, .bool (decide (c = 0)), .bool o] w fun e w' => e = .returned (.tuple #[.int .i64 x, .int .i64 E]) ∧ w' = w)) :
    Calls Tryz.prog 70 #[.agg #[.int .i64 ep, .int .i64 key, .int .i64 old], .agg #[.int .i64 a, .int .i64 0, .int .i64 0, .int .i64 0, .int .i64 tg, .int .i64 ke, .int .i64 kn, .int .i64 ku, .int .i64 kg, .string s], .int .i64 n, .int .i64 now, .int .i64 life] w fun e w' => e = .returned (.tuple #[.int .i64 (if E = 0 then x else 0), .bool (decide (E = 0) && (decide (x = 1) && o && JudgeM.mayB s.size)), .int .i64 E]) ∧ Below w.heap.size w w' := by
  have h' := beq_no h
  have HM := hide (JudgeM.mayB_ways s)
  go_enter Tryz.func70, Tryz.ntmps70
  go_wp2_with fail
  refine (unhide DR _).mono ?_
  rintro e w1 ⟨rfl, hb1⟩
  have HR1 : Hid (Held w1 (w.heap.size) (n3 ep key old)) := hide (((Held.fresh (w := w) (n3 ep key old) 56 (by first | rfl | (simp; done))).later (by (repeat' (first | exact Below.refl _ _ | refine Below.alloc ?_ ?_ _ | refine Below.setCell ?_ ?_ _ | refine Below.drew ?_)); all_goals (first | exact Nat.le_refl _ | omega | (simp; done) | (simp; omega)))).later hb1)
  have HH1 : Hid (Held w1 (w.heap.size + 1) (nh a 0 0 0 tg ke kn ku kg s)) := hide (((Held.fresh (w := w.alloc (.cells (n3 ep key old).toArray 56)) (nh a 0 0 0 tg ke kn ku kg s) 73 (by first | rfl | (simp; done))).later (by (repeat' (first | exact Below.refl _ _ | refine Below.alloc ?_ ?_ _ | refine Below.setCell ?_ ?_ _ | refine Below.drew ?_)); all_goals (first | exact Nat.le_refl _ | omega | (simp; done) | (simp; omega)))).later hb1)
  have HB1 := hide (show Below w.heap.size w w1 from Below.trans (by (repeat' (first | exact Below.refl _ _ | refine Below.alloc ?_ ?_ _ | refine Below.setCell ?_ ?_ _ | refine Below.drew ?_)); all_goals (first | exact Nat.le_refl _ | omega | (simp; done) | (simp; omega))) (hb1.mono (by first | exact Nat.le_refl _ | (simp; done) | (simp; omega))))
  clear hb1
  obtain ⟨r0, r1, r2⟩ := (unhide HR1).c3.1
  have rl := (unhide HR1).2
  obtain ⟨h0, h1, h2, h3, h4, h5, h6, h7, h8, h9⟩ := (unhide HH1).c10.1
  have hl := (unhide HH1).2
  go_wp2_with fail
  refine (unhide DI _).mono ?_
  rintro e w' ⟨rfl, hw⟩
  obtain rfl := hw.symm
  clear hw
  go_wp2_with fail
  refine (unhide DT _).mono ?_
  rintro e w' ⟨rfl, hw⟩
  obtain rfl := hw.symm
  clear hw
  go_wp2_with fail
  refine (unhide DL _).mono ?_
  rintro e w' ⟨rfl, hw⟩
  obtain rfl := hw.symm
  clear hw
  go_wp2_with fail
  refine (unhide DK _).mono ?_
  rintro e w2 ⟨rfl, hb2⟩
  clear r0 r1 r2 rl h0 h1 h2 h3 h4 h5 h6 h7 h8 h9 hl
  have HR2 := hide (((unhide HR1).later (by (repeat' (first | exact Below.refl _ _ | refine Below.alloc ?_ ?_ _ | refine Below.setCell ?_ ?_ _ | refine Below.drew ?_)); all_goals (first | exact Nat.le_refl _ | omega | (simp; done) | (simp; omega)))).later hb2)
  have HH2 := hide (((unhide HH1).later (by (repeat' (first | exact Below.refl _ _ | refine Below.alloc ?_ ?_ _ | refine Below.setCell ?_ ?_ _ | refine Below.drew ?_)); all_goals (first | exact Nat.le_refl _ | omega | (simp; done) | (simp; omega)))).later hb2)
  have HN2 : Hid (Held w2 (w1.heap.size) (n4 0 0 0 0)) := hide (((Held.fresh (w := w1) (n4 0 0 0 0) 69 (by first | rfl | (simp; done))).later (by (repeat' (first | exact Below.refl _ _ | refine Below.alloc ?_ ?_ _ | refine Below.setCell ?_ ?_ _ | refine Below.drew ?_)); all_goals (first | exact Nat.le_refl _ | omega | (simp; done) | (simp; omega)))).later hb2)
  have HB2 := hide (show Below w.heap.size w w2 from (by have := (unhide HB1).size; exact Below.trans (by (repeat' (first | exact Below.refl _ _ | refine Below.alloc ?_ ?_ _ | refine Below.setCell ?_ ?_ _ | refine Below.drew ?_ | refine Below.trans ?_ (Below.mono (unhide HB1) ?_))); all_goals (first | exact Nat.le_refl _ | omega | (simp; done) | (simp; omega))) (hb2.mono (by first | omega | (simp; done) | (simp; omega)))))
  clear hb2
  obtain ⟨r0, r1, r2⟩ := (unhide HR2).c3.1
  have rl := (unhide HR2).2
  obtain ⟨h0, h1, h2, h3, h4, h5, h6, h7, h8, h9⟩ := (unhide HH2).c10.1
  have hl := (unhide HH2).2
  go_wp2_with fail
  refine (unhide DO _).mono ?_
  rintro e w3 ⟨rfl, hb3⟩
  clear r0 r1 r2 rl h0 h1 h2 h3 h4 h5 h6 h7 h8 h9 hl
  have HR3 := hide (((unhide HR2).later (by (repeat' (first | exact Below.refl _ _ | refine Below.alloc ?_ ?_ _ | refine Below.setCell ?_ ?_ _ | refine Below.drew ?_)); all_goals (first | exact Nat.le_refl _ | omega | (simp; done) | (simp; omega)))).later hb3)
  have HH3 := hide (((unhide HH2).later (by (repeat' (first | exact Below.refl _ _ | refine Below.alloc ?_ ?_ _ | refine Below.setCell ?_ ?_ _ | refine Below.drew ?_)); all_goals (first | exact Nat.le_refl _ | omega | (simp; done) | (simp; omega)))).later hb3)
  have HN3 := hide (((unhide HN2).later (by (repeat' (first | exact Below.refl _ _ | refine Below.alloc ?_ ?_ _ | refine Below.setCell ?_ ?_ _ | refine Below.drew ?_)); all_goals (first | exact Nat.le_refl _ | omega | (simp; done) | (simp; omega)))).later hb3)
  have HB3 := hide (show Below w.heap.size w w3 from (by have := (unhide HB2).size; exact Below.trans (by (repeat' (first | exact Below.refl _ _ | refine Below.alloc ?_ ?_ _ | refine Below.setCell ?_ ?_ _ | refine Below.drew ?_ | refine Below.trans ?_ (Below.mono (unhide HB2) ?_))); all_goals (first | exact Nat.le_refl _ | omega | (simp; done) | (simp; omega))) (hb3.mono (by first | omega | (simp; done) | (simp; omega)))))
  clear hb3
  obtain ⟨h0, h1, h2, h3, h4, h5, h6, h7, h8, h9⟩ := (unhide HH3).c10.1
  have hl := (unhide HH3).2
  go_wp2_with fail
  refine (unhide DN _).mono ?_
  rintro e w' ⟨rfl, hw⟩
  obtain rfl := hw.symm
  clear hw
  by_cases hE : E = 0
  · subst hE
    by_cases hx : x = 1
    · subst hx
      cases o
      · go_wp2
        go_quiet (fail)
        go_wp2
        exact bodyPost_ret (v := .tuple #[.int .i64 1, .bool false, .int .i64 0]) (by simp [results, Tryz.results70, go_sem]) rfl ⟨by simp [], below_drewN (by have := (unhide HB1).size; have := (unhide HB2).size; exact (by (repeat' (first | exact Below.refl _ _ | refine Below.alloc ?_ ?_ _ | refine Below.setCell ?_ ?_ _ | refine Below.drew ?_ | refine Below.trans ?_ (Below.mono (unhide HB3) ?_))); all_goals (first | exact Nat.le_refl _ | omega | (simp; done) | (simp; omega)))) _⟩
      · rcases unhide HM with ⟨m0, m1⟩ | ⟨m0, m1, m2, m3⟩ | ⟨m0, m1, m2, m3⟩
        · obtain rfl := m1
          clear m0 HM
          go_wp2
          go_quiet (fail)
          go_wp2
          exact bodyPost_ret (v := .tuple #[.int .i64 1, .bool false, .int .i64 0]) (by simp [results, Tryz.results70, go_sem]) rfl ⟨by simp [JudgeM.mayB], below_drewN (by have := (unhide HB1).size; have := (unhide HB2).size; exact (by (repeat' (first | exact Below.refl _ _ | refine Below.alloc ?_ ?_ _ | refine Below.setCell ?_ ?_ _ | refine Below.drew ?_ | refine Below.trans ?_ (Below.mono (unhide HB3) ?_))); all_goals (first | exact Nat.le_refl _ | omega | (simp; done) | (simp; omega)))) _⟩
        · have HM1 := hide m3
          clear m3
          go_wp2
          go_quiet (fail)
          go_wp2
          exact bodyPost_ret (v := .tuple #[.int .i64 1, .bool true, .int .i64 0]) (by simp [results, Tryz.results70, go_sem]) rfl ⟨by simp [unhide HM1], below_drewN (by have := (unhide HB1).size; have := (unhide HB2).size; exact (by (repeat' (first | exact Below.refl _ _ | refine Below.alloc ?_ ?_ _ | refine Below.setCell ?_ ?_ _ | refine Below.drew ?_ | refine Below.trans ?_ (Below.mono (unhide HB3) ?_))); all_goals (first | exact Nat.le_refl _ | omega | (simp; done) | (simp; omega)))) _⟩
        · have HM1 := hide m3
          clear m3
          go_wp2
          go_quiet (fail)
          go_wp2
          exact bodyPost_ret (v := .tuple #[.int .i64 1, .bool false, .int .i64 0]) (by simp [results, Tryz.results70, go_sem]; omega) rfl ⟨by simp [unhide HM1], below_drewN (by have := (unhide HB1).size; have := (unhide HB2).size; exact (by (repeat' (first | exact Below.refl _ _ | refine Below.alloc ?_ ?_ _ | refine Below.setCell ?_ ?_ _ | refine Below.drew ?_ | refine Below.trans ?_ (Below.mono (unhide HB3) ?_))); all_goals (first | exact Nat.le_refl _ | omega | (simp; done) | (simp; omega)))) _⟩
    · have hx' := beq_no hx
      go_wp2
      go_quiet (fail)
      go_wp2
      exact bodyPost_ret (v := .tuple #[.int .i64 x, .bool false, .int .i64 0]) (by simp [results, Tryz.results70, go_sem]) rfl ⟨by simp [], below_drewN (by have := (unhide HB1).size; have := (unhide HB2).size; exact (by (repeat' (first | exact Below.refl _ _ | refine Below.alloc ?_ ?_ _ | refine Below.setCell ?_ ?_ _ | refine Below.drew ?_ | refine Below.trans ?_ (Below.mono (unhide HB3) ?_))); all_goals (first | exact Nat.le_refl _ | omega | (simp; done) | (simp; omega)))) _⟩
  · have hE' := beq_no hE
    go_wp2
    exact bodyPost_ret (v := .tuple #[.int .i64 0, .bool false, .int .i64 E]) (by simp [results, Tryz.results70, go_sem]) rfl ⟨by simp [], (by have := (unhide HB1).size; have := (unhide HB2).size; exact (by (repeat' (first | exact Below.refl _ _ | refine Below.alloc ?_ ?_ _ | refine Below.setCell ?_ ?_ _ | refine Below.drew ?_ | refine Below.trans ?_ (Below.mono (unhide HB3) ?_))); all_goals (first | exact Nat.le_refl _ | omega | (simp; done) | (simp; omega))))⟩
theorem r2ans_any (ep key old a te ta tt tg ke kn ku kg : Int) (s : ByteArray) (n now life : Int) (w : World) :
    Calls Tryz.prog 70 #[.agg #[.int .i64 ep, .int .i64 key, .int .i64 old], .agg #[.int .i64 a, .int .i64 te, .int .i64 ta, .int .i64 tt, .int .i64 tg, .int .i64 ke, .int .i64 kn, .int .i64 ku, .int .i64 kg, .string s], .int .i64 n, .int .i64 now, .int .i64 life] w fun e w' => e = .returned (.tuple #[.int .i64 (JudgeM.kind ep key old a te ta tt tg ke kn ku kg n now life), .bool (JudgeM.may ep key old a te ta tt tg ke kn ku kg s.size n now life), .int .i64 (JudgeM.ansErr ep key old a n now life)]) ∧ Below w.heap.size w w' := by
  have DR := hide (ref_ring ep key old)
  by_cases he : RingM.err ep key old = 0
  · rw [he] at DR
    have DI := hide (in_any a)
    have DT := hide (rtime_any now)
    have DL := hide (rtime_any life)
    by_cases hok : (TagM.inB a && TokenM.timeB now && TokenM.timeB life) = true
    · have hs : JudgeM.ansErr ep key old a n now life = LoadM.err n := JudgeM.ans_load he hok
      simp only [Bool.and_eq_true] at hok
      obtain ⟨⟨ha, ht⟩, hl⟩ := hok
      rw [ha] at DI
      rw [ht] at DT
      rw [hl] at DL
      have DO := hide (r2old_any ep key old ke kn ku kg now)
      have DN := hide (rneeds_any n (JudgeM.shownB ep key old te ta tt tg a now life) (JudgeM.rightB ep key old ke kn ku kg now))
      unfold JudgeM.may JudgeM.kind
      rw [hs]
      suffices hg : Calls Tryz.prog 70 #[.agg #[.int .i64 ep, .int .i64 key, .int .i64 old], .agg #[.int .i64 a, .int .i64 te, .int .i64 ta, .int .i64 tt, .int .i64 tg, .int .i64 ke, .int .i64 kn, .int .i64 ku, .int .i64 kg, .string s], .int .i64 n, .int .i64 now, .int .i64 life] w fun e w' => e = .returned (.tuple #[.int .i64 (if LoadM.err n = 0 then LoadM.kind n (JudgeM.shownB ep key old te ta tt tg a now life) (JudgeM.rightB ep key old ke kn ku kg now) else 0), .bool (decide (LoadM.err n = 0) && (decide (LoadM.kind n (JudgeM.shownB ep key old te ta tt tg a now life) (JudgeM.rightB ep key old ke kn ku kg now) = 1) && JudgeM.rightB ep key old ke kn ku kg now && JudgeM.mayB s.size)), .int .i64 (LoadM.err n)]) ∧ Below w.heap.size w w' by
        by_cases hE : LoadM.err n = 0
        · simpa [hE] using hg
        · simpa [hE] using hg
      unfold JudgeM.shownB at DN ⊢
      by_cases hn : JudgeM.noneB te ta tt tg = true
      · rw [hn] at DN ⊢
        obtain ⟨rfl, rfl, rfl, rfl⟩ := JudgeM.noneB_iff.1 hn
        simp only [Bool.not_true, Bool.false_and] at DN ⊢
        exact r2ans_9 ep key old a ke kn ku kg s n now life _ _ _ w DR DI DT DL DO DN
      · have hn' : JudgeM.noneB te ta tt tg = false := by simpa using hn
        rw [hn'] at DN ⊢
        simp only [Bool.not_false, Bool.true_and] at DN ⊢
        have DK := hide (ref_token_any ep key old te ta tt tg a now life)
        rcases JudgeM.some4 hn' with h | ⟨rfl, h⟩ | ⟨rfl, rfl, h⟩ | ⟨rfl, rfl, rfl, h⟩
        · exact r2ans_0 ep key old a te ta tt tg ke kn ku kg s n now life _ _ _ _ w h DR DI DT DL DK DO DN
        · exact r2ans_1 ep key old a ta tt tg ke kn ku kg s n now life _ _ _ _ w h DR DI DT DL DK DO DN
        · exact r2ans_2 ep key old a tt tg ke kn ku kg s n now life _ _ _ _ w h DR DI DT DL DK DO DN
        · exact r2ans_3 ep key old a tg ke kn ku kg s n now life _ _ _ _ w h DR DI DT DL DK DO DN
    · have hok' : (TagM.inB a && TokenM.timeB now && TokenM.timeB life) = false := by simpa using hok
      have h1 : JudgeM.ansErr ep key old a n now life = 1 := JudgeM.ans_range he hok'
      rw [JudgeM.kind_no (by rw [h1]; omega), JudgeM.may_no (by rw [h1]; omega), h1]
      clear hok
      generalize TagM.inB a = p at DI hok'
      generalize TokenM.timeB now = q at DT hok'
      generalize TokenM.timeB life = r at DL hok'
      cases p
      · exact r2ans_addr ep key old a te ta tt tg ke kn ku kg s n now life _ _ w DR DI DT DL
      · cases q
        · exact r2ans_now ep key old a te ta tt tg ke kn ku kg s n now life _ w DR DI DT DL
        · cases r
          · exact r2ans_life ep key old a te ta tt tg ke kn ku kg s n now life w DR DI DT DL
          · exact absurd hok' (by simp)
  · have h1 : JudgeM.ansErr ep key old a n now life = RingM.err ep key old := JudgeM.ans_ring he
    rw [JudgeM.kind_no (by rw [h1]; exact he), JudgeM.may_no (by rw [h1]; exact he), h1]
    exact r2ans_ring ep key old a te ta tt tg ke kn ku kg s n now life _ he w DR

end Go.Proofs.YthaicpepgianpakGreatDoor
