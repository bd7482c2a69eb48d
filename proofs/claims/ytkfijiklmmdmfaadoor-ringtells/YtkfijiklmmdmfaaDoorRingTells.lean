/-
  RingTells holds for every seed, ring and epoch: New, Check, Turn and Key of package ring answer as the reference reckons, errors told by plain.Told. The listed variable errors.errorType starts as the program's text lays it (the card's tie). No other condition.
-/
import Derived.Test.YtkfijiklmmdmfaaDoorRefRing
import Derived.Test.YtkfijiklmmdmfaaDoorRingCells
import Derived.Test.YtkfijiklmmdmfaaDoorTie
import Derived.Test.YtkfijiklmmdmfaaDoorCards
import Derived.ProofKit
import Derived.Lib.SmallJoins
import Derived.LaidMore
import Derived.LaidHandle
import Derived.LaidLaws
import Derived.Stop.Joined
import Derived.SevenTiedAt
namespace Go.Proofs.YtkfijiklmmdmfaaDoor.ringTells
open Go.ChangeShapes Go.WideShapes Go.ChangeAt Go.RowKit Go.Joins
set_option linter.unusedVariables false

theorem own : ownKnob Tryd.prog.godebug = none := by kernel_rfl
theorem laidOut : laidOutB Tryd.prog = true := by kernel_rfl
def IsRow (k : IntKind) (w : World) (a : Option Addr) (len cap : Nat) (zs : List Int) : Prop :=
  (a = none ∧ len = 0 ∧ cap = 0 ∧ zs = []) ∨
  ∃ x, a = some x ∧ len ≤ cap ∧ cap ≤ maxLen ∧ zs.length = cap ∧ (∀ i, i < zs.length → w.cell? (x.add i) = some (.int k (zs.getD i 0))) ∧ ∀ n ∈ zs, (Lit.int k n).wf = true


set_option maxHeartbeats 6400000 in
set_option maxRecDepth 8000 in
theorem walk_in_bad (s ep key old n k0 g : Int) (w : World) (HG : Hid (ErrType w)) (hg0 : ¬ g = 0) 
    (CN : Hid (∀ w : World, Calls Tryd.prog 12 #[.int .i64 s] w fun e w' => e = .returned (.tuple #[.agg #[.int .i64 0, .int .i64 k0, .int .i64 0], errV 0]) ∧ Below w.heap.size w w'))
    (CI : Hid (∀ w : World, Calls Tryd.prog 10 #[.int .i64 s] w fun e w' => e = .returned (.bool true) ∧ w' = w))
    (CR : Hid (∀ w : World, Calls Tryd.prog 13 #[.agg #[.int .i64 ep, .int .i64 key, .int .i64 old]] w fun e w' => e = .returned (.int .i64 g) ∧ Below w.heap.size w w'))
    (CC : Hid (∀ w : World, Calls Tryd.prog 14 #[.agg #[.int .i64 ep, .int .i64 key, .int .i64 old]] w fun e w' => e = .returned (errV g) ∧ Below w.heap.size w w'))
    (CT : Hid (∀ w : World, Calls Tryd.prog 16 #[.agg #[.int .i64 ep, .int .i64 key, .int .i64 old]] w fun e w' => e = .returned (.tuple #[.agg #[.int .i64 0, .int .i64 0, .int .i64 0], errV g]) ∧ Below w.heap.size w w'))
    (CK : Hid (∀ w : World, Calls Tryd.prog 18 #[.agg #[.int .i64 ep, .int .i64 key, .int .i64 old], .int .i64 n] w fun e w' => e = .returned (.tuple #[.int .i64 0, errV g]) ∧ Below w.heap.size w w'))
    (CG : Hid (∀ (b : Nat) (w : World), w.cell? ⟨b, 0, none⟩ = some (.int .i64 0) → Calls Tryd.prog 7 #[.int .i64 s, .slice (some ⟨b, 0, none⟩) 1 1] w fun e w' => e = .returned (.int .i64 k0) ∧ w' = w)) :
    Calls Tryd.prog 4 #[.int .i64 s, .agg #[.int .i64 ep, .int .i64 key, .int .i64 old], .int .i64 n] w fun e w' => e = .returned (.bool true) ∧ Below w.heap.size w w' := by
  have hgb : (g == 0) = false := by simp [hg0]
  go_enter Tryd.func4, Tryd.ntmps4
  go_wp2_with fail
  refine (unhide CI _).mono ?_
  rintro e w' ⟨rfl, rfl⟩
  go_wp2_with fail
  refine (unhide CG _ _ (by first | (simp; done) | (rw [World.cell?_alloc_at _ _ _ _ (by simp)]; rfl))).mono ?_
  rintro e w' ⟨rfl, rfl⟩
  go_wp2_with fail
  refine (unhide CN _).mono ?_
  rintro e w1 ⟨rfl, hb1⟩
  have HR1 : Hid (RingAt w1 w.heap.size ep key old) := hide (((RingAt.fresh _ _ _ _ rfl).later (by (repeat' (first | exact Below.refl _ _ | refine Below.alloc ?_ ?_ _ | refine Below.setCell ?_ ?_ _ | refine Below.drew ?_)); all_goals (first | exact Nat.le_refl _ | omega | (simp; done) | (simp; omega)))).later hb1)
  have HV1 : Hid (RingAt w1 (w.heap.size + 1) 0 k0 0) := hide (((RingAt.fresh (w := w.alloc (.cells #[.int .i64 ep, .int .i64 key, .int .i64 old] 34)) _ _ _ _ (by simp)).later (by (repeat' (first | exact Below.refl _ _ | refine Below.alloc ?_ ?_ _ | refine Below.setCell ?_ ?_ _ | refine Below.drew ?_)); all_goals (first | exact Nat.le_refl _ | omega | (simp; done) | (simp; omega)))).later hb1)
  have z1 := hb1.size
  simp at z1
  have HB1 := hide (show Below w.heap.size w w1 from Below.trans (by (repeat' (first | exact Below.refl _ _ | refine Below.alloc ?_ ?_ _ | refine Below.setCell ?_ ?_ _ | refine Below.drew ?_)); all_goals (first | exact Nat.le_refl _ | omega | (simp; done) | (simp; omega))) (hb1.mono (by simp; omega)))
  clear hb1
  have HZ1 := hide z1
  clear z1
  go_wp2_with fail
  refine (same_any _ _ _ ((unhide HG).later (Below.alloc (unhide HB1) (by have := (unhide HB1).size; omega) _))).mono ?_
  rintro e w2 ⟨rfl, hb2⟩
  have HR2 := hide (((unhide HR1).later (by (repeat' (first | exact Below.refl _ _ | refine Below.alloc ?_ ?_ _ | refine Below.setCell ?_ ?_ _ | refine Below.drew ?_)); all_goals (first | exact Nat.le_refl _ | omega | (simp; done) | (simp; omega)))).later hb2)
  have HV2 := hide (((unhide HV1).later (by (repeat' (first | exact Below.refl _ _ | refine Below.alloc ?_ ?_ _ | refine Below.setCell ?_ ?_ _ | refine Below.drew ?_)); all_goals (first | exact Nat.le_refl _ | omega | (simp; done) | (simp; omega)))).later hb2)
  have HX2 : Hid (RingAt w2 w1.heap.size 0 k0 0) := hide ((RingAt.fresh _ _ _ _ rfl).later hb2)
  have HB2 := hide (show Below w.heap.size w w2 from Below.trans (Below.alloc (unhide HB1) (by have := (unhide HB1).size; omega) _) (hb2.mono (by have := (unhide HB1).size; simp; omega)))
  clear hb2
  obtain ⟨⟨r0, r1, r2⟩, _, _⟩ := unhide HR2
  obtain ⟨⟨v0, v1, v2⟩, ⟨vf0, vf1, vf2⟩, _⟩ := unhide HV2
  obtain ⟨⟨x0, x1, x2⟩, ⟨xf0, xf1, xf2⟩, _⟩ := unhide HX2
  go_wp2_with fail
  refine (unhide CR _).mono ?_
  rintro e w3 ⟨rfl, hb3⟩
  have HR3 := hide ((unhide HR2).later hb3)
  have HV3 := hide ((unhide HV2).later hb3)
  have HX3 := hide ((unhide HX2).later hb3)
  have HB3 := hide (show Below w.heap.size w w3 from Below.trans (unhide HB2) (hb3.mono (unhide HB2).size))
  clear hb3
  clear r0 r1 r2 v0 v1 v2 vf0 vf1 vf2 x0 x1 x2 xf0 xf1 xf2
  obtain ⟨⟨r0, r1, r2⟩, _, _⟩ := unhide HR3
  obtain ⟨⟨v0, v1, v2⟩, ⟨vf0, vf1, vf2⟩, _⟩ := unhide HV3
  obtain ⟨⟨x0, x1, x2⟩, ⟨xf0, xf1, xf2⟩, _⟩ := unhide HX3
  go_wp2_with fail
  refine (unhide CC _).mono ?_
  rintro e w4 ⟨rfl, hb4⟩
  have HR4 := hide ((unhide HR3).later hb4)
  have HV4 := hide ((unhide HV3).later hb4)
  have HX4 := hide ((unhide HX3).later hb4)
  have HB4 := hide (show Below w.heap.size w w4 from Below.trans (unhide HB3) (hb4.mono (unhide HB3).size))
  clear hb4
  clear r0 r1 r2 v0 v1 v2 vf0 vf1 vf2 x0 x1 x2 xf0 xf1 xf2
  obtain ⟨⟨r0, r1, r2⟩, _, _⟩ := unhide HR4
  obtain ⟨⟨v0, v1, v2⟩, ⟨vf0, vf1, vf2⟩, _⟩ := unhide HV4
  obtain ⟨⟨x0, x1, x2⟩, ⟨xf0, xf1, xf2⟩, _⟩ := unhide HX4
  go_wp2_with fail
  refine (same_any _ _ _ ((unhide HG).later (unhide HB4))).mono ?_
  rintro e w5 ⟨rfl, hb5⟩
  have HR5 := hide ((unhide HR4).later hb5)
  have HV5 := hide ((unhide HV4).later hb5)
  have HX5 := hide ((unhide HX4).later hb5)
  have HB5 := hide (show Below w.heap.size w w5 from Below.trans (unhide HB4) (hb5.mono (unhide HB4).size))
  clear hb5
  clear r0 r1 r2 v0 v1 v2 vf0 vf1 vf2 x0 x1 x2 xf0 xf1 xf2
  obtain ⟨⟨r0, r1, r2⟩, _, _⟩ := unhide HR5
  obtain ⟨⟨v0, v1, v2⟩, ⟨vf0, vf1, vf2⟩, _⟩ := unhide HV5
  obtain ⟨⟨x0, x1, x2⟩, ⟨xf0, xf1, xf2⟩, _⟩ := unhide HX5
  have HRs := hide (((((unhide HR5).far (c := w.heap.size + 1) (by have := unhide HZ1; omega) 0 (.int .i64 0)).far (c := w.heap.size + 1) (by have := unhide HZ1; omega) 1 (.int .i64 0)).far (c := w.heap.size + 1) (by have := unhide HZ1; omega) 2 (.int .i64 0)))
  have HVs := hide ((unhide HV5).put 0 0 0)
  have HXs := hide (((((unhide HX5).far (c := w.heap.size + 1) (by have := unhide HZ1; omega) 0 (.int .i64 0)).far (c := w.heap.size + 1) (by have := unhide HZ1; omega) 1 (.int .i64 0)).far (c := w.heap.size + 1) (by have := unhide HZ1; omega) 2 (.int .i64 0)))
  have HBs := hide ((((unhide HB5).setCell (p := ⟨w.heap.size + 1, 0, none⟩) (by have := unhide HZ1; first | omega | (simp; done) | (simp; omega)) (.int .i64 0)).setCell (p := ⟨w.heap.size + 1, 1, none⟩) (by have := unhide HZ1; first | omega | (simp; done) | (simp; omega)) (.int .i64 0)).setCell (p := ⟨w.heap.size + 1, 2, none⟩) (by have := unhide HZ1; first | omega | (simp; done) | (simp; omega)) (.int .i64 0))
  go_wp2_with fail
  refine (unhide CT _).mono ?_
  rintro e w6 ⟨rfl, hb6⟩
  have HR6 := hide ((unhide HRs).later hb6)
  have HV6 := hide ((unhide HVs).later hb6)
  have HX6 := hide ((unhide HXs).later hb6)
  have HB6 := hide (show Below w.heap.size w w6 from Below.trans (unhide HBs) (hb6.mono (unhide HBs).size))
  clear hb6 HRs HVs HXs HBs
  clear r0 r1 r2 v0 v1 v2 vf0 vf1 vf2 x0 x1 x2 xf0 xf1 xf2
  obtain ⟨⟨r0, r1, r2⟩, _, _⟩ := unhide HR6
  obtain ⟨⟨v0, v1, v2⟩, ⟨vf0, vf1, vf2⟩, _⟩ := unhide HV6
  obtain ⟨⟨x0, x1, x2⟩, ⟨xf0, xf1, xf2⟩, _⟩ := unhide HX6
  have HRs := hide (((((unhide HR6).far (c := w1.heap.size) (by have := unhide HZ1; omega) 0 (.int .i64 0)).far (c := w1.heap.size) (by have := unhide HZ1; omega) 1 (.int .i64 0)).far (c := w1.heap.size) (by have := unhide HZ1; omega) 2 (.int .i64 0)))
  have HVs := hide (((((unhide HV6).far (c := w1.heap.size) (by have := unhide HZ1; omega) 0 (.int .i64 0)).far (c := w1.heap.size) (by have := unhide HZ1; omega) 1 (.int .i64 0)).far (c := w1.heap.size) (by have := unhide HZ1; omega) 2 (.int .i64 0)))
  have HXs := hide ((unhide HX6).put 0 0 0)
  have HBs := hide ((((unhide HB6).setCell (p := ⟨w1.heap.size, 0, none⟩) (by have := unhide HZ1; first | omega | (simp; done) | (simp; omega)) (.int .i64 0)).setCell (p := ⟨w1.heap.size, 1, none⟩) (by have := unhide HZ1; first | omega | (simp; done) | (simp; omega)) (.int .i64 0)).setCell (p := ⟨w1.heap.size, 2, none⟩) (by have := unhide HZ1; first | omega | (simp; done) | (simp; omega)) (.int .i64 0))
  go_wp2_with fail
  refine (same_any _ _ _ ((unhide HG).later (unhide HBs))).mono ?_
  rintro e w7 ⟨rfl, hb7⟩
  have HR7 := hide ((unhide HRs).later hb7)
  have HV7 := hide ((unhide HVs).later hb7)
  have HX7 := hide ((unhide HXs).later hb7)
  have HB7 := hide (show Below w.heap.size w w7 from Below.trans (unhide HBs) (hb7.mono (unhide HBs).size))
  clear hb7 HRs HVs HXs HBs
  clear r0 r1 r2 v0 v1 v2 vf0 vf1 vf2 x0 x1 x2 xf0 xf1 xf2
  obtain ⟨⟨r0, r1, r2⟩, _, _⟩ := unhide HR7
  obtain ⟨⟨v0, v1, v2⟩, ⟨vf0, vf1, vf2⟩, _⟩ := unhide HV7
  obtain ⟨⟨x0, x1, x2⟩, ⟨xf0, xf1, xf2⟩, _⟩ := unhide HX7
  go_wp2_with fail
  refine (unhide CK _).mono ?_
  rintro e w8 ⟨rfl, hb8⟩
  have HR8 := hide ((unhide HR7).later hb8)
  have HV8 := hide ((unhide HV7).later hb8)
  have HX8 := hide ((unhide HX7).later hb8)
  have HB8 := hide (show Below w.heap.size w w8 from Below.trans (unhide HB7) (hb8.mono (unhide HB7).size))
  clear hb8
  clear r0 r1 r2 v0 v1 v2 vf0 vf1 vf2 x0 x1 x2 xf0 xf1 xf2
  obtain ⟨⟨r0, r1, r2⟩, _, _⟩ := unhide HR8
  obtain ⟨⟨v0, v1, v2⟩, ⟨vf0, vf1, vf2⟩, _⟩ := unhide HV8
  obtain ⟨⟨x0, x1, x2⟩, ⟨xf0, xf1, xf2⟩, _⟩ := unhide HX8
  go_wp2_with fail
  refine (same_any _ _ _ ((unhide HG).later (unhide HB8))).mono ?_
  rintro e w9 ⟨rfl, hb9⟩
  have HB9 := hide (show Below w.heap.size w w9 from Below.trans (unhide HB8) (hb9.mono (unhide HB8).size))
  clear hb9
  go_wp2
  go_ret
  exact ⟨rfl, unhide HB9⟩

set_option maxHeartbeats 6400000 in
set_option maxRecDepth 8000 in
theorem walk_in_out (s ep key old n k0 x y z te : Int) (w : World) (HG : Hid (ErrType w)) (ho : n < 0 ∨ 100 < n) 
    (CN : Hid (∀ w : World, Calls Tryd.prog 12 #[.int .i64 s] w fun e w' => e = .returned (.tuple #[.agg #[.int .i64 0, .int .i64 k0, .int .i64 0], errV 0]) ∧ Below w.heap.size w w'))
    (CI : Hid (∀ w : World, Calls Tryd.prog 10 #[.int .i64 s] w fun e w' => e = .returned (.bool true) ∧ w' = w))
    (CR : Hid (∀ w : World, Calls Tryd.prog 13 #[.agg #[.int .i64 ep, .int .i64 key, .int .i64 old]] w fun e w' => e = .returned (.int .i64 0) ∧ Below w.heap.size w w'))
    (CC : Hid (∀ w : World, Calls Tryd.prog 14 #[.agg #[.int .i64 ep, .int .i64 key, .int .i64 old]] w fun e w' => e = .returned (errV 0) ∧ Below w.heap.size w w'))
    (CT : Hid (∀ w : World, Calls Tryd.prog 16 #[.agg #[.int .i64 ep, .int .i64 key, .int .i64 old]] w fun e w' => e = .returned (.tuple #[.agg #[.int .i64 x, .int .i64 y, .int .i64 z], errV te]) ∧ Below w.heap.size w w'))
    (CK : Hid (∀ w : World, Calls Tryd.prog 18 #[.agg #[.int .i64 ep, .int .i64 key, .int .i64 old], .int .i64 n] w fun e w' => e = .returned (.tuple #[.int .i64 0, errV 1]) ∧ Below w.heap.size w w'))
    (CG : Hid (∀ (b : Nat) (w : World), w.cell? ⟨b, 0, none⟩ = some (.int .i64 0) → Calls Tryd.prog 7 #[.int .i64 s, .slice (some ⟨b, 0, none⟩) 1 1] w fun e w' => e = .returned (.int .i64 k0) ∧ w' = w))
    (CRT : Hid (∀ w : World, Calls Tryd.prog 15 #[.agg #[.int .i64 ep, .int .i64 key, .int .i64 old]] w fun e w' => e = .returned (.tuple #[.agg #[.int .i64 x, .int .i64 y, .int .i64 z], .int .i64 te]) ∧ Below w.heap.size w w')) :
    Calls Tryd.prog 4 #[.int .i64 s, .agg #[.int .i64 ep, .int .i64 key, .int .i64 old], .int .i64 n] w fun e w' => e = .returned (.bool true) ∧ Below w.heap.size w w' := by
  have HO := hide ho
  clear ho
  go_enter Tryd.func4, Tryd.ntmps4
  go_wp2_with fail
  refine (unhide CI _).mono ?_
  rintro e w' ⟨rfl, rfl⟩
  go_wp2_with fail
  refine (unhide CG _ _ (by first | (simp; done) | (rw [World.cell?_alloc_at _ _ _ _ (by simp)]; rfl))).mono ?_
  rintro e w' ⟨rfl, rfl⟩
  go_wp2_with fail
  refine (unhide CN _).mono ?_
  rintro e w1 ⟨rfl, hb1⟩
  have HR1 : Hid (RingAt w1 w.heap.size ep key old) := hide (((RingAt.fresh _ _ _ _ rfl).later (by (repeat' (first | exact Below.refl _ _ | refine Below.alloc ?_ ?_ _ | refine Below.setCell ?_ ?_ _ | refine Below.drew ?_)); all_goals (first | exact Nat.le_refl _ | omega | (simp; done) | (simp; omega)))).later hb1)
  have HV1 : Hid (RingAt w1 (w.heap.size + 1) 0 k0 0) := hide (((RingAt.fresh (w := w.alloc (.cells #[.int .i64 ep, .int .i64 key, .int .i64 old] 34)) _ _ _ _ (by simp)).later (by (repeat' (first | exact Below.refl _ _ | refine Below.alloc ?_ ?_ _ | refine Below.setCell ?_ ?_ _ | refine Below.drew ?_)); all_goals (first | exact Nat.le_refl _ | omega | (simp; done) | (simp; omega)))).later hb1)
  have z1 := hb1.size
  simp at z1
  have HB1 := hide (show Below w.heap.size w w1 from Below.trans (by (repeat' (first | exact Below.refl _ _ | refine Below.alloc ?_ ?_ _ | refine Below.setCell ?_ ?_ _ | refine Below.drew ?_)); all_goals (first | exact Nat.le_refl _ | omega | (simp; done) | (simp; omega))) (hb1.mono (by simp; omega)))
  clear hb1
  have HZ1 := hide z1
  clear z1
  go_wp2_with fail
  refine (same_any _ _ _ ((unhide HG).later (Below.alloc (unhide HB1) (by have := (unhide HB1).size; omega) _))).mono ?_
  rintro e w2 ⟨rfl, hb2⟩
  have HR2 := hide (((unhide HR1).later (by (repeat' (first | exact Below.refl _ _ | refine Below.alloc ?_ ?_ _ | refine Below.setCell ?_ ?_ _ | refine Below.drew ?_)); all_goals (first | exact Nat.le_refl _ | omega | (simp; done) | (simp; omega)))).later hb2)
  have HV2 := hide (((unhide HV1).later (by (repeat' (first | exact Below.refl _ _ | refine Below.alloc ?_ ?_ _ | refine Below.setCell ?_ ?_ _ | refine Below.drew ?_)); all_goals (first | exact Nat.le_refl _ | omega | (simp; done) | (simp; omega)))).later hb2)
  have HX2 : Hid (RingAt w2 w1.heap.size 0 k0 0) := hide ((RingAt.fresh _ _ _ _ rfl).later hb2)
  have HB2 := hide (show Below w.heap.size w w2 from Below.trans (Below.alloc (unhide HB1) (by have := (unhide HB1).size; omega) _) (hb2.mono (by have := (unhide HB1).size; simp; omega)))
  clear hb2
  obtain ⟨⟨r0, r1, r2⟩, _, _⟩ := unhide HR2
  obtain ⟨⟨v0, v1, v2⟩, ⟨vf0, vf1, vf2⟩, _⟩ := unhide HV2
  obtain ⟨⟨x0, x1, x2⟩, ⟨xf0, xf1, xf2⟩, _⟩ := unhide HX2
  go_wp2_with fail
  refine (unhide CR _).mono ?_
  rintro e w3 ⟨rfl, hb3⟩
  have HR3 := hide ((unhide HR2).later hb3)
  have HV3 := hide ((unhide HV2).later hb3)
  have HX3 := hide ((unhide HX2).later hb3)
  have HB3 := hide (show Below w.heap.size w w3 from Below.trans (unhide HB2) (hb3.mono (unhide HB2).size))
  clear hb3
  clear r0 r1 r2 v0 v1 v2 vf0 vf1 vf2 x0 x1 x2 xf0 xf1 xf2
  obtain ⟨⟨r0, r1, r2⟩, _, _⟩ := unhide HR3
  obtain ⟨⟨v0, v1, v2⟩, ⟨vf0, vf1, vf2⟩, _⟩ := unhide HV3
  obtain ⟨⟨x0, x1, x2⟩, ⟨xf0, xf1, xf2⟩, _⟩ := unhide HX3
  go_wp2_with fail
  refine (unhide CC _).mono ?_
  rintro e w4 ⟨rfl, hb4⟩
  have HR4 := hide ((unhide HR3).later hb4)
  have HV4 := hide ((unhide HV3).later hb4)
  have HX4 := hide ((unhide HX3).later hb4)
  have HB4 := hide (show Below w.heap.size w w4 from Below.trans (unhide HB3) (hb4.mono (unhide HB3).size))
  clear hb4
  clear r0 r1 r2 v0 v1 v2 vf0 vf1 vf2 x0 x1 x2 xf0 xf1 xf2
  obtain ⟨⟨r0, r1, r2⟩, _, _⟩ := unhide HR4
  obtain ⟨⟨v0, v1, v2⟩, ⟨vf0, vf1, vf2⟩, _⟩ := unhide HV4
  obtain ⟨⟨x0, x1, x2⟩, ⟨xf0, xf1, xf2⟩, _⟩ := unhide HX4
  go_wp2_with fail
  refine (same_any _ _ _ ((unhide HG).later (unhide HB4))).mono ?_
  rintro e w5 ⟨rfl, hb5⟩
  have HR5 := hide ((unhide HR4).later hb5)
  have HV5 := hide ((unhide HV4).later hb5)
  have HX5 := hide ((unhide HX4).later hb5)
  have HB5 := hide (show Below w.heap.size w w5 from Below.trans (unhide HB4) (hb5.mono (unhide HB4).size))
  clear hb5
  clear r0 r1 r2 v0 v1 v2 vf0 vf1 vf2 x0 x1 x2 xf0 xf1 xf2
  obtain ⟨⟨r0, r1, r2⟩, _, _⟩ := unhide HR5
  obtain ⟨⟨v0, v1, v2⟩, ⟨vf0, vf1, vf2⟩, _⟩ := unhide HV5
  obtain ⟨⟨x0, x1, x2⟩, ⟨xf0, xf1, xf2⟩, _⟩ := unhide HX5
  have HRs := hide (((((unhide HR5).far (c := w.heap.size + 1) (by have := unhide HZ1; omega) 0 (.int .i64 0)).far (c := w.heap.size + 1) (by have := unhide HZ1; omega) 1 (.int .i64 0)).far (c := w.heap.size + 1) (by have := unhide HZ1; omega) 2 (.int .i64 0)))
  have HVs := hide ((unhide HV5).put 0 0 0)
  have HXs := hide (((((unhide HX5).far (c := w.heap.size + 1) (by have := unhide HZ1; omega) 0 (.int .i64 0)).far (c := w.heap.size + 1) (by have := unhide HZ1; omega) 1 (.int .i64 0)).far (c := w.heap.size + 1) (by have := unhide HZ1; omega) 2 (.int .i64 0)))
  have HBs := hide ((((unhide HB5).setCell (p := ⟨w.heap.size + 1, 0, none⟩) (by have := unhide HZ1; first | omega | (simp; done) | (simp; omega)) (.int .i64 0)).setCell (p := ⟨w.heap.size + 1, 1, none⟩) (by have := unhide HZ1; first | omega | (simp; done) | (simp; omega)) (.int .i64 0)).setCell (p := ⟨w.heap.size + 1, 2, none⟩) (by have := unhide HZ1; first | omega | (simp; done) | (simp; omega)) (.int .i64 0))
  go_wp2_with fail
  refine (unhide CRT _).mono ?_
  rintro e w6 ⟨rfl, hb6⟩
  have HR6 := hide ((unhide HRs).later hb6)
  have HV6 := hide ((unhide HVs).later hb6)
  have HX6 := hide ((unhide HXs).later hb6)
  have HB6 := hide (show Below w.heap.size w w6 from Below.trans (unhide HBs) (hb6.mono (unhide HBs).size))
  clear hb6 HRs HVs HXs HBs
  clear r0 r1 r2 v0 v1 v2 vf0 vf1 vf2 x0 x1 x2 xf0 xf1 xf2
  obtain ⟨⟨r0, r1, r2⟩, _, _⟩ := unhide HR6
  obtain ⟨⟨v0, v1, v2⟩, ⟨vf0, vf1, vf2⟩, _⟩ := unhide HV6
  obtain ⟨⟨x0, x1, x2⟩, ⟨xf0, xf1, xf2⟩, _⟩ := unhide HX6
  have HRs := hide (((((unhide HR6).far (c := w.heap.size + 1) (by have := unhide HZ1; omega) 0 (.int .i64 x)).far (c := w.heap.size + 1) (by have := unhide HZ1; omega) 1 (.int .i64 y)).far (c := w.heap.size + 1) (by have := unhide HZ1; omega) 2 (.int .i64 z)))
  have HVs := hide ((unhide HV6).put x y z)
  have HXs := hide (((((unhide HX6).far (c := w.heap.size + 1) (by have := unhide HZ1; omega) 0 (.int .i64 x)).far (c := w.heap.size + 1) (by have := unhide HZ1; omega) 1 (.int .i64 y)).far (c := w.heap.size + 1) (by have := unhide HZ1; omega) 2 (.int .i64 z)))
  have HBs := hide ((((unhide HB6).setCell (p := ⟨w.heap.size + 1, 0, none⟩) (by have := unhide HZ1; first | omega | (simp; done) | (simp; omega)) (.int .i64 x)).setCell (p := ⟨w.heap.size + 1, 1, none⟩) (by have := unhide HZ1; first | omega | (simp; done) | (simp; omega)) (.int .i64 y)).setCell (p := ⟨w.heap.size + 1, 2, none⟩) (by have := unhide HZ1; first | omega | (simp; done) | (simp; omega)) (.int .i64 z))
  go_wp2_with fail
  refine (unhide CT _).mono ?_
  rintro e w7 ⟨rfl, hb7⟩
  have HR7 := hide ((unhide HRs).later hb7)
  have HV7 := hide ((unhide HVs).later hb7)
  have HX7 := hide ((unhide HXs).later hb7)
  have HB7 := hide (show Below w.heap.size w w7 from Below.trans (unhide HBs) (hb7.mono (unhide HBs).size))
  clear hb7 HRs HVs HXs HBs
  clear r0 r1 r2 v0 v1 v2 vf0 vf1 vf2 x0 x1 x2 xf0 xf1 xf2
  obtain ⟨⟨r0, r1, r2⟩, _, _⟩ := unhide HR7
  obtain ⟨⟨v0, v1, v2⟩, ⟨vf0, vf1, vf2⟩, _⟩ := unhide HV7
  obtain ⟨⟨x0, x1, x2⟩, ⟨xf0, xf1, xf2⟩, _⟩ := unhide HX7
  have HRs := hide (((((unhide HR7).far (c := w1.heap.size) (by have := unhide HZ1; omega) 0 (.int .i64 x)).far (c := w1.heap.size) (by have := unhide HZ1; omega) 1 (.int .i64 y)).far (c := w1.heap.size) (by have := unhide HZ1; omega) 2 (.int .i64 z)))
  have HVs := hide (((((unhide HV7).far (c := w1.heap.size) (by have := unhide HZ1; omega) 0 (.int .i64 x)).far (c := w1.heap.size) (by have := unhide HZ1; omega) 1 (.int .i64 y)).far (c := w1.heap.size) (by have := unhide HZ1; omega) 2 (.int .i64 z)))
  have HXs := hide ((unhide HX7).put x y z)
  have HBs := hide ((((unhide HB7).setCell (p := ⟨w1.heap.size, 0, none⟩) (by have := unhide HZ1; first | omega | (simp; done) | (simp; omega)) (.int .i64 x)).setCell (p := ⟨w1.heap.size, 1, none⟩) (by have := unhide HZ1; first | omega | (simp; done) | (simp; omega)) (.int .i64 y)).setCell (p := ⟨w1.heap.size, 2, none⟩) (by have := unhide HZ1; first | omega | (simp; done) | (simp; omega)) (.int .i64 z))
  go_wp2_with fail
  refine (same_any _ _ _ ((unhide HG).later (unhide HBs))).mono ?_
  rintro e w8 ⟨rfl, hb8⟩
  have HR8 := hide ((unhide HRs).later hb8)
  have HV8 := hide ((unhide HVs).later hb8)
  have HX8 := hide ((unhide HXs).later hb8)
  have HB8 := hide (show Below w.heap.size w w8 from Below.trans (unhide HBs) (hb8.mono (unhide HBs).size))
  clear hb8 HRs HVs HXs HBs
  clear r0 r1 r2 v0 v1 v2 vf0 vf1 vf2 x0 x1 x2 xf0 xf1 xf2
  obtain ⟨⟨r0, r1, r2⟩, _, _⟩ := unhide HR8
  obtain ⟨⟨v0, v1, v2⟩, ⟨vf0, vf1, vf2⟩, _⟩ := unhide HV8
  obtain ⟨⟨x0, x1, x2⟩, ⟨xf0, xf1, xf2⟩, _⟩ := unhide HX8
  by_cases ho0 : n < 0
  · go_wp2_with fail
    refine (unhide CK _).mono ?_
    rintro e w9 ⟨rfl, hb9⟩
    have HR9 := hide ((unhide HR8).later hb9)
    have HV9 := hide ((unhide HV8).later hb9)
    have HX9 := hide ((unhide HX8).later hb9)
    have HB9 := hide (show Below w.heap.size w w9 from Below.trans (unhide HB8) (hb9.mono (unhide HB8).size))
    clear hb9
    clear r0 r1 r2 v0 v1 v2 vf0 vf1 vf2 x0 x1 x2 xf0 xf1 xf2
    obtain ⟨⟨r0, r1, r2⟩, _, _⟩ := unhide HR9
    obtain ⟨⟨v0, v1, v2⟩, ⟨vf0, vf1, vf2⟩, _⟩ := unhide HV9
    obtain ⟨⟨x0, x1, x2⟩, ⟨xf0, xf1, xf2⟩, _⟩ := unhide HX9
    go_wp2_with fail
    refine (same_any _ _ _ ((unhide HG).later (unhide HB9))).mono ?_
    rintro e w10 ⟨rfl, hb10⟩
    have HB10 := hide (show Below w.heap.size w w10 from Below.trans (unhide HB9) (hb10.mono (unhide HB9).size))
    clear hb10
    go_wp2
    go_ret
    exact ⟨rfl, unhide HB10⟩
  · have ho1 : 100 < n := by have := unhide HO; omega
    go_wp2_with fail
    refine (unhide CK _).mono ?_
    rintro e w9 ⟨rfl, hb9⟩
    have HR9 := hide ((unhide HR8).later hb9)
    have HV9 := hide ((unhide HV8).later hb9)
    have HX9 := hide ((unhide HX8).later hb9)
    have HB9 := hide (show Below w.heap.size w w9 from Below.trans (unhide HB8) (hb9.mono (unhide HB8).size))
    clear hb9
    clear r0 r1 r2 v0 v1 v2 vf0 vf1 vf2 x0 x1 x2 xf0 xf1 xf2
    obtain ⟨⟨r0, r1, r2⟩, _, _⟩ := unhide HR9
    obtain ⟨⟨v0, v1, v2⟩, ⟨vf0, vf1, vf2⟩, _⟩ := unhide HV9
    obtain ⟨⟨x0, x1, x2⟩, ⟨xf0, xf1, xf2⟩, _⟩ := unhide HX9
    go_wp2_with fail
    refine (same_any _ _ _ ((unhide HG).later (unhide HB9))).mono ?_
    rintro e w10 ⟨rfl, hb10⟩
    have HB10 := hide (show Below w.heap.size w w10 from Below.trans (unhide HB9) (hb10.mono (unhide HB9).size))
    clear hb10
    go_wp2
    go_ret
    exact ⟨rfl, unhide HB10⟩

set_option maxHeartbeats 6400000 in
set_option maxRecDepth 8000 in
theorem walk_in_in (s ep key old n k0 x y z te kv ke : Int) (w : World) (HG : Hid (ErrType w)) (n0 : 0 ≤ n) (n1 : n ≤ 100) 
    (CN : Hid (∀ w : World, Calls Tryd.prog 12 #[.int .i64 s] w fun e w' => e = .returned (.tuple #[.agg #[.int .i64 0, .int .i64 k0, .int .i64 0], errV 0]) ∧ Below w.heap.size w w'))
    (CI : Hid (∀ w : World, Calls Tryd.prog 10 #[.int .i64 s] w fun e w' => e = .returned (.bool true) ∧ w' = w))
    (CR : Hid (∀ w : World, Calls Tryd.prog 13 #[.agg #[.int .i64 ep, .int .i64 key, .int .i64 old]] w fun e w' => e = .returned (.int .i64 0) ∧ Below w.heap.size w w'))
    (CC : Hid (∀ w : World, Calls Tryd.prog 14 #[.agg #[.int .i64 ep, .int .i64 key, .int .i64 old]] w fun e w' => e = .returned (errV 0) ∧ Below w.heap.size w w'))
    (CT : Hid (∀ w : World, Calls Tryd.prog 16 #[.agg #[.int .i64 ep, .int .i64 key, .int .i64 old]] w fun e w' => e = .returned (.tuple #[.agg #[.int .i64 x, .int .i64 y, .int .i64 z], errV te]) ∧ Below w.heap.size w w'))
    (CK : Hid (∀ w : World, Calls Tryd.prog 18 #[.agg #[.int .i64 ep, .int .i64 key, .int .i64 old], .int .i64 n] w fun e w' => e = .returned (.tuple #[.int .i64 kv, errV ke]) ∧ Below w.heap.size w w'))
    (CG : Hid (∀ (b : Nat) (w : World), w.cell? ⟨b, 0, none⟩ = some (.int .i64 0) → Calls Tryd.prog 7 #[.int .i64 s, .slice (some ⟨b, 0, none⟩) 1 1] w fun e w' => e = .returned (.int .i64 k0) ∧ w' = w))
    (CRT : Hid (∀ w : World, Calls Tryd.prog 15 #[.agg #[.int .i64 ep, .int .i64 key, .int .i64 old]] w fun e w' => e = .returned (.tuple #[.agg #[.int .i64 x, .int .i64 y, .int .i64 z], .int .i64 te]) ∧ Below w.heap.size w w'))
    (CRK : Hid (∀ w : World, Calls Tryd.prog 17 #[.agg #[.int .i64 ep, .int .i64 key, .int .i64 old], .int .i64 n] w fun e w' => e = .returned (.tuple #[.int .i64 kv, .int .i64 ke]) ∧ Below w.heap.size w w')) :
    Calls Tryd.prog 4 #[.int .i64 s, .agg #[.int .i64 ep, .int .i64 key, .int .i64 old], .int .i64 n] w fun e w' => e = .returned (.bool true) ∧ Below w.heap.size w w' := by
  have n2 : ¬ n < 0 := by omega
  have n3 : ¬ 100 < n := by omega
  go_enter Tryd.func4, Tryd.ntmps4
  go_wp2_with fail
  refine (unhide CI _).mono ?_
  rintro e w' ⟨rfl, rfl⟩
  go_wp2_with fail
  refine (unhide CG _ _ (by first | (simp; done) | (rw [World.cell?_alloc_at _ _ _ _ (by simp)]; rfl))).mono ?_
  rintro e w' ⟨rfl, rfl⟩
  go_wp2_with fail
  refine (unhide CN _).mono ?_
  rintro e w1 ⟨rfl, hb1⟩
  have HR1 : Hid (RingAt w1 w.heap.size ep key old) := hide (((RingAt.fresh _ _ _ _ rfl).later (by (repeat' (first | exact Below.refl _ _ | refine Below.alloc ?_ ?_ _ | refine Below.setCell ?_ ?_ _ | refine Below.drew ?_)); all_goals (first | exact Nat.le_refl _ | omega | (simp; done) | (simp; omega)))).later hb1)
  have HV1 : Hid (RingAt w1 (w.heap.size + 1) 0 k0 0) := hide (((RingAt.fresh (w := w.alloc (.cells #[.int .i64 ep, .int .i64 key, .int .i64 old] 34)) _ _ _ _ (by simp)).later (by (repeat' (first | exact Below.refl _ _ | refine Below.alloc ?_ ?_ _ | refine Below.setCell ?_ ?_ _ | refine Below.drew ?_)); all_goals (first | exact Nat.le_refl _ | omega | (simp; done) | (simp; omega)))).later hb1)
  have z1 := hb1.size
  simp at z1
  have HB1 := hide (show Below w.heap.size w w1 from Below.trans (by (repeat' (first | exact Below.refl _ _ | refine Below.alloc ?_ ?_ _ | refine Below.setCell ?_ ?_ _ | refine Below.drew ?_)); all_goals (first | exact Nat.le_refl _ | omega | (simp; done) | (simp; omega))) (hb1.mono (by simp; omega)))
  clear hb1
  have HZ1 := hide z1
  clear z1
  go_wp2_with fail
  refine (same_any _ _ _ ((unhide HG).later (Below.alloc (unhide HB1) (by have := (unhide HB1).size; omega) _))).mono ?_
  rintro e w2 ⟨rfl, hb2⟩
  have HR2 := hide (((unhide HR1).later (by (repeat' (first | exact Below.refl _ _ | refine Below.alloc ?_ ?_ _ | refine Below.setCell ?_ ?_ _ | refine Below.drew ?_)); all_goals (first | exact Nat.le_refl _ | omega | (simp; done) | (simp; omega)))).later hb2)
  have HV2 := hide (((unhide HV1).later (by (repeat' (first | exact Below.refl _ _ | refine Below.alloc ?_ ?_ _ | refine Below.setCell ?_ ?_ _ | refine Below.drew ?_)); all_goals (first | exact Nat.le_refl _ | omega | (simp; done) | (simp; omega)))).later hb2)
  have HX2 : Hid (RingAt w2 w1.heap.size 0 k0 0) := hide ((RingAt.fresh _ _ _ _ rfl).later hb2)
  have HB2 := hide (show Below w.heap.size w w2 from Below.trans (Below.alloc (unhide HB1) (by have := (unhide HB1).size; omega) _) (hb2.mono (by have := (unhide HB1).size; simp; omega)))
  clear hb2
  obtain ⟨⟨r0, r1, r2⟩, _, _⟩ := unhide HR2
  obtain ⟨⟨v0, v1, v2⟩, ⟨vf0, vf1, vf2⟩, _⟩ := unhide HV2
  obtain ⟨⟨x0, x1, x2⟩, ⟨xf0, xf1, xf2⟩, _⟩ := unhide HX2
  go_wp2_with fail
  refine (unhide CR _).mono ?_
  rintro e w3 ⟨rfl, hb3⟩
  have HR3 := hide ((unhide HR2).later hb3)
  have HV3 := hide ((unhide HV2).later hb3)
  have HX3 := hide ((unhide HX2).later hb3)
  have HB3 := hide (show Below w.heap.size w w3 from Below.trans (unhide HB2) (hb3.mono (unhide HB2).size))
  clear hb3
  clear r0 r1 r2 v0 v1 v2 vf0 vf1 vf2 x0 x1 x2 xf0 xf1 xf2
  obtain ⟨⟨r0, r1, r2⟩, _, _⟩ := unhide HR3
  obtain ⟨⟨v0, v1, v2⟩, ⟨vf0, vf1, vf2⟩, _⟩ := unhide HV3
  obtain ⟨⟨x0, x1, x2⟩, ⟨xf0, xf1, xf2⟩, _⟩ := unhide HX3
  go_wp2_with fail
  refine (unhide CC _).mono ?_
  rintro e w4 ⟨rfl, hb4⟩
  have HR4 := hide ((unhide HR3).later hb4)
  have HV4 := hide ((unhide HV3).later hb4)
  have HX4 := hide ((unhide HX3).later hb4)
  have HB4 := hide (show Below w.heap.size w w4 from Below.trans (unhide HB3) (hb4.mono (unhide HB3).size))
  clear hb4
  clear r0 r1 r2 v0 v1 v2 vf0 vf1 vf2 x0 x1 x2 xf0 xf1 xf2
  obtain ⟨⟨r0, r1, r2⟩, _, _⟩ := unhide HR4
  obtain ⟨⟨v0, v1, v2⟩, ⟨vf0, vf1, vf2⟩, _⟩ := unhide HV4
  obtain ⟨⟨x0, x1, x2⟩, ⟨xf0, xf1, xf2⟩, _⟩ := unhide HX4
  go_wp2_with fail
  refine (same_any _ _ _ ((unhide HG).later (unhide HB4))).mono ?_
  rintro e w5 ⟨rfl, hb5⟩
  have HR5 := hide ((unhide HR4).later hb5)
  have HV5 := hide ((unhide HV4).later hb5)
  have HX5 := hide ((unhide HX4).later hb5)
  have HB5 := hide (show Below w.heap.size w w5 from Below.trans (unhide HB4) (hb5.mono (unhide HB4).size))
  clear hb5
  clear r0 r1 r2 v0 v1 v2 vf0 vf1 vf2 x0 x1 x2 xf0 xf1 xf2
  obtain ⟨⟨r0, r1, r2⟩, _, _⟩ := unhide HR5
  obtain ⟨⟨v0, v1, v2⟩, ⟨vf0, vf1, vf2⟩, _⟩ := unhide HV5
  obtain ⟨⟨x0, x1, x2⟩, ⟨xf0, xf1, xf2⟩, _⟩ := unhide HX5
  have HRs := hide (((((unhide HR5).far (c := w.heap.size + 1) (by have := unhide HZ1; omega) 0 (.int .i64 0)).far (c := w.heap.size + 1) (by have := unhide HZ1; omega) 1 (.int .i64 0)).far (c := w.heap.size + 1) (by have := unhide HZ1; omega) 2 (.int .i64 0)))
  have HVs := hide ((unhide HV5).put 0 0 0)
  have HXs := hide (((((unhide HX5).far (c := w.heap.size + 1) (by have := unhide HZ1; omega) 0 (.int .i64 0)).far (c := w.heap.size + 1) (by have := unhide HZ1; omega) 1 (.int .i64 0)).far (c := w.heap.size + 1) (by have := unhide HZ1; omega) 2 (.int .i64 0)))
  have HBs := hide ((((unhide HB5).setCell (p := ⟨w.heap.size + 1, 0, none⟩) (by have := unhide HZ1; first | omega | (simp; done) | (simp; omega)) (.int .i64 0)).setCell (p := ⟨w.heap.size + 1, 1, none⟩) (by have := unhide HZ1; first | omega | (simp; done) | (simp; omega)) (.int .i64 0)).setCell (p := ⟨w.heap.size + 1, 2, none⟩) (by have := unhide HZ1; first | omega | (simp; done) | (simp; omega)) (.int .i64 0))
  go_wp2_with fail
  refine (unhide CRT _).mono ?_
  rintro e w6 ⟨rfl, hb6⟩
  have HR6 := hide ((unhide HRs).later hb6)
  have HV6 := hide ((unhide HVs).later hb6)
  have HX6 := hide ((unhide HXs).later hb6)
  have HB6 := hide (show Below w.heap.size w w6 from Below.trans (unhide HBs) (hb6.mono (unhide HBs).size))
  clear hb6 HRs HVs HXs HBs
  clear r0 r1 r2 v0 v1 v2 vf0 vf1 vf2 x0 x1 x2 xf0 xf1 xf2
  obtain ⟨⟨r0, r1, r2⟩, _, _⟩ := unhide HR6
  obtain ⟨⟨v0, v1, v2⟩, ⟨vf0, vf1, vf2⟩, _⟩ := unhide HV6
  obtain ⟨⟨x0, x1, x2⟩, ⟨xf0, xf1, xf2⟩, _⟩ := unhide HX6
  have HRs := hide (((((unhide HR6).far (c := w.heap.size + 1) (by have := unhide HZ1; omega) 0 (.int .i64 x)).far (c := w.heap.size + 1) (by have := unhide HZ1; omega) 1 (.int .i64 y)).far (c := w.heap.size + 1) (by have := unhide HZ1; omega) 2 (.int .i64 z)))
  have HVs := hide ((unhide HV6).put x y z)
  have HXs := hide (((((unhide HX6).far (c := w.heap.size + 1) (by have := unhide HZ1; omega) 0 (.int .i64 x)).far (c := w.heap.size + 1) (by have := unhide HZ1; omega) 1 (.int .i64 y)).far (c := w.heap.size + 1) (by have := unhide HZ1; omega) 2 (.int .i64 z)))
  have HBs := hide ((((unhide HB6).setCell (p := ⟨w.heap.size + 1, 0, none⟩) (by have := unhide HZ1; first | omega | (simp; done) | (simp; omega)) (.int .i64 x)).setCell (p := ⟨w.heap.size + 1, 1, none⟩) (by have := unhide HZ1; first | omega | (simp; done) | (simp; omega)) (.int .i64 y)).setCell (p := ⟨w.heap.size + 1, 2, none⟩) (by have := unhide HZ1; first | omega | (simp; done) | (simp; omega)) (.int .i64 z))
  go_wp2_with fail
  refine (unhide CT _).mono ?_
  rintro e w7 ⟨rfl, hb7⟩
  have HR7 := hide ((unhide HRs).later hb7)
  have HV7 := hide ((unhide HVs).later hb7)
  have HX7 := hide ((unhide HXs).later hb7)
  have HB7 := hide (show Below w.heap.size w w7 from Below.trans (unhide HBs) (hb7.mono (unhide HBs).size))
  clear hb7 HRs HVs HXs HBs
  clear r0 r1 r2 v0 v1 v2 vf0 vf1 vf2 x0 x1 x2 xf0 xf1 xf2
  obtain ⟨⟨r0, r1, r2⟩, _, _⟩ := unhide HR7
  obtain ⟨⟨v0, v1, v2⟩, ⟨vf0, vf1, vf2⟩, _⟩ := unhide HV7
  obtain ⟨⟨x0, x1, x2⟩, ⟨xf0, xf1, xf2⟩, _⟩ := unhide HX7
  have HRs := hide (((((unhide HR7).far (c := w1.heap.size) (by have := unhide HZ1; omega) 0 (.int .i64 x)).far (c := w1.heap.size) (by have := unhide HZ1; omega) 1 (.int .i64 y)).far (c := w1.heap.size) (by have := unhide HZ1; omega) 2 (.int .i64 z)))
  have HVs := hide (((((unhide HV7).far (c := w1.heap.size) (by have := unhide HZ1; omega) 0 (.int .i64 x)).far (c := w1.heap.size) (by have := unhide HZ1; omega) 1 (.int .i64 y)).far (c := w1.heap.size) (by have := unhide HZ1; omega) 2 (.int .i64 z)))
  have HXs := hide ((unhide HX7).put x y z)
  have HBs := hide ((((unhide HB7).setCell (p := ⟨w1.heap.size, 0, none⟩) (by have := unhide HZ1; first | omega | (simp; done) | (simp; omega)) (.int .i64 x)).setCell (p := ⟨w1.heap.size, 1, none⟩) (by have := unhide HZ1; first | omega | (simp; done) | (simp; omega)) (.int .i64 y)).setCell (p := ⟨w1.heap.size, 2, none⟩) (by have := unhide HZ1; first | omega | (simp; done) | (simp; omega)) (.int .i64 z))
  go_wp2_with fail
  refine (same_any _ _ _ ((unhide HG).later (unhide HBs))).mono ?_
  rintro e w8 ⟨rfl, hb8⟩
  have HR8 := hide ((unhide HRs).later hb8)
  have HV8 := hide ((unhide HVs).later hb8)
  have HX8 := hide ((unhide HXs).later hb8)
  have HB8 := hide (show Below w.heap.size w w8 from Below.trans (unhide HBs) (hb8.mono (unhide HBs).size))
  clear hb8 HRs HVs HXs HBs
  clear r0 r1 r2 v0 v1 v2 vf0 vf1 vf2 x0 x1 x2 xf0 xf1 xf2
  obtain ⟨⟨r0, r1, r2⟩, _, _⟩ := unhide HR8
  obtain ⟨⟨v0, v1, v2⟩, ⟨vf0, vf1, vf2⟩, _⟩ := unhide HV8
  obtain ⟨⟨x0, x1, x2⟩, ⟨xf0, xf1, xf2⟩, _⟩ := unhide HX8
  go_wp2_with fail
  refine (unhide CRK _).mono ?_
  rintro e w9 ⟨rfl, hb9⟩
  have HR9 := hide ((unhide HR8).later hb9)
  have HV9 := hide ((unhide HV8).later hb9)
  have HX9 := hide ((unhide HX8).later hb9)
  have HB9 := hide (show Below w.heap.size w w9 from Below.trans (unhide HB8) (hb9.mono (unhide HB8).size))
  clear hb9
  clear r0 r1 r2 v0 v1 v2 vf0 vf1 vf2 x0 x1 x2 xf0 xf1 xf2
  obtain ⟨⟨r0, r1, r2⟩, _, _⟩ := unhide HR9
  obtain ⟨⟨v0, v1, v2⟩, ⟨vf0, vf1, vf2⟩, _⟩ := unhide HV9
  obtain ⟨⟨x0, x1, x2⟩, ⟨xf0, xf1, xf2⟩, _⟩ := unhide HX9
  go_wp2_with fail
  refine (unhide CK _).mono ?_
  rintro e w10 ⟨rfl, hb10⟩
  have HR10 := hide ((unhide HR9).later hb10)
  have HV10 := hide ((unhide HV9).later hb10)
  have HX10 := hide ((unhide HX9).later hb10)
  have HB10 := hide (show Below w.heap.size w w10 from Below.trans (unhide HB9) (hb10.mono (unhide HB9).size))
  clear hb10
  clear r0 r1 r2 v0 v1 v2 vf0 vf1 vf2 x0 x1 x2 xf0 xf1 xf2
  obtain ⟨⟨r0, r1, r2⟩, _, _⟩ := unhide HR10
  obtain ⟨⟨v0, v1, v2⟩, ⟨vf0, vf1, vf2⟩, _⟩ := unhide HV10
  obtain ⟨⟨x0, x1, x2⟩, ⟨xf0, xf1, xf2⟩, _⟩ := unhide HX10
  go_wp2_with fail
  refine (same_any _ _ _ ((unhide HG).later (unhide HB10))).mono ?_
  rintro e w11 ⟨rfl, hb11⟩
  have HB11 := hide (show Below w.heap.size w w11 from Below.trans (unhide HB10) (hb11.mono (unhide HB10).size))
  clear hb11
  go_wp2
  go_ret
  exact ⟨rfl, unhide HB11⟩

set_option maxHeartbeats 6400000 in
set_option maxRecDepth 8000 in
theorem walk_no_bad (s ep key old n g : Int) (w : World) (HG : Hid (ErrType w)) (hg0 : ¬ g = 0) 
    (CN : Hid (∀ w : World, Calls Tryd.prog 12 #[.int .i64 s] w fun e w' => e = .returned (.tuple #[.agg #[.int .i64 0, .int .i64 0, .int .i64 0], errV 1]) ∧ Below w.heap.size w w'))
    (CI : Hid (∀ w : World, Calls Tryd.prog 10 #[.int .i64 s] w fun e w' => e = .returned (.bool false) ∧ w' = w))
    (CR : Hid (∀ w : World, Calls Tryd.prog 13 #[.agg #[.int .i64 ep, .int .i64 key, .int .i64 old]] w fun e w' => e = .returned (.int .i64 g) ∧ Below w.heap.size w w'))
    (CC : Hid (∀ w : World, Calls Tryd.prog 14 #[.agg #[.int .i64 ep, .int .i64 key, .int .i64 old]] w fun e w' => e = .returned (errV g) ∧ Below w.heap.size w w'))
    (CT : Hid (∀ w : World, Calls Tryd.prog 16 #[.agg #[.int .i64 ep, .int .i64 key, .int .i64 old]] w fun e w' => e = .returned (.tuple #[.agg #[.int .i64 0, .int .i64 0, .int .i64 0], errV g]) ∧ Below w.heap.size w w'))
    (CK : Hid (∀ w : World, Calls Tryd.prog 18 #[.agg #[.int .i64 ep, .int .i64 key, .int .i64 old], .int .i64 n] w fun e w' => e = .returned (.tuple #[.int .i64 0, errV g]) ∧ Below w.heap.size w w')) :
    Calls Tryd.prog 4 #[.int .i64 s, .agg #[.int .i64 ep, .int .i64 key, .int .i64 old], .int .i64 n] w fun e w' => e = .returned (.bool true) ∧ Below w.heap.size w w' := by
  have hgb : (g == 0) = false := by simp [hg0]
  go_enter Tryd.func4, Tryd.ntmps4
  go_wp2_with fail
  refine (unhide CI _).mono ?_
  rintro e w' ⟨rfl, rfl⟩
  go_wp2_with fail
  refine (unhide CN _).mono ?_
  rintro e w1 ⟨rfl, hb1⟩
  have HR1 : Hid (RingAt w1 w.heap.size ep key old) := hide (((RingAt.fresh _ _ _ _ rfl).later (by (repeat' (first | exact Below.refl _ _ | refine Below.alloc ?_ ?_ _ | refine Below.setCell ?_ ?_ _ | refine Below.drew ?_)); all_goals (first | exact Nat.le_refl _ | omega | (simp; done) | (simp; omega)))).later hb1)
  have HV1 : Hid (RingAt w1 (w.heap.size + 1) 0 0 0) := hide ((RingAt.fresh (w := w.alloc (.cells #[.int .i64 ep, .int .i64 key, .int .i64 old] 34)) _ _ _ _ (by simp)).later hb1)
  have z1 := hb1.size
  simp at z1
  have HB1 := hide (show Below w.heap.size w w1 from Below.trans (by (repeat' (first | exact Below.refl _ _ | refine Below.alloc ?_ ?_ _ | refine Below.setCell ?_ ?_ _ | refine Below.drew ?_)); all_goals (first | exact Nat.le_refl _ | omega | (simp; done) | (simp; omega))) (hb1.mono (by simp; omega)))
  clear hb1
  have HZ1 := hide z1
  clear z1
  go_wp2_with fail
  refine (same_any _ _ _ ((unhide HG).later (Below.alloc (unhide HB1) (by have := (unhide HB1).size; omega) _))).mono ?_
  rintro e w2 ⟨rfl, hb2⟩
  have HR2 := hide (((unhide HR1).later (by (repeat' (first | exact Below.refl _ _ | refine Below.alloc ?_ ?_ _ | refine Below.setCell ?_ ?_ _ | refine Below.drew ?_)); all_goals (first | exact Nat.le_refl _ | omega | (simp; done) | (simp; omega)))).later hb2)
  have HV2 := hide (((unhide HV1).later (by (repeat' (first | exact Below.refl _ _ | refine Below.alloc ?_ ?_ _ | refine Below.setCell ?_ ?_ _ | refine Below.drew ?_)); all_goals (first | exact Nat.le_refl _ | omega | (simp; done) | (simp; omega)))).later hb2)
  have HX2 : Hid (RingAt w2 w1.heap.size 0 0 0) := hide ((RingAt.fresh _ _ _ _ rfl).later hb2)
  have HB2 := hide (show Below w.heap.size w w2 from Below.trans (Below.alloc (unhide HB1) (by have := (unhide HB1).size; omega) _) (hb2.mono (by have := (unhide HB1).size; simp; omega)))
  clear hb2
  obtain ⟨⟨r0, r1, r2⟩, _, _⟩ := unhide HR2
  obtain ⟨⟨v0, v1, v2⟩, ⟨vf0, vf1, vf2⟩, _⟩ := unhide HV2
  obtain ⟨⟨x0, x1, x2⟩, ⟨xf0, xf1, xf2⟩, _⟩ := unhide HX2
  go_wp2_with fail
  refine (unhide CR _).mono ?_
  rintro e w3 ⟨rfl, hb3⟩
  have HR3 := hide ((unhide HR2).later hb3)
  have HV3 := hide ((unhide HV2).later hb3)
  have HX3 := hide ((unhide HX2).later hb3)
  have HB3 := hide (show Below w.heap.size w w3 from Below.trans (unhide HB2) (hb3.mono (unhide HB2).size))
  clear hb3
  clear r0 r1 r2 v0 v1 v2 vf0 vf1 vf2 x0 x1 x2 xf0 xf1 xf2
  obtain ⟨⟨r0, r1, r2⟩, _, _⟩ := unhide HR3
  obtain ⟨⟨v0, v1, v2⟩, ⟨vf0, vf1, vf2⟩, _⟩ := unhide HV3
  obtain ⟨⟨x0, x1, x2⟩, ⟨xf0, xf1, xf2⟩, _⟩ := unhide HX3
  go_wp2_with fail
  refine (unhide CC _).mono ?_
  rintro e w4 ⟨rfl, hb4⟩
  have HR4 := hide ((unhide HR3).later hb4)
  have HV4 := hide ((unhide HV3).later hb4)
  have HX4 := hide ((unhide HX3).later hb4)
  have HB4 := hide (show Below w.heap.size w w4 from Below.trans (unhide HB3) (hb4.mono (unhide HB3).size))
  clear hb4
  clear r0 r1 r2 v0 v1 v2 vf0 vf1 vf2 x0 x1 x2 xf0 xf1 xf2
  obtain ⟨⟨r0, r1, r2⟩, _, _⟩ := unhide HR4
  obtain ⟨⟨v0, v1, v2⟩, ⟨vf0, vf1, vf2⟩, _⟩ := unhide HV4
  obtain ⟨⟨x0, x1, x2⟩, ⟨xf0, xf1, xf2⟩, _⟩ := unhide HX4
  go_wp2_with fail
  refine (same_any _ _ _ ((unhide HG).later (unhide HB4))).mono ?_
  rintro e w5 ⟨rfl, hb5⟩
  have HR5 := hide ((unhide HR4).later hb5)
  have HV5 := hide ((unhide HV4).later hb5)
  have HX5 := hide ((unhide HX4).later hb5)
  have HB5 := hide (show Below w.heap.size w w5 from Below.trans (unhide HB4) (hb5.mono (unhide HB4).size))
  clear hb5
  clear r0 r1 r2 v0 v1 v2 vf0 vf1 vf2 x0 x1 x2 xf0 xf1 xf2
  obtain ⟨⟨r0, r1, r2⟩, _, _⟩ := unhide HR5
  obtain ⟨⟨v0, v1, v2⟩, ⟨vf0, vf1, vf2⟩, _⟩ := unhide HV5
  obtain ⟨⟨x0, x1, x2⟩, ⟨xf0, xf1, xf2⟩, _⟩ := unhide HX5
  have HRs := hide (((((unhide HR5).far (c := w.heap.size + 1) (by have := unhide HZ1; omega) 0 (.int .i64 0)).far (c := w.heap.size + 1) (by have := unhide HZ1; omega) 1 (.int .i64 0)).far (c := w.heap.size + 1) (by have := unhide HZ1; omega) 2 (.int .i64 0)))
  have HVs := hide ((unhide HV5).put 0 0 0)
  have HXs := hide (((((unhide HX5).far (c := w.heap.size + 1) (by have := unhide HZ1; omega) 0 (.int .i64 0)).far (c := w.heap.size + 1) (by have := unhide HZ1; omega) 1 (.int .i64 0)).far (c := w.heap.size + 1) (by have := unhide HZ1; omega) 2 (.int .i64 0)))
  have HBs := hide ((((unhide HB5).setCell (p := ⟨w.heap.size + 1, 0, none⟩) (by have := unhide HZ1; first | omega | (simp; done) | (simp; omega)) (.int .i64 0)).setCell (p := ⟨w.heap.size + 1, 1, none⟩) (by have := unhide HZ1; first | omega | (simp; done) | (simp; omega)) (.int .i64 0)).setCell (p := ⟨w.heap.size + 1, 2, none⟩) (by have := unhide HZ1; first | omega | (simp; done) | (simp; omega)) (.int .i64 0))
  go_wp2_with fail
  refine (unhide CT _).mono ?_
  rintro e w6 ⟨rfl, hb6⟩
  have HR6 := hide ((unhide HRs).later hb6)
  have HV6 := hide ((unhide HVs).later hb6)
  have HX6 := hide ((unhide HXs).later hb6)
  have HB6 := hide (show Below w.heap.size w w6 from Below.trans (unhide HBs) (hb6.mono (unhide HBs).size))
  clear hb6 HRs HVs HXs HBs
  clear r0 r1 r2 v0 v1 v2 vf0 vf1 vf2 x0 x1 x2 xf0 xf1 xf2
  obtain ⟨⟨r0, r1, r2⟩, _, _⟩ := unhide HR6
  obtain ⟨⟨v0, v1, v2⟩, ⟨vf0, vf1, vf2⟩, _⟩ := unhide HV6
  obtain ⟨⟨x0, x1, x2⟩, ⟨xf0, xf1, xf2⟩, _⟩ := unhide HX6
  have HRs := hide (((((unhide HR6).far (c := w1.heap.size) (by have := unhide HZ1; omega) 0 (.int .i64 0)).far (c := w1.heap.size) (by have := unhide HZ1; omega) 1 (.int .i64 0)).far (c := w1.heap.size) (by have := unhide HZ1; omega) 2 (.int .i64 0)))
  have HVs := hide (((((unhide HV6).far (c := w1.heap.size) (by have := unhide HZ1; omega) 0 (.int .i64 0)).far (c := w1.heap.size) (by have := unhide HZ1; omega) 1 (.int .i64 0)).far (c := w1.heap.size) (by have := unhide HZ1; omega) 2 (.int .i64 0)))
  have HXs := hide ((unhide HX6).put 0 0 0)
  have HBs := hide ((((unhide HB6).setCell (p := ⟨w1.heap.size, 0, none⟩) (by have := unhide HZ1; first | omega | (simp; done) | (simp; omega)) (.int .i64 0)).setCell (p := ⟨w1.heap.size, 1, none⟩) (by have := unhide HZ1; first | omega | (simp; done) | (simp; omega)) (.int .i64 0)).setCell (p := ⟨w1.heap.size, 2, none⟩) (by have := unhide HZ1; first | omega | (simp; done) | (simp; omega)) (.int .i64 0))
  go_wp2_with fail
  refine (same_any _ _ _ ((unhide HG).later (unhide HBs))).mono ?_
  rintro e w7 ⟨rfl, hb7⟩
  have HR7 := hide ((unhide HRs).later hb7)
  have HV7 := hide ((unhide HVs).later hb7)
  have HX7 := hide ((unhide HXs).later hb7)
  have HB7 := hide (show Below w.heap.size w w7 from Below.trans (unhide HBs) (hb7.mono (unhide HBs).size))
  clear hb7 HRs HVs HXs HBs
  clear r0 r1 r2 v0 v1 v2 vf0 vf1 vf2 x0 x1 x2 xf0 xf1 xf2
  obtain ⟨⟨r0, r1, r2⟩, _, _⟩ := unhide HR7
  obtain ⟨⟨v0, v1, v2⟩, ⟨vf0, vf1, vf2⟩, _⟩ := unhide HV7
  obtain ⟨⟨x0, x1, x2⟩, ⟨xf0, xf1, xf2⟩, _⟩ := unhide HX7
  go_wp2_with fail
  refine (unhide CK _).mono ?_
  rintro e w8 ⟨rfl, hb8⟩
  have HR8 := hide ((unhide HR7).later hb8)
  have HV8 := hide ((unhide HV7).later hb8)
  have HX8 := hide ((unhide HX7).later hb8)
  have HB8 := hide (show Below w.heap.size w w8 from Below.trans (unhide HB7) (hb8.mono (unhide HB7).size))
  clear hb8
  clear r0 r1 r2 v0 v1 v2 vf0 vf1 vf2 x0 x1 x2 xf0 xf1 xf2
  obtain ⟨⟨r0, r1, r2⟩, _, _⟩ := unhide HR8
  obtain ⟨⟨v0, v1, v2⟩, ⟨vf0, vf1, vf2⟩, _⟩ := unhide HV8
  obtain ⟨⟨x0, x1, x2⟩, ⟨xf0, xf1, xf2⟩, _⟩ := unhide HX8
  go_wp2_with fail
  refine (same_any _ _ _ ((unhide HG).later (unhide HB8))).mono ?_
  rintro e w9 ⟨rfl, hb9⟩
  have HB9 := hide (show Below w.heap.size w w9 from Below.trans (unhide HB8) (hb9.mono (unhide HB8).size))
  clear hb9
  go_wp2
  go_ret
  exact ⟨rfl, unhide HB9⟩

set_option maxHeartbeats 6400000 in
set_option maxRecDepth 8000 in
theorem walk_no_out (s ep key old n x y z te : Int) (w : World) (HG : Hid (ErrType w)) (ho : n < 0 ∨ 100 < n) 
    (CN : Hid (∀ w : World, Calls Tryd.prog 12 #[.int .i64 s] w fun e w' => e = .returned (.tuple #[.agg #[.int .i64 0, .int .i64 0, .int .i64 0], errV 1]) ∧ Below w.heap.size w w'))
    (CI : Hid (∀ w : World, Calls Tryd.prog 10 #[.int .i64 s] w fun e w' => e = .returned (.bool false) ∧ w' = w))
    (CR : Hid (∀ w : World, Calls Tryd.prog 13 #[.agg #[.int .i64 ep, .int .i64 key, .int .i64 old]] w fun e w' => e = .returned (.int .i64 0) ∧ Below w.heap.size w w'))
    (CC : Hid (∀ w : World, Calls Tryd.prog 14 #[.agg #[.int .i64 ep, .int .i64 key, .int .i64 old]] w fun e w' => e = .returned (errV 0) ∧ Below w.heap.size w w'))
    (CT : Hid (∀ w : World, Calls Tryd.prog 16 #[.agg #[.int .i64 ep, .int .i64 key, .int .i64 old]] w fun e w' => e = .returned (.tuple #[.agg #[.int .i64 x, .int .i64 y, .int .i64 z], errV te]) ∧ Below w.heap.size w w'))
    (CK : Hid (∀ w : World, Calls Tryd.prog 18 #[.agg #[.int .i64 ep, .int .i64 key, .int .i64 old], .int .i64 n] w fun e w' => e = .returned (.tuple #[.int .i64 0, errV 1]) ∧ Below w.heap.size w w'))
    (CRT : Hid (∀ w : World, Calls Tryd.prog 15 #[.agg #[.int .i64 ep, .int .i64 key, .int .i64 old]] w fun e w' => e = .returned (.tuple #[.agg #[.int .i64 x, .int .i64 y, .int .i64 z], .int .i64 te]) ∧ Below w.heap.size w w')) :
    Calls Tryd.prog 4 #[.int .i64 s, .agg #[.int .i64 ep, .int .i64 key, .int .i64 old], .int .i64 n] w fun e w' => e = .returned (.bool true) ∧ Below w.heap.size w w' := by
  have HO := hide ho
  clear ho
  go_enter Tryd.func4, Tryd.ntmps4
  go_wp2_with fail
  refine (unhide CI _).mono ?_
  rintro e w' ⟨rfl, rfl⟩
  go_wp2_with fail
  refine (unhide CN _).mono ?_
  rintro e w1 ⟨rfl, hb1⟩
  have HR1 : Hid (RingAt w1 w.heap.size ep key old) := hide (((RingAt.fresh _ _ _ _ rfl).later (by (repeat' (first | exact Below.refl _ _ | refine Below.alloc ?_ ?_ _ | refine Below.setCell ?_ ?_ _ | refine Below.drew ?_)); all_goals (first | exact Nat.le_refl _ | omega | (simp; done) | (simp; omega)))).later hb1)
  have HV1 : Hid (RingAt w1 (w.heap.size + 1) 0 0 0) := hide ((RingAt.fresh (w := w.alloc (.cells #[.int .i64 ep, .int .i64 key, .int .i64 old] 34)) _ _ _ _ (by simp)).later hb1)
  have z1 := hb1.size
  simp at z1
  have HB1 := hide (show Below w.heap.size w w1 from Below.trans (by (repeat' (first | exact Below.refl _ _ | refine Below.alloc ?_ ?_ _ | refine Below.setCell ?_ ?_ _ | refine Below.drew ?_)); all_goals (first | exact Nat.le_refl _ | omega | (simp; done) | (simp; omega))) (hb1.mono (by simp; omega)))
  clear hb1
  have HZ1 := hide z1
  clear z1
  go_wp2_with fail
  refine (same_any _ _ _ ((unhide HG).later (Below.alloc (unhide HB1) (by have := (unhide HB1).size; omega) _))).mono ?_
  rintro e w2 ⟨rfl, hb2⟩
  have HR2 := hide (((unhide HR1).later (by (repeat' (first | exact Below.refl _ _ | refine Below.alloc ?_ ?_ _ | refine Below.setCell ?_ ?_ _ | refine Below.drew ?_)); all_goals (first | exact Nat.le_refl _ | omega | (simp; done) | (simp; omega)))).later hb2)
  have HV2 := hide (((unhide HV1).later (by (repeat' (first | exact Below.refl _ _ | refine Below.alloc ?_ ?_ _ | refine Below.setCell ?_ ?_ _ | refine Below.drew ?_)); all_goals (first | exact Nat.le_refl _ | omega | (simp; done) | (simp; omega)))).later hb2)
  have HX2 : Hid (RingAt w2 w1.heap.size 0 0 0) := hide ((RingAt.fresh _ _ _ _ rfl).later hb2)
  have HB2 := hide (show Below w.heap.size w w2 from Below.trans (Below.alloc (unhide HB1) (by have := (unhide HB1).size; omega) _) (hb2.mono (by have := (unhide HB1).size; simp; omega)))
  clear hb2
  obtain ⟨⟨r0, r1, r2⟩, _, _⟩ := unhide HR2
  obtain ⟨⟨v0, v1, v2⟩, ⟨vf0, vf1, vf2⟩, _⟩ := unhide HV2
  obtain ⟨⟨x0, x1, x2⟩, ⟨xf0, xf1, xf2⟩, _⟩ := unhide HX2
  go_wp2_with fail
  refine (unhide CR _).mono ?_
  rintro e w3 ⟨rfl, hb3⟩
  have HR3 := hide ((unhide HR2).later hb3)
  have HV3 := hide ((unhide HV2).later hb3)
  have HX3 := hide ((unhide HX2).later hb3)
  have HB3 := hide (show Below w.heap.size w w3 from Below.trans (unhide HB2) (hb3.mono (unhide HB2).size))
  clear hb3
  clear r0 r1 r2 v0 v1 v2 vf0 vf1 vf2 x0 x1 x2 xf0 xf1 xf2
  obtain ⟨⟨r0, r1, r2⟩, _, _⟩ := unhide HR3
  obtain ⟨⟨v0, v1, v2⟩, ⟨vf0, vf1, vf2⟩, _⟩ := unhide HV3
  obtain ⟨⟨x0, x1, x2⟩, ⟨xf0, xf1, xf2⟩, _⟩ := unhide HX3
  go_wp2_with fail
  refine (unhide CC _).mono ?_
  rintro e w4 ⟨rfl, hb4⟩
  have HR4 := hide ((unhide HR3).later hb4)
  have HV4 := hide ((unhide HV3).later hb4)
  have HX4 := hide ((unhide HX3).later hb4)
  have HB4 := hide (show Below w.heap.size w w4 from Below.trans (unhide HB3) (hb4.mono (unhide HB3).size))
  clear hb4
  clear r0 r1 r2 v0 v1 v2 vf0 vf1 vf2 x0 x1 x2 xf0 xf1 xf2
  obtain ⟨⟨r0, r1, r2⟩, _, _⟩ := unhide HR4
  obtain ⟨⟨v0, v1, v2⟩, ⟨vf0, vf1, vf2⟩, _⟩ := unhide HV4
  obtain ⟨⟨x0, x1, x2⟩, ⟨xf0, xf1, xf2⟩, _⟩ := unhide HX4
  go_wp2_with fail
  refine (same_any _ _ _ ((unhide HG).later (unhide HB4))).mono ?_
  rintro e w5 ⟨rfl, hb5⟩
  have HR5 := hide ((unhide HR4).later hb5)
  have HV5 := hide ((unhide HV4).later hb5)
  have HX5 := hide ((unhide HX4).later hb5)
  have HB5 := hide (show Below w.heap.size w w5 from Below.trans (unhide HB4) (hb5.mono (unhide HB4).size))
  clear hb5
  clear r0 r1 r2 v0 v1 v2 vf0 vf1 vf2 x0 x1 x2 xf0 xf1 xf2
  obtain ⟨⟨r0, r1, r2⟩, _, _⟩ := unhide HR5
  obtain ⟨⟨v0, v1, v2⟩, ⟨vf0, vf1, vf2⟩, _⟩ := unhide HV5
  obtain ⟨⟨x0, x1, x2⟩, ⟨xf0, xf1, xf2⟩, _⟩ := unhide HX5
  have HRs := hide (((((unhide HR5).far (c := w.heap.size + 1) (by have := unhide HZ1; omega) 0 (.int .i64 0)).far (c := w.heap.size + 1) (by have := unhide HZ1; omega) 1 (.int .i64 0)).far (c := w.heap.size + 1) (by have := unhide HZ1; omega) 2 (.int .i64 0)))
  have HVs := hide ((unhide HV5).put 0 0 0)
  have HXs := hide (((((unhide HX5).far (c := w.heap.size + 1) (by have := unhide HZ1; omega) 0 (.int .i64 0)).far (c := w.heap.size + 1) (by have := unhide HZ1; omega) 1 (.int .i64 0)).far (c := w.heap.size + 1) (by have := unhide HZ1; omega) 2 (.int .i64 0)))
  have HBs := hide ((((unhide HB5).setCell (p := ⟨w.heap.size + 1, 0, none⟩) (by have := unhide HZ1; first | omega | (simp; done) | (simp; omega)) (.int .i64 0)).setCell (p := ⟨w.heap.size + 1, 1, none⟩) (by have := unhide HZ1; first | omega | (simp; done) | (simp; omega)) (.int .i64 0)).setCell (p := ⟨w.heap.size + 1, 2, none⟩) (by have := unhide HZ1; first | omega | (simp; done) | (simp; omega)) (.int .i64 0))
  go_wp2_with fail
  refine (unhide CRT _).mono ?_
  rintro e w6 ⟨rfl, hb6⟩
  have HR6 := hide ((unhide HRs).later hb6)
  have HV6 := hide ((unhide HVs).later hb6)
  have HX6 := hide ((unhide HXs).later hb6)
  have HB6 := hide (show Below w.heap.size w w6 from Below.trans (unhide HBs) (hb6.mono (unhide HBs).size))
  clear hb6 HRs HVs HXs HBs
  clear r0 r1 r2 v0 v1 v2 vf0 vf1 vf2 x0 x1 x2 xf0 xf1 xf2
  obtain ⟨⟨r0, r1, r2⟩, _, _⟩ := unhide HR6
  obtain ⟨⟨v0, v1, v2⟩, ⟨vf0, vf1, vf2⟩, _⟩ := unhide HV6
  obtain ⟨⟨x0, x1, x2⟩, ⟨xf0, xf1, xf2⟩, _⟩ := unhide HX6
  have HRs := hide (((((unhide HR6).far (c := w.heap.size + 1) (by have := unhide HZ1; omega) 0 (.int .i64 x)).far (c := w.heap.size + 1) (by have := unhide HZ1; omega) 1 (.int .i64 y)).far (c := w.heap.size + 1) (by have := unhide HZ1; omega) 2 (.int .i64 z)))
  have HVs := hide ((unhide HV6).put x y z)
  have HXs := hide (((((unhide HX6).far (c := w.heap.size + 1) (by have := unhide HZ1; omega) 0 (.int .i64 x)).far (c := w.heap.size + 1) (by have := unhide HZ1; omega) 1 (.int .i64 y)).far (c := w.heap.size + 1) (by have := unhide HZ1; omega) 2 (.int .i64 z)))
  have HBs := hide ((((unhide HB6).setCell (p := ⟨w.heap.size + 1, 0, none⟩) (by have := unhide HZ1; first | omega | (simp; done) | (simp; omega)) (.int .i64 x)).setCell (p := ⟨w.heap.size + 1, 1, none⟩) (by have := unhide HZ1; first | omega | (simp; done) | (simp; omega)) (.int .i64 y)).setCell (p := ⟨w.heap.size + 1, 2, none⟩) (by have := unhide HZ1; first | omega | (simp; done) | (simp; omega)) (.int .i64 z))
  go_wp2_with fail
  refine (unhide CT _).mono ?_
  rintro e w7 ⟨rfl, hb7⟩
  have HR7 := hide ((unhide HRs).later hb7)
  have HV7 := hide ((unhide HVs).later hb7)
  have HX7 := hide ((unhide HXs).later hb7)
  have HB7 := hide (show Below w.heap.size w w7 from Below.trans (unhide HBs) (hb7.mono (unhide HBs).size))
  clear hb7 HRs HVs HXs HBs
  clear r0 r1 r2 v0 v1 v2 vf0 vf1 vf2 x0 x1 x2 xf0 xf1 xf2
  obtain ⟨⟨r0, r1, r2⟩, _, _⟩ := unhide HR7
  obtain ⟨⟨v0, v1, v2⟩, ⟨vf0, vf1, vf2⟩, _⟩ := unhide HV7
  obtain ⟨⟨x0, x1, x2⟩, ⟨xf0, xf1, xf2⟩, _⟩ := unhide HX7
  have HRs := hide (((((unhide HR7).far (c := w1.heap.size) (by have := unhide HZ1; omega) 0 (.int .i64 x)).far (c := w1.heap.size) (by have := unhide HZ1; omega) 1 (.int .i64 y)).far (c := w1.heap.size) (by have := unhide HZ1; omega) 2 (.int .i64 z)))
  have HVs := hide (((((unhide HV7).far (c := w1.heap.size) (by have := unhide HZ1; omega) 0 (.int .i64 x)).far (c := w1.heap.size) (by have := unhide HZ1; omega) 1 (.int .i64 y)).far (c := w1.heap.size) (by have := unhide HZ1; omega) 2 (.int .i64 z)))
  have HXs := hide ((unhide HX7).put x y z)
  have HBs := hide ((((unhide HB7).setCell (p := ⟨w1.heap.size, 0, none⟩) (by have := unhide HZ1; first | omega | (simp; done) | (simp; omega)) (.int .i64 x)).setCell (p := ⟨w1.heap.size, 1, none⟩) (by have := unhide HZ1; first | omega | (simp; done) | (simp; omega)) (.int .i64 y)).setCell (p := ⟨w1.heap.size, 2, none⟩) (by have := unhide HZ1; first | omega | (simp; done) | (simp; omega)) (.int .i64 z))
  go_wp2_with fail
  refine (same_any _ _ _ ((unhide HG).later (unhide HBs))).mono ?_
  rintro e w8 ⟨rfl, hb8⟩
  have HR8 := hide ((unhide HRs).later hb8)
  have HV8 := hide ((unhide HVs).later hb8)
  have HX8 := hide ((unhide HXs).later hb8)
  have HB8 := hide (show Below w.heap.size w w8 from Below.trans (unhide HBs) (hb8.mono (unhide HBs).size))
  clear hb8 HRs HVs HXs HBs
  clear r0 r1 r2 v0 v1 v2 vf0 vf1 vf2 x0 x1 x2 xf0 xf1 xf2
  obtain ⟨⟨r0, r1, r2⟩, _, _⟩ := unhide HR8
  obtain ⟨⟨v0, v1, v2⟩, ⟨vf0, vf1, vf2⟩, _⟩ := unhide HV8
  obtain ⟨⟨x0, x1, x2⟩, ⟨xf0, xf1, xf2⟩, _⟩ := unhide HX8
  by_cases ho0 : n < 0
  · go_wp2_with fail
    refine (unhide CK _).mono ?_
    rintro e w9 ⟨rfl, hb9⟩
    have HR9 := hide ((unhide HR8).later hb9)
    have HV9 := hide ((unhide HV8).later hb9)
    have HX9 := hide ((unhide HX8).later hb9)
    have HB9 := hide (show Below w.heap.size w w9 from Below.trans (unhide HB8) (hb9.mono (unhide HB8).size))
    clear hb9
    clear r0 r1 r2 v0 v1 v2 vf0 vf1 vf2 x0 x1 x2 xf0 xf1 xf2
    obtain ⟨⟨r0, r1, r2⟩, _, _⟩ := unhide HR9
    obtain ⟨⟨v0, v1, v2⟩, ⟨vf0, vf1, vf2⟩, _⟩ := unhide HV9
    obtain ⟨⟨x0, x1, x2⟩, ⟨xf0, xf1, xf2⟩, _⟩ := unhide HX9
    go_wp2_with fail
    refine (same_any _ _ _ ((unhide HG).later (unhide HB9))).mono ?_
    rintro e w10 ⟨rfl, hb10⟩
    have HB10 := hide (show Below w.heap.size w w10 from Below.trans (unhide HB9) (hb10.mono (unhide HB9).size))
    clear hb10
    go_wp2
    go_ret
    exact ⟨rfl, unhide HB10⟩
  · have ho1 : 100 < n := by have := unhide HO; omega
    go_wp2_with fail
    refine (unhide CK _).mono ?_
    rintro e w9 ⟨rfl, hb9⟩
    have HR9 := hide ((unhide HR8).later hb9)
    have HV9 := hide ((unhide HV8).later hb9)
    have HX9 := hide ((unhide HX8).later hb9)
    have HB9 := hide (show Below w.heap.size w w9 from Below.trans (unhide HB8) (hb9.mono (unhide HB8).size))
    clear hb9
    clear r0 r1 r2 v0 v1 v2 vf0 vf1 vf2 x0 x1 x2 xf0 xf1 xf2
    obtain ⟨⟨r0, r1, r2⟩, _, _⟩ := unhide HR9
    obtain ⟨⟨v0, v1, v2⟩, ⟨vf0, vf1, vf2⟩, _⟩ := unhide HV9
    obtain ⟨⟨x0, x1, x2⟩, ⟨xf0, xf1, xf2⟩, _⟩ := unhide HX9
    go_wp2_with fail
    refine (same_any _ _ _ ((unhide HG).later (unhide HB9))).mono ?_
    rintro e w10 ⟨rfl, hb10⟩
    have HB10 := hide (show Below w.heap.size w w10 from Below.trans (unhide HB9) (hb10.mono (unhide HB9).size))
    clear hb10
    go_wp2
    go_ret
    exact ⟨rfl, unhide HB10⟩

set_option maxHeartbeats 6400000 in
set_option maxRecDepth 8000 in
theorem walk_no_in (s ep key old n x y z te kv ke : Int) (w : World) (HG : Hid (ErrType w)) (n0 : 0 ≤ n) (n1 : n ≤ 100) 
    (CN : Hid (∀ w : World, Calls Tryd.prog 12 #[.int .i64 s] w fun e w' => e = .returned (.tuple #[.agg #[.int .i64 0, .int .i64 0, .int .i64 0], errV 1]) ∧ Below w.heap.size w w'))
    (CI : Hid (∀ w : World, Calls Tryd.prog 10 #[.int .i64 s] w fun e w' => e = .returned (.bool false) ∧ w' = w))
    (CR : Hid (∀ w : World, Calls Tryd.prog 13 #[.agg #[.int .i64 ep, .int .i64 key, .int .i64 old]] w fun e w' => e = .returned (.int .i64 0) ∧ Below w.heap.size w w'))
    (CC : Hid (∀ w : World, Calls Tryd.prog 14 #[.agg #[.int .i64 ep, .int .i64 key, .int .i64 old]] w fun e w' => e = .returned (errV 0) ∧ Below w.heap.size w w'))
    (CT : Hid (∀ w : World, Calls Tryd.prog 16 #[.agg #[.int .i64 ep, .int .i64 key, .int .i64 old]] w fun e w' => e = .returned (.tuple #[.agg #[.int .i64 x, .int .i64 y, .int .i64 z], errV te]) ∧ Below w.heap.size w w'))
    (CK : Hid (∀ w : World, Calls Tryd.prog 18 #[.agg #[.int .i64 ep, .int .i64 key, .int .i64 old], .int .i64 n] w fun e w' => e = .returned (.tuple #[.int .i64 kv, errV ke]) ∧ Below w.heap.size w w'))
    (CRT : Hid (∀ w : World, Calls Tryd.prog 15 #[.agg #[.int .i64 ep, .int .i64 key, .int .i64 old]] w fun e w' => e = .returned (.tuple #[.agg #[.int .i64 x, .int .i64 y, .int .i64 z], .int .i64 te]) ∧ Below w.heap.size w w'))
    (CRK : Hid (∀ w : World, Calls Tryd.prog 17 #[.agg #[.int .i64 ep, .int .i64 key, .int .i64 old], .int .i64 n] w fun e w' => e = .returned (.tuple #[.int .i64 kv, .int .i64 ke]) ∧ Below w.heap.size w w')) :
    Calls Tryd.prog 4 #[.int .i64 s, .agg #[.int .i64 ep, .int .i64 key, .int .i64 old], .int .i64 n] w fun e w' => e = .returned (.bool true) ∧ Below w.heap.size w w' := by
  have n2 : ¬ n < 0 := by omega
  have n3 : ¬ 100 < n := by omega
  go_enter Tryd.func4, Tryd.ntmps4
  go_wp2_with fail
  refine (unhide CI _).mono ?_
  rintro e w' ⟨rfl, rfl⟩
  go_wp2_with fail
  refine (unhide CN _).mono ?_
  rintro e w1 ⟨rfl, hb1⟩
  have HR1 : Hid (RingAt w1 w.heap.size ep key old) := hide (((RingAt.fresh _ _ _ _ rfl).later (by (repeat' (first | exact Below.refl _ _ | refine Below.alloc ?_ ?_ _ | refine Below.setCell ?_ ?_ _ | refine Below.drew ?_)); all_goals (first | exact Nat.le_refl _ | omega | (simp; done) | (simp; omega)))).later hb1)
  have HV1 : Hid (RingAt w1 (w.heap.size + 1) 0 0 0) := hide ((RingAt.fresh (w := w.alloc (.cells #[.int .i64 ep, .int .i64 key, .int .i64 old] 34)) _ _ _ _ (by simp)).later hb1)
  have z1 := hb1.size
  simp at z1
  have HB1 := hide (show Below w.heap.size w w1 from Below.trans (by (repeat' (first | exact Below.refl _ _ | refine Below.alloc ?_ ?_ _ | refine Below.setCell ?_ ?_ _ | refine Below.drew ?_)); all_goals (first | exact Nat.le_refl _ | omega | (simp; done) | (simp; omega))) (hb1.mono (by simp; omega)))
  clear hb1
  have HZ1 := hide z1
  clear z1
  go_wp2_with fail
  refine (same_any _ _ _ ((unhide HG).later (Below.alloc (unhide HB1) (by have := (unhide HB1).size; omega) _))).mono ?_
  rintro e w2 ⟨rfl, hb2⟩
  have HR2 := hide (((unhide HR1).later (by (repeat' (first | exact Below.refl _ _ | refine Below.alloc ?_ ?_ _ | refine Below.setCell ?_ ?_ _ | refine Below.drew ?_)); all_goals (first | exact Nat.le_refl _ | omega | (simp; done) | (simp; omega)))).later hb2)
  have HV2 := hide (((unhide HV1).later (by (repeat' (first | exact Below.refl _ _ | refine Below.alloc ?_ ?_ _ | refine Below.setCell ?_ ?_ _ | refine Below.drew ?_)); all_goals (first | exact Nat.le_refl _ | omega | (simp; done) | (simp; omega)))).later hb2)
  have HX2 : Hid (RingAt w2 w1.heap.size 0 0 0) := hide ((RingAt.fresh _ _ _ _ rfl).later hb2)
  have HB2 := hide (show Below w.heap.size w w2 from Below.trans (Below.alloc (unhide HB1) (by have := (unhide HB1).size; omega) _) (hb2.mono (by have := (unhide HB1).size; simp; omega)))
  clear hb2
  obtain ⟨⟨r0, r1, r2⟩, _, _⟩ := unhide HR2
  obtain ⟨⟨v0, v1, v2⟩, ⟨vf0, vf1, vf2⟩, _⟩ := unhide HV2
  obtain ⟨⟨x0, x1, x2⟩, ⟨xf0, xf1, xf2⟩, _⟩ := unhide HX2
  go_wp2_with fail
  refine (unhide CR _).mono ?_
  rintro e w3 ⟨rfl, hb3⟩
  have HR3 := hide ((unhide HR2).later hb3)
  have HV3 := hide ((unhide HV2).later hb3)
  have HX3 := hide ((unhide HX2).later hb3)
  have HB3 := hide (show Below w.heap.size w w3 from Below.trans (unhide HB2) (hb3.mono (unhide HB2).size))
  clear hb3
  clear r0 r1 r2 v0 v1 v2 vf0 vf1 vf2 x0 x1 x2 xf0 xf1 xf2
  obtain ⟨⟨r0, r1, r2⟩, _, _⟩ := unhide HR3
  obtain ⟨⟨v0, v1, v2⟩, ⟨vf0, vf1, vf2⟩, _⟩ := unhide HV3
  obtain ⟨⟨x0, x1, x2⟩, ⟨xf0, xf1, xf2⟩, _⟩ := unhide HX3
  go_wp2_with fail
  refine (unhide CC _).mono ?_
  rintro e w4 ⟨rfl, hb4⟩
  have HR4 := hide ((unhide HR3).later hb4)
  have HV4 := hide ((unhide HV3).later hb4)
  have HX4 := hide ((unhide HX3).later hb4)
  have HB4 := hide (show Below w.heap.size w w4 from Below.trans (unhide HB3) (hb4.mono (unhide HB3).size))
  clear hb4
  clear r0 r1 r2 v0 v1 v2 vf0 vf1 vf2 x0 x1 x2 xf0 xf1 xf2
  obtain ⟨⟨r0, r1, r2⟩, _, _⟩ := unhide HR4
  obtain ⟨⟨v0, v1, v2⟩, ⟨vf0, vf1, vf2⟩, _⟩ := unhide HV4
  obtain ⟨⟨x0, x1, x2⟩, ⟨xf0, xf1, xf2⟩, _⟩ := unhide HX4
  go_wp2_with fail
  refine (same_any _ _ _ ((unhide HG).later (unhide HB4))).mono ?_
  rintro e w5 ⟨rfl, hb5⟩
  have HR5 := hide ((unhide HR4).later hb5)
  have HV5 := hide ((unhide HV4).later hb5)
  have HX5 := hide ((unhide HX4).later hb5)
  have HB5 := hide (show Below w.heap.size w w5 from Below.trans (unhide HB4) (hb5.mono (unhide HB4).size))
  clear hb5
  clear r0 r1 r2 v0 v1 v2 vf0 vf1 vf2 x0 x1 x2 xf0 xf1 xf2
  obtain ⟨⟨r0, r1, r2⟩, _, _⟩ := unhide HR5
  obtain ⟨⟨v0, v1, v2⟩, ⟨vf0, vf1, vf2⟩, _⟩ := unhide HV5
  obtain ⟨⟨x0, x1, x2⟩, ⟨xf0, xf1, xf2⟩, _⟩ := unhide HX5
  have HRs := hide (((((unhide HR5).far (c := w.heap.size + 1) (by have := unhide HZ1; omega) 0 (.int .i64 0)).far (c := w.heap.size + 1) (by have := unhide HZ1; omega) 1 (.int .i64 0)).far (c := w.heap.size + 1) (by have := unhide HZ1; omega) 2 (.int .i64 0)))
  have HVs := hide ((unhide HV5).put 0 0 0)
  have HXs := hide (((((unhide HX5).far (c := w.heap.size + 1) (by have := unhide HZ1; omega) 0 (.int .i64 0)).far (c := w.heap.size + 1) (by have := unhide HZ1; omega) 1 (.int .i64 0)).far (c := w.heap.size + 1) (by have := unhide HZ1; omega) 2 (.int .i64 0)))
  have HBs := hide ((((unhide HB5).setCell (p := ⟨w.heap.size + 1, 0, none⟩) (by have := unhide HZ1; first | omega | (simp; done) | (simp; omega)) (.int .i64 0)).setCell (p := ⟨w.heap.size + 1, 1, none⟩) (by have := unhide HZ1; first | omega | (simp; done) | (simp; omega)) (.int .i64 0)).setCell (p := ⟨w.heap.size + 1, 2, none⟩) (by have := unhide HZ1; first | omega | (simp; done) | (simp; omega)) (.int .i64 0))
  go_wp2_with fail
  refine (unhide CRT _).mono ?_
  rintro e w6 ⟨rfl, hb6⟩
  have HR6 := hide ((unhide HRs).later hb6)
  have HV6 := hide ((unhide HVs).later hb6)
  have HX6 := hide ((unhide HXs).later hb6)
  have HB6 := hide (show Below w.heap.size w w6 from Below.trans (unhide HBs) (hb6.mono (unhide HBs).size))
  clear hb6 HRs HVs HXs HBs
  clear r0 r1 r2 v0 v1 v2 vf0 vf1 vf2 x0 x1 x2 xf0 xf1 xf2
  obtain ⟨⟨r0, r1, r2⟩, _, _⟩ := unhide HR6
  obtain ⟨⟨v0, v1, v2⟩, ⟨vf0, vf1, vf2⟩, _⟩ := unhide HV6
  obtain ⟨⟨x0, x1, x2⟩, ⟨xf0, xf1, xf2⟩, _⟩ := unhide HX6
  have HRs := hide (((((unhide HR6).far (c := w.heap.size + 1) (by have := unhide HZ1; omega) 0 (.int .i64 x)).far (c := w.heap.size + 1) (by have := unhide HZ1; omega) 1 (.int .i64 y)).far (c := w.heap.size + 1) (by have := unhide HZ1; omega) 2 (.int .i64 z)))
  have HVs := hide ((unhide HV6).put x y z)
  have HXs := hide (((((unhide HX6).far (c := w.heap.size + 1) (by have := unhide HZ1; omega) 0 (.int .i64 x)).far (c := w.heap.size + 1) (by have := unhide HZ1; omega) 1 (.int .i64 y)).far (c := w.heap.size + 1) (by have := unhide HZ1; omega) 2 (.int .i64 z)))
  have HBs := hide ((((unhide HB6).setCell (p := ⟨w.heap.size + 1, 0, none⟩) (by have := unhide HZ1; first | omega | (simp; done) | (simp; omega)) (.int .i64 x)).setCell (p := ⟨w.heap.size + 1, 1, none⟩) (by have := unhide HZ1; first | omega | (simp; done) | (simp; omega)) (.int .i64 y)).setCell (p := ⟨w.heap.size + 1, 2, none⟩) (by have := unhide HZ1; first | omega | (simp; done) | (simp; omega)) (.int .i64 z))
  go_wp2_with fail
  refine (unhide CT _).mono ?_
  rintro e w7 ⟨rfl, hb7⟩
  have HR7 := hide ((unhide HRs).later hb7)
  have HV7 := hide ((unhide HVs).later hb7)
  have HX7 := hide ((unhide HXs).later hb7)
  have HB7 := hide (show Below w.heap.size w w7 from Below.trans (unhide HBs) (hb7.mono (unhide HBs).size))
  clear hb7 HRs HVs HXs HBs
  clear r0 r1 r2 v0 v1 v2 vf0 vf1 vf2 x0 x1 x2 xf0 xf1 xf2
  obtain ⟨⟨r0, r1, r2⟩, _, _⟩ := unhide HR7
  obtain ⟨⟨v0, v1, v2⟩, ⟨vf0, vf1, vf2⟩, _⟩ := unhide HV7
  obtain ⟨⟨x0, x1, x2⟩, ⟨xf0, xf1, xf2⟩, _⟩ := unhide HX7
  have HRs := hide (((((unhide HR7).far (c := w1.heap.size) (by have := unhide HZ1; omega) 0 (.int .i64 x)).far (c := w1.heap.size) (by have := unhide HZ1; omega) 1 (.int .i64 y)).far (c := w1.heap.size) (by have := unhide HZ1; omega) 2 (.int .i64 z)))
  have HVs := hide (((((unhide HV7).far (c := w1.heap.size) (by have := unhide HZ1; omega) 0 (.int .i64 x)).far (c := w1.heap.size) (by have := unhide HZ1; omega) 1 (.int .i64 y)).far (c := w1.heap.size) (by have := unhide HZ1; omega) 2 (.int .i64 z)))
  have HXs := hide ((unhide HX7).put x y z)
  have HBs := hide ((((unhide HB7).setCell (p := ⟨w1.heap.size, 0, none⟩) (by have := unhide HZ1; first | omega | (simp; done) | (simp; omega)) (.int .i64 x)).setCell (p := ⟨w1.heap.size, 1, none⟩) (by have := unhide HZ1; first | omega | (simp; done) | (simp; omega)) (.int .i64 y)).setCell (p := ⟨w1.heap.size, 2, none⟩) (by have := unhide HZ1; first | omega | (simp; done) | (simp; omega)) (.int .i64 z))
  go_wp2_with fail
  refine (same_any _ _ _ ((unhide HG).later (unhide HBs))).mono ?_
  rintro e w8 ⟨rfl, hb8⟩
  have HR8 := hide ((unhide HRs).later hb8)
  have HV8 := hide ((unhide HVs).later hb8)
  have HX8 := hide ((unhide HXs).later hb8)
  have HB8 := hide (show Below w.heap.size w w8 from Below.trans (unhide HBs) (hb8.mono (unhide HBs).size))
  clear hb8 HRs HVs HXs HBs
  clear r0 r1 r2 v0 v1 v2 vf0 vf1 vf2 x0 x1 x2 xf0 xf1 xf2
  obtain ⟨⟨r0, r1, r2⟩, _, _⟩ := unhide HR8
  obtain ⟨⟨v0, v1, v2⟩, ⟨vf0, vf1, vf2⟩, _⟩ := unhide HV8
  obtain ⟨⟨x0, x1, x2⟩, ⟨xf0, xf1, xf2⟩, _⟩ := unhide HX8
  go_wp2_with fail
  refine (unhide CRK _).mono ?_
  rintro e w9 ⟨rfl, hb9⟩
  have HR9 := hide ((unhide HR8).later hb9)
  have HV9 := hide ((unhide HV8).later hb9)
  have HX9 := hide ((unhide HX8).later hb9)
  have HB9 := hide (show Below w.heap.size w w9 from Below.trans (unhide HB8) (hb9.mono (unhide HB8).size))
  clear hb9
  clear r0 r1 r2 v0 v1 v2 vf0 vf1 vf2 x0 x1 x2 xf0 xf1 xf2
  obtain ⟨⟨r0, r1, r2⟩, _, _⟩ := unhide HR9
  obtain ⟨⟨v0, v1, v2⟩, ⟨vf0, vf1, vf2⟩, _⟩ := unhide HV9
  obtain ⟨⟨x0, x1, x2⟩, ⟨xf0, xf1, xf2⟩, _⟩ := unhide HX9
  go_wp2_with fail
  refine (unhide CK _).mono ?_
  rintro e w10 ⟨rfl, hb10⟩
  have HR10 := hide ((unhide HR9).later hb10)
  have HV10 := hide ((unhide HV9).later hb10)
  have HX10 := hide ((unhide HX9).later hb10)
  have HB10 := hide (show Below w.heap.size w w10 from Below.trans (unhide HB9) (hb10.mono (unhide HB9).size))
  clear hb10
  clear r0 r1 r2 v0 v1 v2 vf0 vf1 vf2 x0 x1 x2 xf0 xf1 xf2
  obtain ⟨⟨r0, r1, r2⟩, _, _⟩ := unhide HR10
  obtain ⟨⟨v0, v1, v2⟩, ⟨vf0, vf1, vf2⟩, _⟩ := unhide HV10
  obtain ⟨⟨x0, x1, x2⟩, ⟨xf0, xf1, xf2⟩, _⟩ := unhide HX10
  go_wp2_with fail
  refine (same_any _ _ _ ((unhide HG).later (unhide HB10))).mono ?_
  rintro e w11 ⟨rfl, hb11⟩
  have HB11 := hide (show Below w.heap.size w w11 from Below.trans (unhide HB10) (hb11.mono (unhide HB10).size))
  clear hb11
  go_wp2
  go_ret
  exact ⟨rfl, unhide HB11⟩

theorem errV_one : errV 1 = .iface 48 (.int .i64 1) := errV_pos (by omega)

theorem walk (a0 : Int) (a1_0 a1_1 a1_2 : Int) (a2 : Int) (w : World) (w0 : (Lit.int .i64 a0).wf = true) (w1_0 : (Lit.int .i64 a1_0).wf = true) (w1_1 : (Lit.int .i64 a1_1).wf = true) (w1_2 : (Lit.int .i64 a1_2).wf = true) (w2 : (Lit.int .i64 a2).wf = true) (hg : ErrType w) :
    Calls Tryd.prog 4 #[.int .i64 a0, .agg #[.int .i64 a1_0, .int .i64 a1_1, .int .i64 a1_2], .int .i64 a2] w fun e w' => e = .returned (.bool true) ∧ Below w.heap.size w w' := by
  have CR := hide (fun w => ref_ring a1_0 a1_1 a1_2 w)
  have CC := hide (fun w => rcheck_any a1_0 a1_1 a1_2 w)
  obtain ⟨x, y, z, hT, hT0, hT1⟩ := rturn_any a1_0 a1_1 a1_2
  have CT := hide hT
  have CK := hide (fun w => rkey_any a1_0 a1_1 a1_2 a2 w)
  have HG := hide hg
  by_cases hs : 0 ≤ a0 ∧ a0 < 999983
  · have CN : Hid (∀ w : World, Calls Tryd.prog 12 #[.int .i64 a0] w fun e w' => e = .returned (.tuple #[.agg #[.int .i64 0, .int .i64 (TagM.tag a0 [0]), .int .i64 0], errV 0]) ∧ Below w.heap.size w w') := hide (fun w => by rw [errV_zero rfl]; exact rnew_yes a0 w hs.1 hs.2)
    have CI := hide (fun w => in_yes a0 w hs.1 hs.2)
    have CG := hide (fun b w hc => tag1 a0 0 b w hc hs.1 hs.2 (by omega) (by omega))
    by_cases he : RingM.err a1_0 a1_1 a1_2 = 0
    · rw [he] at CR CC
      have CRT : Hid (∀ w : World, Calls Tryd.prog 15 #[.agg #[.int .i64 a1_0, .int .i64 a1_1, .int .i64 a1_2]] w fun e w' => e = .returned (.tuple #[.agg #[.int .i64 x, .int .i64 y, .int .i64 z], .int .i64 (RingM.turnErr a1_0 a1_1 a1_2)]) ∧ Below w.heap.size w w') := hide (fun w => ref_turn_any he hT0 hT1 w)
      by_cases hn : 0 ≤ a2 ∧ a2 ≤ 100
      · exact walk_in_in a0 a1_0 a1_1 a1_2 a2 _ x y z _ _ _ w HG hn.1 hn.2 CN CI CR CC CT CK CG CRT (hide (fun w => ref_key w he hn.1 hn.2))
      · have hk : RingM.keyErr a1_0 a1_1 a1_2 a2 = 1 := by unfold RingM.keyErr; rw [if_pos he, if_pos (by omega)]
        rw [hk, if_neg (by omega)] at CK
        exact walk_in_out a0 a1_0 a1_1 a1_2 a2 _ x y z _ w HG (by omega) CN CI CR CC CT CK CG CRT
    · have ht : RingM.turnErr a1_0 a1_1 a1_2 = RingM.err a1_0 a1_1 a1_2 := by unfold RingM.turnErr; rw [if_neg he]
      have hk : RingM.keyErr a1_0 a1_1 a1_2 a2 = RingM.err a1_0 a1_1 a1_2 := by unfold RingM.keyErr; rw [if_neg he]
      obtain ⟨rfl, rfl, rfl⟩ := hT1 (by rw [ht]; exact he)
      rw [ht] at CT
      rw [hk, if_neg he] at CK
      exact walk_in_bad a0 a1_0 a1_1 a1_2 a2 _ _ w HG he CN CI CR CC CT CK CG
  · have hs' : a0 < 0 ∨ 999983 ≤ a0 := by omega
    have CN : Hid (∀ w : World, Calls Tryd.prog 12 #[.int .i64 a0] w fun e w' => e = .returned (.tuple #[.agg #[.int .i64 0, .int .i64 0, .int .i64 0], errV 1]) ∧ Below w.heap.size w w') := hide (fun w => by rw [errV_one]; exact rnew_no a0 w hs')
    have CI := hide (fun w => in_no a0 w hs')
    by_cases he : RingM.err a1_0 a1_1 a1_2 = 0
    · rw [he] at CR CC
      have CRT : Hid (∀ w : World, Calls Tryd.prog 15 #[.agg #[.int .i64 a1_0, .int .i64 a1_1, .int .i64 a1_2]] w fun e w' => e = .returned (.tuple #[.agg #[.int .i64 x, .int .i64 y, .int .i64 z], .int .i64 (RingM.turnErr a1_0 a1_1 a1_2)]) ∧ Below w.heap.size w w') := hide (fun w => ref_turn_any he hT0 hT1 w)
      by_cases hn : 0 ≤ a2 ∧ a2 ≤ 100
      · exact walk_no_in a0 a1_0 a1_1 a1_2 a2 x y z _ _ _ w HG hn.1 hn.2 CN CI CR CC CT CK CRT (hide (fun w => ref_key w he hn.1 hn.2))
      · have hk : RingM.keyErr a1_0 a1_1 a1_2 a2 = 1 := by unfold RingM.keyErr; rw [if_pos he, if_pos (by omega)]
        rw [hk, if_neg (by omega)] at CK
        exact walk_no_out a0 a1_0 a1_1 a1_2 a2 x y z _ w HG (by omega) CN CI CR CC CT CK CRT
    · have ht : RingM.turnErr a1_0 a1_1 a1_2 = RingM.err a1_0 a1_1 a1_2 := by unfold RingM.turnErr; rw [if_neg he]
      have hk : RingM.keyErr a1_0 a1_1 a1_2 a2 = RingM.err a1_0 a1_1 a1_2 := by unfold RingM.keyErr; rw [if_neg he]
      obtain ⟨rfl, rfl, rfl⟩ := hT1 (by rw [ht]; exact he)
      rw [ht] at CT
      rw [hk, if_neg he] at CK
      exact walk_no_bad a0 a1_0 a1_1 a1_2 a2 _ w HG he CN CI CR CC CT CK


theorem gErr : Tryd.prog.globalNamed "errors.errorType" = some 0 := by kernel_rfl
theorem rtErr : (Tryd.prog.cutTypes.find? (·.1 == "internal/reflectlite.rtype")).map (·.2) = some 67 := by kernel_rfl
theorem oneRow : ((List.range 110).filter fun t => Tryd.prog.rowNamed t [101, 114, 114, 111, 114]) = [25] := by kernel_rfl
theorem sizeT : Tryd.prog.types.size = 110 := by kernel_rfl
theorem handle_of_laid {W : World} (h : laidMetH Tryd.prog Rows.ringTellsRow.laid W) : ErrType W := by
  have h' : laidMet Tryd.prog [] W ∧ handlesMet Tryd.prog Rows.ringTellsRow.laid W := h
  obtain ⟨name, u, ty, e1, e2, e3, e4, e5⟩ := h'.2 _ (List.mem_singleton.2 rfl)
  have en : name = [101, 114, 114, 111, 114] := (Option.some.inj e1).symm
  subst en
  obtain rfl := Option.some.inj (rtErr.symm.trans e2)
  have hm : ty ∈ (List.range 110).filter fun t => Tryd.prog.rowNamed t [101, 114, 114, 111, 114] := List.mem_filter.2 ⟨List.mem_range.2 (by rw [← sizeT]; exact e3), e4⟩
  rw [oneRow] at hm
  obtain rfl := List.mem_singleton.1 hm
  have hh : typeHandle Tryd.prog 25 = .pointer (some ⟨1, 25, none⟩) := by kernel_rfl
  rw [hh] at e5
  unfold ErrType
  simpa using World.var?_cell gErr e5 0
theorem door_met (os : Os) (args : Array Value) : laidMetH Tryd.prog Rows.ringTellsRow.laid ((World.doorLaid Tryd.prog 400 os).forCall (fun _ _ => 0) ⟨#[], args, []⟩).memory :=
  laidMetH_of_parts (laidMet_nil _ _) (by kernel_rfl)


set_option maxRecDepth 100000 in
theorem lifted (os : Os) (started : os.Started) (H : Type) (enc : TypeId × Value → H) :
    ReturnsInHanded {} Tryd.checked os 4 .any (fun w args => (Rows.ringTellsSpec.pre enc Tryd.prog Tryd.f4 [] false w args ∧ laidMetH Tryd.prog Rows.ringTellsRow.laid w) ∧ sizedMet enc Tryd.prog Tryd.f4 (OpenSpec.ofChange Rows.ringTellsSpec) false w args) (Rows.ringTellsSpec.post enc Tryd.prog Tryd.f4 false true false false) := by
  refine returnsInHanded_of_change_and (C := Tryd.checked) (X := fun w _ => laidMetH Tryd.prog Rows.ringTellsRow.laid w) (fun _ _ _ hh h => h.of_heap hh) own started (by kernel_rfl) Tryd.func4
    (ChangeSpec.witness_shaped (enc := enc) (C := Tryd.checked) (os := os) (X := fun w _ => laidMetH Tryd.prog Rows.ringTellsRow.laid w) false (World.doorLaid Tryd.prog 400 os) #[.int .i64 0, .agg #[.int .i64 0, .int .i64 0, .int .i64 0], .int .i64 0] 8 rfl (World.shaped_of_RefB (by kernel_rfl) (by kernel_rfl)) (by kernel_rfl) (by kernel_rfl) (by kernel_rfl) (door_met os _)) ?_
  intro W base args ds gs before hval0 hW _ hsz hL _
  have hg := handle_of_laid hL
  have hval : ∀ (j : Nat) t v, Tryd.f4.params[j]? = some t → args[j]? = some v → Value.okWide Tryd.prog W .any base t v := hval0
  have hW' := hW
  obtain ⟨p, q, hA0, hV, rfl, hfz, hnd⟩ := hW
  have hA : DataW.TrodAll enc Tryd.prog W 0 (fun _ => true) true Tryd.f4.params.toList args.toList ds p := hA0
  rw [Tryd.params4] at hA hval
  obtain ⟨v0, vs0, d0, ds0, p0, q0, hargs, rfl, rfl, h0, r0⟩ := trodAll_cons hA
  obtain ⟨v1, vs1, d1, ds1, p1, q1, rfl, rfl, rfl, h1, r1⟩ := trodAll_cons r0
  obtain ⟨v2, vs2, d2, ds2, p2, q2, rfl, rfl, rfl, h2, r2⟩ := trodAll_cons r1
  obtain ⟨rfl, rfl, rfl⟩ := trodAll_nil r2
  obtain rfl : args = #[v0, v1, v2] := by cases args; simp_all
  obtain ⟨rfl, rfl⟩ := trodVars_none hV
  have k0 := h0
  have lt0 : ∀ x ∈ p0, x.block < W.heap.size := by obtain ⟨m, hm⟩ := k0; exact DataW.trod_lt m _ _ _ hm
  obtain ⟨a0, rfl, rfl, rfl, w0⟩ := open_int Tryd.underlying3 (hval 0 3 v0 rfl rfl) h0
  have k1 := h1
  have lt1 : ∀ x ∈ p1, x.block < W.heap.size := by obtain ⟨m, hm⟩ := k1; exact DataW.trod_lt m _ _ _ hm
  obtain ⟨c1_0, c1_1, c1_2, y1_0, y1_1, y1_2, m1, rfl, rfl, rfl, g1_0, g1_1, g1_2⟩ := open_agg3 Tryd.underlying34 (by kernel_rfl) (by kernel_rfl) (hval 1 34 v1 rfl rfl) h1
  obtain ⟨a1_0, e1_0, rfl, w1_0⟩ := DataW.trod_int Tryd.underlying3 g1_0
  simp at e1_0; subst e1_0
  obtain ⟨a1_1, e1_1, rfl, w1_1⟩ := DataW.trod_int Tryd.underlying3 g1_1
  simp at e1_1; subst e1_1
  obtain ⟨a1_2, e1_2, rfl, w1_2⟩ := DataW.trod_int Tryd.underlying3 g1_2
  simp at e1_2; subst e1_2
  have k2 := h2
  have lt2 : ∀ x ∈ p2, x.block < W.heap.size := by obtain ⟨m, hm⟩ := k2; exact DataW.trod_lt m _ _ _ hm
  obtain ⟨a2, rfl, rfl, rfl, w2⟩ := open_int Tryd.underlying3 (hval 2 3 v2 rfl rfl) h2
  clear hA0 hval0
  refine (walk a0 a1_0 a1_1 a1_2 a2 W w0 w1_0 w1_1 w1_2 w2 hg).mono fun e W' ⟨he, bel⟩ => ?_
  subst he
  exact ⟨_, rfl, _, _, _, [], _, [], hW', trodAll_mk1 (shut_bool Tryd.underlying4 _), (trodAll_cons_mk (Below.trod laidOut (by kernel_rfl) (of_decide_eq_true (by kernel_rfl)) k0 bel lt0) (trodAll_cons_mk (Below.trod laidOut (by kernel_rfl) (of_decide_eq_true (by kernel_rfl)) k1 bel lt1) (trodAll_cons_mk (Below.trod laidOut (by kernel_rfl) (of_decide_eq_true (by kernel_rfl)) k2 bel lt2) trodAll_mk0))), rfl, bel.frame _, fun h => by cases h⟩

theorem over : Rows.ringTellsRow.holds Tryd.pinned (OpenSpec.ofChange Rows.ringTellsSpec) :=
  OpenClaim.holds_of_wide 4 Tryd.f4 rfl rfl rfl rfl rfl rfl rfl ⟨rfl, rfl, rfl, rfl, rfl⟩ rfl rfl rfl rfl rfl (by kernel_rfl) Tryd.func4 (by kernel_rfl)
    (of_decide_eq_true (by kernel_rfl)) (by unfold Func.isWrapper; first | (rw [if_pos (by decide +kernel)]; kernel_rfl) | (rw [if_neg (by decide +kernel)]; exact ⟨rfl, rfl⟩))
    (fun os started H enc _ => lifted os started H enc)

theorem card : Rows.RingTellsCardSaid :=
  Claim7.holds_tied_plain_at .later [] [.handle] true (true, "d5c11abbc996e12a781b115e5465665958494cced519fd7e992174785b498fc1") true
    over (fun _ h => by cases h) (by kernel_rfl) (fun _ h => by cases h) ringTells_row_tie rfl ⟨rfl, rfl⟩ (by kernel_rfl) rfl
    (fun f fn hf hfn => by
      obtain rfl : f = 4 := Option.some.inj ((show Tryd.prog.funcNamed "tokenfold/foldlaw1.RingTells" = some 4 by kernel_rfl).symm.trans hf) |>.symm
      obtain rfl : fn = Tryd.f4 := (Option.some.inj (Tryd.func4.symm.trans hfn)).symm
      exact ⟨by kernel_rfl, fun j t ht => by
        rw [Tryd.params4] at ht
        have hm : t ∈ [3, 34, 3] := by simpa using Array.mem_of_getElem? ht
        have hall : ([3, 34, 3].all fun u => !Tryd.prog.wantsStandIn u) = true := by kernel_rfl
        exact (show Tryd.prog.wantsStandIn t = false by simpa using List.all_eq_true.1 hall t hm)⟩)
    (by kernel_rfl)

end Go.Proofs.YtkfijiklmmdmfaaDoor.ringTells
namespace Go.Proofs.YtkfijiklmmdmfaaDoor
theorem ringTells_holds : Rows.RingTellsCardSaid := ringTells.card
#print axioms ringTells_holds
end Go.Proofs.YtkfijiklmmdmfaaDoor

