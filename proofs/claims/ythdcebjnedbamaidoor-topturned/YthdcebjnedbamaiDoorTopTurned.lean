/-
  TopTurned holds for every seed, any turns, every address, every time and every number: tokens and tickets of an epoch are right in it and in the next, and in none behind. The listed variable errors.errorType starts as the program's text lays it (the card's tie). No other condition.
-/
import Derived.Test.YthdcebjnedbamaiDoorTurnedYes
import Derived.Test.YthdcebjnedbamaiDoorTurnedNo
import Derived.Test.YthdcebjnedbamaiDoorJudgeWalks
import Derived.Test.YthdcebjnedbamaiDoorOneWalks
import Derived.Deep.Cut
import Derived.Test.YthdcebjnedbamaiDoorTie
import Derived.Test.YthdcebjnedbamaiDoorCards
import Derived.ProofKit
import Derived.Lib.SmallJoins
import Derived.LaidMore
import Derived.LaidHandle
import Derived.LaidLaws
import Derived.Stop.Joined
import Derived.SevenTiedAt
namespace Go.Proofs.YthdcebjnedbamaiDoor.topTurned
open Go.ChangeShapes Go.WideShapes Go.ChangeAt Go.RowKit Go.Joins
set_option linter.unusedVariables false

theorem own : ownKnob Tryd.prog.godebug = none := by kernel_rfl
theorem laidOut : laidOutB Tryd.prog = true := by kernel_rfl
def IsRow (k : IntKind) (w : World) (a : Option Addr) (len cap : Nat) (zs : List Int) : Prop :=
  (a = none ∧ len = 0 ∧ cap = 0 ∧ zs = []) ∨
  ∃ x, a = some x ∧ len ≤ cap ∧ cap ≤ maxLen ∧ zs.length = cap ∧ (∀ i, i < zs.length → w.cell? (x.add i) = some (.int k (zs.getD i 0))) ∧ ∀ n ∈ zs, (Lit.int k n).wf = true
def IsStrs (w : World) (a : Option Addr) (len cap : Nat) (zs : List ByteArray) : Prop :=
  (a = none ∧ len = 0 ∧ cap = 0 ∧ zs = []) ∨
  ∃ x, a = some x ∧ len ≤ cap ∧ cap ≤ maxLen ∧ zs.length = cap ∧ (∀ i, i < zs.length → w.cell? (x.add i) = some (.string (zs.getD i ByteArray.empty))) ∧ ∀ s ∈ zs, s.size ≤ maxLen
def IsPairs (w : World) (a : Option Addr) (len cap : Nat) (zs : List (Int × Int)) : Prop :=
  (a = none ∧ len = 0 ∧ cap = 0 ∧ zs = []) ∨
  ∃ x, a = some x ∧ len ≤ cap ∧ cap ≤ maxLen ∧ zs.length = cap ∧ ∀ i, i < cap → w.cell? (x.add (i * 2)) = some (.int .i64 (zs.getD i (0, 0)).1) ∧ w.cell? (x.add (i * 2 + 1)) = some (.int .i64 (zs.getD i (0, 0)).2)
def IsRows (w : World) (a : Option Addr) (len cap : Nat) (A : Nat → Option Addr) (L C : Nat → Nat) (Z : Nat → List Int) : Prop :=
  (a = none ∧ len = 0 ∧ cap = 0) ∨
  ∃ x, a = some x ∧ len ≤ cap ∧ cap ≤ maxLen ∧ ∀ r, r < cap → w.cell? (x.add r) = some (.slice (A r) (L r) (C r)) ∧ L r ≤ C r ∧ C r ≤ maxLen ∧ (Z r).length = C r ∧ (∀ n ∈ Z r, (Lit.int .i64 n).wf = true) ∧ (A r = none → C r = 0) ∧
    ∀ a', A r = some a' → ∀ c, c < C r → w.cell? (a'.add c) = some (.int .i64 ((Z r).getD c 0))


/-- A ticket that was made, asked by the ring as it was turned once; and as it was turned more often. -/
theorem ticket_turned {K k1 n t : Int} (h : TokenM.makeErr 0 K 0 n t = 0) (hr : RingM.err 1 k1 K = 0) : TicketM.checkErr 1 k1 K 0 n t (TagM.tag K [2, n, t]) t = 0 := by
  obtain ⟨he, ha, ht⟩ := TokenM.make_zero.1 h
  rw [TicketM.check_last hr (TicketM.okB_iff.2 ⟨ht, ha, ht, (TagM.inB_iff _).2 (TagM.tag_bd _ _)⟩) (RingM.key_zero.2 ⟨hr, by omega, .inr (by omega)⟩)]
  unfold TicketM.lastErr TokenM.keyOf
  rw [if_neg (show ¬ (0 : Int) = 1 by omega), if_pos rfl, if_neg (show ¬ t < t by omega)]
theorem key_late {k k1 k0 : Int} (hk : 0 < k) (hr : RingM.err (k + 1) k1 k0 = 0) : RingM.keyErr (k + 1) k1 k0 0 = 9 := by
  unfold RingM.keyErr; rw [if_pos hr, if_neg (by omega), if_pos (by omega)]
theorem ticket_late {K k k1 k0 n t : Int} (h : TokenM.makeErr 0 K 0 n t = 0) (hk : 0 < k) (hr : RingM.err (k + 1) k1 k0 = 0) : TicketM.checkErr (k + 1) k1 k0 0 n t (TagM.tag K [2, n, t]) t = 9 := by
  obtain ⟨he, ha, ht⟩ := TokenM.make_zero.1 h
  rw [TicketM.check_key hr (TicketM.okB_iff.2 ⟨ht, ha, ht, (TagM.inB_iff _).2 (TagM.tag_bd _ _)⟩) (by rw [key_late hk hr]; omega), key_late hk hr]
theorem token_late {K k k1 k0 a t : Int} (h : TokenM.makeErr 0 K 0 a t = 0) (hk : 0 < k) (hr : RingM.err (k + 1) k1 k0 = 0) : TokenM.checkErr (k + 1) k1 k0 0 a t (TagM.tag K [1, a, t]) a t 0 = 9 := by
  obtain ⟨he, ha, ht⟩ := TokenM.make_zero.1 h
  rw [TokenM.check_key hr (TokenM.okB_iff.2 ⟨ha, ht, rfl, ha, ht, (TagM.inB_iff _).2 (TagM.tag_bd _ _)⟩) (by rw [key_late hk hr]; omega), key_late hk hr]

set_option maxHeartbeats 12800000 in
set_option maxRecDepth 8000 in
theorem turned_none (seed turns a n t x0 x1 x2 : Int) (w : World) (CN : Hid (∀ W : World, Calls Tryd.prog 23 #[.int .i64 seed] W fun e w' => e = .returned (.tuple #[.agg #[.int .i64 x0, .int .i64 x1, .int .i64 x2], .iface 71 (.int .i64 1)]) ∧ Below W.heap.size W w')) :
    Calls Tryd.prog 5 #[.int .i64 seed, .int .i64 turns, .int .i64 a, .int .i64 t, .int .i64 n] w fun e w' => e = .returned (.bool true) ∧ Below w.heap.size w w' := by
  go_enter Tryd.func5, Tryd.ntmps5
  go_wp2_with fail
  refine (one_true _).mono ?_
  rintro e w1 ⟨rfl, hb1⟩
  have HB1 := hide (show Below w.heap.size w w1 from Below.trans (by (repeat' (first | exact Below.refl _ _ | refine Below.alloc ?_ ?_ _ | refine Below.setCell ?_ ?_ _ | refine Below.drew ?_)); all_goals (first | exact Nat.le_refl _ | omega | (simp; done) | (simp; omega))) (hb1.mono (by first | exact Nat.le_refl _ | (simp; done) | (simp; omega))))
  clear hb1
  go_wp2_with fail
  refine (unhide CN _).mono ?_
  rintro e w2 ⟨rfl, hb2⟩
  have HB2 := hide (show Below w.heap.size w w2 from (by have := (unhide HB1).size; exact Below.trans (by (repeat' (first | exact Below.refl _ _ | refine Below.alloc ?_ ?_ _ | refine Below.setCell ?_ ?_ _ | refine Below.drew ?_ | refine Below.trans ?_ (Below.mono (unhide HB1) ?_))); all_goals (first | exact Nat.le_refl _ | omega | (simp; done) | (simp; omega))) (hb2.mono (by first | omega | (simp; done) | (simp; omega)))))
  clear hb2
  go_wp2
  go_ret
  exact ⟨rfl, (by have := (unhide HB2).size; exact (by (repeat' (first | exact Below.refl _ _ | refine Below.alloc ?_ ?_ _ | refine Below.setCell ?_ ?_ _ | refine Below.drew ?_ | refine Below.trans ?_ (Below.mono (unhide HB2) ?_))); all_goals (first | exact Nat.le_refl _ | omega | (simp; done) | (simp; omega))))⟩


theorem walk (seed turns a t n : Int) (w : World) (_f0 : (Lit.int .i64 seed).wf = true) (_f1 : (Lit.int .i64 turns).wf = true) (_f2 : (Lit.int .i64 a).wf = true) (_f3 : (Lit.int .i64 t).wf = true) (_f4 : (Lit.int .i64 n).wf = true) (hg : ErrType w) :
    Calls Tryd.prog 5 #[.int .i64 seed, .int .i64 turns, .int .i64 a, .int .i64 t, .int .i64 n] w fun e w' => e = .returned (.bool true) ∧ Below w.heap.size w w' := by
  have HG := hide hg
  have CS : Hid (∀ W : World, ErrType W → Calls Tryd.prog 10 #[.iface 71 (.int .i64 9), .int .i64 9] W fun e w' => e = .returned (.bool true) ∧ Below W.heap.size W w') := hide (fun W h => by
    have c := same_any 9 9 W h
    rw [errV_pos (show ¬ (9 : Int) = 0 by omega), show ((9 : Int) == 9) = true from rfl] at c
    exact c)
  by_cases hs : 0 ≤ seed ∧ seed < 999983
  · have CN := hide (fun W => rnew_yes seed W hs.1 hs.2)
    have hr0 : RingM.err 0 (TagM.tag seed [0]) 0 = 0 := RingM.err_zero.2 ⟨by omega, TagM.tag_bd _ _, by omega, fun _ => rfl⟩
    generalize TagM.tag seed [0] = K at CN hr0
    have HR := hide hr0
    by_cases h1 : TokenM.makeErr 0 K 0 a t = 0
    · have CM := hide (fun W => tmake_yes W h1)
      have CT0 : Hid (∀ k1 : Int, RingM.err 1 k1 K = 0 → ∀ W : World, Calls Tryd.prog 27 #[.agg #[.int .i64 1, .int .i64 k1, .int .i64 K], .agg #[.int .i64 0, .int .i64 a, .int .i64 t, .int .i64 (TagM.tag K [1, a, t])], .int .i64 a, .int .i64 t, .int .i64 0] W fun e w' => e = .returned (.nilIface) ∧ Below W.heap.size W w') := hide (fun k1 hr W => by
        have c := tcheck_any 1 k1 K 0 a t (TagM.tag K [1, a, t]) a t 0 W
        have z : TokenM.checkErr 1 k1 K 0 a t (TagM.tag K [1, a, t]) a t 0 = 0 := TokenM.check_turned (ep := 0) (old := 0) (life := 0) h1 hr (TokenM.make_zero.1 h1).2.2 rfl (by omega) (by omega)
        rw [errV_zero z] at c
        exact c)
      have CT1 : Hid (∀ k k1 k0 : Int, 0 < k → RingM.err (k + 1) k1 k0 = 0 → ∀ W : World, Calls Tryd.prog 27 #[.agg #[.int .i64 (k + 1), .int .i64 k1, .int .i64 k0], .agg #[.int .i64 0, .int .i64 a, .int .i64 t, .int .i64 (TagM.tag K [1, a, t])], .int .i64 a, .int .i64 t, .int .i64 0] W fun e w' => e = .returned (.iface 71 (.int .i64 9)) ∧ Below W.heap.size W w') := hide (fun k k1 k0 hk hr W => by
        have c := tcheck_any (k + 1) k1 k0 0 a t (TagM.tag K [1, a, t]) a t 0 W
        rw [token_late h1 hk hr, errV_pos (show ¬ (9 : Int) = 0 by omega)] at c
        exact c)
      generalize TagM.tag K [1, a, t] = g1 at CM CT0 CT1
      clear h1
      by_cases h2 : TokenM.makeErr 0 K 0 n t = 0
      · have CU := hide (fun W => kmake_yes W h2)
        have CK0 : Hid (∀ k1 : Int, RingM.err 1 k1 K = 0 → ∀ W : World, Calls Tryd.prog 28 #[.agg #[.int .i64 1, .int .i64 k1, .int .i64 K], .agg #[.int .i64 0, .int .i64 n, .int .i64 t, .int .i64 (TagM.tag K [2, n, t])], .int .i64 t] W fun e w' => e = .returned (.nilIface) ∧ Below W.heap.size W w') := hide (fun k1 hr W => by
          have c := kcheck_any 1 k1 K 0 n t (TagM.tag K [2, n, t]) t W
          rw [errV_zero (ticket_turned h2 hr)] at c
          exact c)
        have CK1 : Hid (∀ k k1 k0 : Int, 0 < k → RingM.err (k + 1) k1 k0 = 0 → ∀ W : World, Calls Tryd.prog 28 #[.agg #[.int .i64 (k + 1), .int .i64 k1, .int .i64 k0], .agg #[.int .i64 0, .int .i64 n, .int .i64 t, .int .i64 (TagM.tag K [2, n, t])], .int .i64 t] W fun e w' => e = .returned (.iface 71 (.int .i64 9)) ∧ Below W.heap.size W w') := hide (fun k k1 k0 hk hr W => by
          have c := kcheck_any (k + 1) k1 k0 0 n t (TagM.tag K [2, n, t]) t W
          rw [ticket_late h2 hk hr, errV_pos (show ¬ (9 : Int) = 0 by omega)] at c
          exact c)
        have ht := (TokenM.make_zero.1 h2).2.2
        have CO0 : Hid (∀ k1 : Int, RingM.err 1 k1 K = 0 → ∀ W : World, Calls Tryd.prog 19 #[.agg #[.int .i64 1, .int .i64 k1, .int .i64 K], .agg #[.int .i64 0, .int .i64 n, .int .i64 t, .int .i64 (TagM.tag K [2, n, t])], .int .i64 t] W fun e w' => e = .returned (.tuple #[.bool (!(JudgeM.noneB 0 n t (TagM.tag K [2, n, t]))), .nilIface]) ∧ Below W.heap.size W w') := hide (fun k1 hr W => by
          have c := jold_any 1 k1 K 0 n t (TagM.tag K [2, n, t]) t W
          have z := JudgeM.old_zero.2 ⟨hr, ht⟩
          rw [JudgeM.oldB_yes z, errV_zero z, show JudgeM.rightB 1 k1 K 0 n t (TagM.tag K [2, n, t]) t = !(JudgeM.noneB 0 n t (TagM.tag K [2, n, t])) by unfold JudgeM.rightB; rw [ticket_turned h2 hr]; simp] at c
          exact c)
        have CO1 : Hid (∀ k k1 k0 : Int, 0 < k → RingM.err (k + 1) k1 k0 = 0 → ∀ W : World, Calls Tryd.prog 19 #[.agg #[.int .i64 (k + 1), .int .i64 k1, .int .i64 k0], .agg #[.int .i64 0, .int .i64 n, .int .i64 t, .int .i64 (TagM.tag K [2, n, t])], .int .i64 t] W fun e w' => e = .returned (.tuple #[.bool false, .nilIface]) ∧ Below W.heap.size W w') := hide (fun k k1 k0 hk hr W => by
          have c := jold_any (k + 1) k1 k0 0 n t (TagM.tag K [2, n, t]) t W
          have z := JudgeM.old_zero.2 ⟨hr, ht⟩
          rw [JudgeM.oldB_yes z, errV_zero z, show JudgeM.rightB (k + 1) k1 k0 0 n t (TagM.tag K [2, n, t]) t = false by unfold JudgeM.rightB; rw [ticket_late h2 hk hr]; simp] at c
          exact c)
        clear h2 ht
        generalize TagM.tag K [2, n, t] = g2 at CU CK0 CK1 CO0 CO1
        by_cases hz : JudgeM.noneB 0 n t g2 = true
        · rw [hz] at CO0
          obtain ⟨-, rfl, rfl, rfl⟩ := JudgeM.noneB_iff.1 hz
          exact turned_yes_z0 seed turns a K g1 w HG CN HR CM CU CS CT0 CT1 CK0 CK1 CO0 CO1
        · have hz' : JudgeM.noneB 0 n t g2 = false := by simpa using hz
          rw [hz'] at CO0
          rcases JudgeM.some4 hz' with h | ⟨-, h⟩ | ⟨-, rfl, h⟩ | ⟨-, rfl, rfl, h⟩
          · exact absurd rfl h
          · exact turned_yes_z1 seed turns a n t K g1 g2 w HG CN HR CM CU CS CT0 CT1 CK0 CK1 CO0 CO1 h
          · exact turned_yes_z2 seed turns a t K g1 g2 w HG CN HR CM CU CS CT0 CT1 CK0 CK1 CO0 CO1 h
          · exact turned_yes_z3 seed turns a K g1 g2 w HG CN HR CM CU CS CT0 CT1 CK0 CK1 CO0 CO1 h
      · have CU := hide (fun W => kmake_no W h2)
        exact turned_yes_bad seed turns a n t K g1 _ w HG CN HR CM CU CS CT0 CT1
    · have CM := hide (fun W => tmake_no W h1)
      generalize TokenM.makeErr 0 K 0 a t = m1 at CM
      clear h1
      by_cases h2 : TokenM.makeErr 0 K 0 n t = 0
      · have CU := hide (fun W => kmake_yes W h2)
        have CK0 : Hid (∀ k1 : Int, RingM.err 1 k1 K = 0 → ∀ W : World, Calls Tryd.prog 28 #[.agg #[.int .i64 1, .int .i64 k1, .int .i64 K], .agg #[.int .i64 0, .int .i64 n, .int .i64 t, .int .i64 (TagM.tag K [2, n, t])], .int .i64 t] W fun e w' => e = .returned (.nilIface) ∧ Below W.heap.size W w') := hide (fun k1 hr W => by
          have c := kcheck_any 1 k1 K 0 n t (TagM.tag K [2, n, t]) t W
          rw [errV_zero (ticket_turned h2 hr)] at c
          exact c)
        have CK1 : Hid (∀ k k1 k0 : Int, 0 < k → RingM.err (k + 1) k1 k0 = 0 → ∀ W : World, Calls Tryd.prog 28 #[.agg #[.int .i64 (k + 1), .int .i64 k1, .int .i64 k0], .agg #[.int .i64 0, .int .i64 n, .int .i64 t, .int .i64 (TagM.tag K [2, n, t])], .int .i64 t] W fun e w' => e = .returned (.iface 71 (.int .i64 9)) ∧ Below W.heap.size W w') := hide (fun k k1 k0 hk hr W => by
          have c := kcheck_any (k + 1) k1 k0 0 n t (TagM.tag K [2, n, t]) t W
          rw [ticket_late h2 hk hr, errV_pos (show ¬ (9 : Int) = 0 by omega)] at c
          exact c)
        have ht := (TokenM.make_zero.1 h2).2.2
        have CO0 : Hid (∀ k1 : Int, RingM.err 1 k1 K = 0 → ∀ W : World, Calls Tryd.prog 19 #[.agg #[.int .i64 1, .int .i64 k1, .int .i64 K], .agg #[.int .i64 0, .int .i64 n, .int .i64 t, .int .i64 (TagM.tag K [2, n, t])], .int .i64 t] W fun e w' => e = .returned (.tuple #[.bool (!(JudgeM.noneB 0 n t (TagM.tag K [2, n, t]))), .nilIface]) ∧ Below W.heap.size W w') := hide (fun k1 hr W => by
          have c := jold_any 1 k1 K 0 n t (TagM.tag K [2, n, t]) t W
          have z := JudgeM.old_zero.2 ⟨hr, ht⟩
          rw [JudgeM.oldB_yes z, errV_zero z, show JudgeM.rightB 1 k1 K 0 n t (TagM.tag K [2, n, t]) t = !(JudgeM.noneB 0 n t (TagM.tag K [2, n, t])) by unfold JudgeM.rightB; rw [ticket_turned h2 hr]; simp] at c
          exact c)
        have CO1 : Hid (∀ k k1 k0 : Int, 0 < k → RingM.err (k + 1) k1 k0 = 0 → ∀ W : World, Calls Tryd.prog 19 #[.agg #[.int .i64 (k + 1), .int .i64 k1, .int .i64 k0], .agg #[.int .i64 0, .int .i64 n, .int .i64 t, .int .i64 (TagM.tag K [2, n, t])], .int .i64 t] W fun e w' => e = .returned (.tuple #[.bool false, .nilIface]) ∧ Below W.heap.size W w') := hide (fun k k1 k0 hk hr W => by
          have c := jold_any (k + 1) k1 k0 0 n t (TagM.tag K [2, n, t]) t W
          have z := JudgeM.old_zero.2 ⟨hr, ht⟩
          rw [JudgeM.oldB_yes z, errV_zero z, show JudgeM.rightB (k + 1) k1 k0 0 n t (TagM.tag K [2, n, t]) t = false by unfold JudgeM.rightB; rw [ticket_late h2 hk hr]; simp] at c
          exact c)
        clear h2 ht
        generalize TagM.tag K [2, n, t] = g2 at CU CK0 CK1 CO0 CO1
        by_cases hz : JudgeM.noneB 0 n t g2 = true
        · rw [hz] at CO0
          obtain ⟨-, rfl, rfl, rfl⟩ := JudgeM.noneB_iff.1 hz
          exact turned_no_z0 seed turns a K _ w HG CN HR CM CU CS CK0 CK1 CO0 CO1
        · have hz' : JudgeM.noneB 0 n t g2 = false := by simpa using hz
          rw [hz'] at CO0
          rcases JudgeM.some4 hz' with h | ⟨-, h⟩ | ⟨-, rfl, h⟩ | ⟨-, rfl, rfl, h⟩
          · exact absurd rfl h
          · exact turned_no_z1 seed turns a n t K _ g2 w HG CN HR CM CU CS CK0 CK1 CO0 CO1 h
          · exact turned_no_z2 seed turns a t K _ g2 w HG CN HR CM CU CS CK0 CK1 CO0 CO1 h
          · exact turned_no_z3 seed turns a K _ g2 w HG CN HR CM CU CS CK0 CK1 CO0 CO1 h
      · have CU := hide (fun W => kmake_no W h2)
        exact turned_no_bad seed turns a n t K _ _ w HG CN HR CM CU CS
  · exact turned_none seed turns a n t 0 0 0 w (hide (fun W => rnew_no seed W (by omega)))


theorem gErr : Tryd.prog.globalNamed "errors.errorType" = some 0 := by kernel_rfl
theorem rtErr : (Tryd.prog.cutTypes.find? (·.1 == "internal/reflectlite.rtype")).map (·.2) = some 115 := by kernel_rfl
theorem oneRow : ((List.range 158).filter fun t => Tryd.prog.rowNamed t [101, 114, 114, 111, 114]) = [32] := by kernel_rfl
theorem sizeT : Tryd.prog.types.size = 158 := by kernel_rfl
theorem handle_of_laid {W : World} (h : laidMetH Tryd.prog Rows.topTurnedRow.laid W) : ErrType W := by
  have h' : laidMet Tryd.prog [] W ∧ handlesMet Tryd.prog Rows.topTurnedRow.laid W := h
  obtain ⟨name, u, ty, e1, e2, e3, e4, e5⟩ := h'.2 _ (List.mem_singleton.2 rfl)
  have en : name = [101, 114, 114, 111, 114] := (Option.some.inj e1).symm
  subst en
  obtain rfl := Option.some.inj (rtErr.symm.trans e2)
  have hm : ty ∈ (List.range 158).filter fun t => Tryd.prog.rowNamed t [101, 114, 114, 111, 114] := List.mem_filter.2 ⟨List.mem_range.2 (by rw [← sizeT]; exact e3), e4⟩
  rw [oneRow] at hm
  obtain rfl := List.mem_singleton.1 hm
  have hh : typeHandle Tryd.prog 32 = .pointer (some ⟨1, 32, none⟩) := by kernel_rfl
  rw [hh] at e5
  unfold ErrType
  simpa using World.var?_cell gErr e5 0
theorem door_met (os : Os) (args : Array Value) : laidMetH Tryd.prog Rows.topTurnedRow.laid ((World.doorLaid Tryd.prog 400 os).forCall (fun _ _ => 0) ⟨#[], args, []⟩).memory :=
  laidMetH_of_parts (laidMet_nil _ _) (by kernel_rfl)


set_option maxRecDepth 100000 in
theorem lifted (os : Os) (started : os.Started) (H : Type) (enc : TypeId × Value → H) :
    ReturnsInHanded {} Tryd.checked os 5 .any (fun w args => (Rows.topTurnedSpec.pre enc Tryd.prog Tryd.f5 [] false w args ∧ laidMetH Tryd.prog Rows.topTurnedRow.laid w) ∧ sizedMet enc Tryd.prog Tryd.f5 (OpenSpec.ofChange Rows.topTurnedSpec) false w args) (Rows.topTurnedSpec.post enc Tryd.prog Tryd.f5 false true false false) := by
  refine returnsInHanded_of_change_and (C := Tryd.checked) (X := fun w _ => laidMetH Tryd.prog Rows.topTurnedRow.laid w) (fun _ _ _ hh h => h.of_heap hh) own started (by kernel_rfl) Tryd.func5
    (ChangeSpec.witness_shaped (enc := enc) (C := Tryd.checked) (os := os) (X := fun w _ => laidMetH Tryd.prog Rows.topTurnedRow.laid w) false (World.doorLaid Tryd.prog 400 os) #[.int .i64 0, .int .i64 0, .int .i64 0, .int .i64 0, .int .i64 0] 8 rfl (World.shaped_of_RefB (by kernel_rfl) (by kernel_rfl)) (by kernel_rfl) (by kernel_rfl) (by kernel_rfl) (door_met os _)) ?_
  intro W base args ds gs before hval0 hW _ hsz hL _
  have hg := handle_of_laid hL
  have hval : ∀ (j : Nat) t v, Tryd.f5.params[j]? = some t → args[j]? = some v → Value.okWide Tryd.prog W .any base t v := hval0
  have hW' := hW
  obtain ⟨p, q, hA0, hV, rfl, hfz, hnd⟩ := hW
  have hA : DataW.TrodAll enc Tryd.prog W 0 (fun _ => true) true Tryd.f5.params.toList args.toList ds p := hA0
  rw [Tryd.params5] at hA hval
  obtain ⟨v0, vs0, d0, ds0, p0, q0, hargs, rfl, rfl, h0, r0⟩ := trodAll_cons hA
  obtain ⟨v1, vs1, d1, ds1, p1, q1, rfl, rfl, rfl, h1, r1⟩ := trodAll_cons r0
  obtain ⟨v2, vs2, d2, ds2, p2, q2, rfl, rfl, rfl, h2, r2⟩ := trodAll_cons r1
  obtain ⟨v3, vs3, d3, ds3, p3, q3, rfl, rfl, rfl, h3, r3⟩ := trodAll_cons r2
  obtain ⟨v4, vs4, d4, ds4, p4, q4, rfl, rfl, rfl, h4, r4⟩ := trodAll_cons r3
  obtain ⟨rfl, rfl, rfl⟩ := trodAll_nil r4
  obtain rfl : args = #[v0, v1, v2, v3, v4] := by cases args; simp_all
  obtain ⟨rfl, rfl⟩ := trodVars_none hV
  have k0 := h0
  have lt0 : ∀ x ∈ p0, x.block < W.heap.size := by obtain ⟨m, hm⟩ := k0; exact DataW.trod_lt m _ _ _ hm
  obtain ⟨a0, rfl, rfl, rfl, w0⟩ := open_int Tryd.underlying3 (hval 0 3 v0 rfl rfl) h0
  have k1 := h1
  have lt1 : ∀ x ∈ p1, x.block < W.heap.size := by obtain ⟨m, hm⟩ := k1; exact DataW.trod_lt m _ _ _ hm
  obtain ⟨a1, rfl, rfl, rfl, w1⟩ := open_int Tryd.underlying3 (hval 1 3 v1 rfl rfl) h1
  have k2 := h2
  have lt2 : ∀ x ∈ p2, x.block < W.heap.size := by obtain ⟨m, hm⟩ := k2; exact DataW.trod_lt m _ _ _ hm
  obtain ⟨a2, rfl, rfl, rfl, w2⟩ := open_int Tryd.underlying3 (hval 2 3 v2 rfl rfl) h2
  have k3 := h3
  have lt3 : ∀ x ∈ p3, x.block < W.heap.size := by obtain ⟨m, hm⟩ := k3; exact DataW.trod_lt m _ _ _ hm
  obtain ⟨a3, rfl, rfl, rfl, w3⟩ := open_int Tryd.underlying3 (hval 3 3 v3 rfl rfl) h3
  have k4 := h4
  have lt4 : ∀ x ∈ p4, x.block < W.heap.size := by obtain ⟨m, hm⟩ := k4; exact DataW.trod_lt m _ _ _ hm
  obtain ⟨a4, rfl, rfl, rfl, w4⟩ := open_int Tryd.underlying3 (hval 4 3 v4 rfl rfl) h4
  clear hA0 hval0
  refine (walk a0 a1 a2 a3 a4 W w0 w1 w2 w3 w4 hg).mono fun e W' ⟨he, bel⟩ => ?_
  subst he
  exact ⟨_, rfl, _, _, _, [], _, [], hW', trodAll_mk1 (shut_bool Tryd.underlying4 _), (trodAll_cons_mk (Below.trod laidOut (by kernel_rfl) (of_decide_eq_true (by kernel_rfl)) k0 bel lt0) (trodAll_cons_mk (Below.trod laidOut (by kernel_rfl) (of_decide_eq_true (by kernel_rfl)) k1 bel lt1) (trodAll_cons_mk (Below.trod laidOut (by kernel_rfl) (of_decide_eq_true (by kernel_rfl)) k2 bel lt2) (trodAll_cons_mk (Below.trod laidOut (by kernel_rfl) (of_decide_eq_true (by kernel_rfl)) k3 bel lt3) (trodAll_cons_mk (Below.trod laidOut (by kernel_rfl) (of_decide_eq_true (by kernel_rfl)) k4 bel lt4) trodAll_mk0))))), rfl, bel.frame _, fun h => by cases h⟩

theorem over : Rows.topTurnedRow.holds Tryd.pinned (OpenSpec.ofChange Rows.topTurnedSpec) :=
  OpenClaim.holds_of_wide 5 Tryd.f5 rfl rfl rfl rfl rfl rfl rfl ⟨rfl, rfl, rfl, rfl, rfl⟩ rfl rfl rfl rfl rfl (by kernel_rfl) Tryd.func5 (by kernel_rfl)
    (of_decide_eq_true (by kernel_rfl)) (by unfold Func.isWrapper; first | (rw [if_pos (by decide +kernel)]; kernel_rfl) | (rw [if_neg (by decide +kernel)]; exact ⟨rfl, rfl⟩))
    (fun os started H enc _ => lifted os started H enc)

theorem card : Rows.TopTurnedCardSaid :=
  Claim7.holds_tied_plain_at .later [] [.handle] true (true, "77896e915f569edf3cc9d2f720a07a0d5f7a7464bcf18ac9446db6845ffe3b40") true
    over (fun _ h => by cases h) (by kernel_rfl) (fun _ h => by cases h) topTurned_row_tie rfl ⟨rfl, rfl⟩ (by kernel_rfl) rfl
    (fun f fn hf hfn => by
      obtain rfl : f = 5 := Option.some.inj ((show Tryd.prog.funcNamed "tokenfold/foldtop.TopTurned" = some 5 by kernel_rfl).symm.trans hf) |>.symm
      obtain rfl : fn = Tryd.f5 := (Option.some.inj (Tryd.func5.symm.trans hfn)).symm
      exact ⟨by kernel_rfl, fun j t ht => by
        rw [Tryd.params5] at ht
        have hm : t ∈ [3, 3, 3, 3, 3] := by simpa using Array.mem_of_getElem? ht
        have hall : ([3, 3, 3, 3, 3].all fun u => !Tryd.prog.wantsStandIn u) = true := by kernel_rfl
        exact (show Tryd.prog.wantsStandIn t = false by simpa using List.all_eq_true.1 hall t hm)⟩)
    (by kernel_rfl)

end Go.Proofs.YthdcebjnedbamaiDoor.topTurned
namespace Go.Proofs.YthdcebjnedbamaiDoor
theorem topTurned_holds : Rows.TopTurnedCardSaid := topTurned.card
#print axioms topTurned_holds
end Go.Proofs.YthdcebjnedbamaiDoor

