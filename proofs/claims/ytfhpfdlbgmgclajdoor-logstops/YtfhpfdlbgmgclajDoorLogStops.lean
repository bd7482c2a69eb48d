/-
  LogStops holds for every step, every number of Spends, and every keep: it stops at the step that was told; then all is refused, till it crashes; then all goes on. The listed variable errors.errorType starts as the program's text lays it (the card's tie). No other condition.
-/
import Derived.Test.YtfhpfdlbgmgclajDoorLogCrash
import Derived.Test.YtfhpfdlbgmgclajDoorLogStopsMath
import Derived.Test.YtfhpfdlbgmgclajDoorTie
import Derived.Test.YtfhpfdlbgmgclajDoorCards
import Derived.ProofKit
import Derived.Lib.SmallJoins
import Derived.LaidMore
import Derived.LaidHandle
import Derived.LaidLaws
import Derived.Stop.Joined
import Derived.SevenTiedAt
namespace Go.Proofs.YtfhpfdlbgmgclajDoor.logStops
open Go.ChangeShapes Go.WideShapes Go.ChangeAt Go.RowKit Go.Joins
set_option linter.unusedVariables false

theorem own : ownKnob Tryd.prog.godebug = none := by kernel_rfl
theorem laidOut : laidOutB Tryd.prog = true := by kernel_rfl
def IsRow (k : IntKind) (w : World) (a : Option Addr) (len cap : Nat) (zs : List Int) : Prop :=
  (a = none ∧ len = 0 ∧ cap = 0 ∧ zs = []) ∨
  ∃ x, a = some x ∧ len ≤ cap ∧ cap ≤ maxLen ∧ zs.length = cap ∧ (∀ i, i < zs.length → w.cell? (x.add i) = some (.int k (zs.getD i 0))) ∧ ∀ n ∈ zs, (Lit.int k n).wf = true
def IsStrs (w : World) (a : Option Addr) (len cap : Nat) (zs : List ByteArray) : Prop :=
  (a = none ∧ len = 0 ∧ cap = 0 ∧ zs = []) ∨
  ∃ x, a = some x ∧ len ≤ cap ∧ cap ≤ maxLen ∧ zs.length = cap ∧ (∀ i, i < zs.length → w.cell? (x.add i) = some (.string (zs.getD i ByteArray.empty))) ∧ ∀ s ∈ zs, s.size ≤ maxLen
def IsPairs (w : World) (a : Option Addr) (len cap : Nat) (zs : List (Int × Int)) : Prop :=
  (a = none ∧ len = 0 ∧ cap = 0 ∧ zs = []) ∨
  ∃ x, a = some x ∧ len ≤ cap ∧ cap ≤ maxLen ∧ zs.length = cap ∧ ∀ i, i < cap → w.cell? (x.add (i * 2)) = some (.int .i64 (zs.getD i (0, 0)).1) ∧ w.cell? (x.add (i * 2 + 1)) = some (.int .i64 (zs.getD i (0, 0)).2)
def IsRows (w : World) (a : Option Addr) (len cap : Nat) (A : Nat → Option Addr) (L C : Nat → Nat) (Z : Nat → List Int) : Prop :=
  (a = none ∧ len = 0 ∧ cap = 0) ∨
  ∃ x, a = some x ∧ len ≤ cap ∧ cap ≤ maxLen ∧ ∀ r, r < cap → w.cell? (x.add r) = some (.slice (A r) (L r) (C r)) ∧ L r ≤ C r ∧ C r ≤ maxLen ∧ (Z r).length = C r ∧ (∀ n ∈ Z r, (Lit.int .i64 n).wf = true) ∧ (A r = none → C r = 0) ∧
    ∀ a', A r = some a' → ∀ c, c < C r → w.cell? (a'.add c) = some (.int .i64 ((Z r).getD c 0))


theorem walk_out (a m keep : Int) (w : World) (h : a < 0 ∨ 12 < a ∨ m < 0 ∨ 12 < m) :
    Calls Tryd.prog 3 #[.int .i64 a, .int .i64 m, .int .i64 keep] w fun e w' => e = .returned (.bool true) ∧ Below w.heap.size w w' := by
  by_cases h1 : a < 0
  · go_enter Tryd.func3, Tryd.ntmps3
    go_wp2
    go_ret
    exact ⟨rfl, Below.refl _ _⟩
  · by_cases h2 : 12 < a
    · go_enter Tryd.func3, Tryd.ntmps3
      go_wp2
      go_ret
      exact ⟨rfl, Below.refl _ _⟩
    · by_cases h3 : m < 0
      · go_enter Tryd.func3, Tryd.ntmps3
        go_wp2
        go_ret
        exact ⟨rfl, Below.refl _ _⟩
      · have h4 : 12 < m := by omega
        go_enter Tryd.func3, Tryd.ntmps3
        go_wp2
        go_ret
        exact ⟨rfl, Below.refl _ _⟩

set_option maxHeartbeats 12800000 in
set_option maxRecDepth 8000 in
theorem walk_in (A M : Nat) (keep : Int) (w : World) (hA : A ≤ 12) (hM : M ≤ 12) (k0 : -9223372036854775808 ≤ keep) (k1 : keep ≤ 9223372036854775807) (hg : ErrType w) :
    Calls Tryd.prog 3 #[.int .i64 A, .int .i64 M, .int .i64 keep] w fun e w' => e = .returned (.bool true) ∧ Below w.heap.size w w' := by
  have HG0 := hide hg
  clear hg
  have a0 : (0 : Int) ≤ (A : Int) := by omega
  have a1 : (A : Int) ≤ 12 := by omega
  have m0 : (0 : Int) ≤ (M : Int) := by omega
  have m1 : (M : Int) ≤ 12 := by omega
  have HA := hide hA
  have CF := hide (fun (W : World) (h : LogAt w.heap.size W w.heap.size LogM.new) (hb : Below w.heap.size w W) => lfail_any (A : Int) W w h (by omega) (by omega) hb)
  clear hA
  go_enter Tryd.func3, Tryd.ntmps3
  go_wp2_with fail
  refine (lnew_log _).mono ?_
  rintro e w1 ⟨rfl, h1, hb1⟩
  have HL1 := hide h1
  have HB1 := hide hb1
  clear h1 hb1
  go_wp2_with fail
  refine (unhide CF _ (unhide HL1) (unhide HB1)).mono ?_
  rintro e w2 ⟨rfl, h2, hb2, -⟩
  have HL2 := hide h2
  have HB2 := hide hb2
  clear h2 hb2
  clear CF HL1 HB1
  go_wp2
  go_loopw [8, 9] (fun s i wr => ∃ (k : Nat) (x : LogM.St), k ≤ M ∧ s = .int .i64 k ∧ i = .int .i64 k ∧ Hid (LogAt w.heap.size wr w.heap.size x) ∧ Hid (LogM.Going A k x) ∧ Hid (Below w.heap.size w wr)) (fun _ i _ => M - (intOf i).toNat)
  case atStart => exact ⟨0, _, Nat.zero_le _, rfl, rfl, HL2, hide (LogM.going_new A), HB2⟩
  case round =>
    obtain ⟨k, x, hk, rfl, rfl, HX, HQ, HB⟩ := hrel
    have kk0 : (0 : Int) ≤ (k : Int) := by omega
    have kk1 : (k : Int) ≤ 12 := by omega
    by_cases hlt : k < M
    · have hlt2 : (k : Int) < (M : Int) := by omega
      by_cases hw : k < A
      · obtain ⟨b1, b2⟩ := LogM.going_bad (unhide HQ) (unhide HA) (by omega)
        obtain ⟨c1, c2⟩ := LogM.going_lt (unhide HQ) (unhide HA) hw
        have f1 : (k : Int) < (A : Int) := by omega
        have f2 : (k : Int) ≤ (A : Int) := by omega
        have f3 : ¬ (A : Int) < (k : Int) := by omega
        have f4 : ((k : Int) == (A : Int)) = false := by simp; omega
        have C1 := hide (fun (W : World) (h : LogAt w.heap.size W w.heap.size x) (hb : Below w.heap.size w W) => lspend_any (-1) 5 1 W w h hb hb.size)
        rw [b1, b2] at C1
        have C2 := hide (fun (W : World) (h : LogAt w.heap.size W w.heap.size x) (hb : Below w.heap.size w W) => lspend_any (k : Int) 5 1 W w h hb hb.size)
        rw [c1, errV_zero rfl] at C2
        have S1 := hide (fun (W : World) (hg : ErrType W) => same_any 1 6 W hg)
        rw [show ((1 : Int) == 6) = false by decide] at S1
        have S2 := hide (fun (W : World) (hg : ErrType W) => same_any 1 1 W hg)
        rw [show ((1 : Int) == 1) = true by decide] at S2
        have S3 := hide (fun (W : World) (hg : ErrType W) => same_any 0 6 W hg)
        rw [show ((0 : Int) == 6) = false by decide, errV_zero rfl] at S3
        have HQ1 := hide c2
        clear b1 b2 c1 c2
        go_wp2_with fail
        refine (unhide C1 _ (unhide HX) (unhide HB)).mono ?_
        rintro e w3 ⟨rfl, h3, hb3, -⟩
        have HL3 := hide h3
        have HB3 := hide hb3
        clear h3 hb3
        go_wp2_with fail
        refine (unhide C2 _ (unhide HL3) (unhide HB3)).mono ?_
        rintro e w4 ⟨rfl, h4, hb4, -⟩
        have HL4 := hide h4
        have HB4 := hide hb4
        clear h4 hb4
        go_wp2_with fail
        refine (unhide S1 _ ((unhide HG0).later (unhide HB4))).mono ?_
        rintro e w5 ⟨rfl, hb5⟩
        have HL5 := hide ((unhide HL4).later hb5)
        have HB5 := hide (bel3 (unhide HB4) (Below.refl _ _) hb5)
        clear hb5
        go_wp2_with fail
        refine (unhide S2 _ ((unhide HG0).later (unhide HB5))).mono ?_
        rintro e w6 ⟨rfl, hb6⟩
        have HL6 := hide ((unhide HL5).later hb6)
        have HB6 := hide (bel3 (unhide HB5) (Below.refl _ _) hb6)
        clear hb6
        go_wp2_with fail
        refine (unhide S3 _ ((unhide HG0).later (unhide HB6))).mono ?_
        rintro e w7 ⟨rfl, hb7⟩
        have HL7 := hide ((unhide HL6).later hb7)
        have HB7 := hide (bel3 (unhide HB6) (Below.refl _ _) hb7)
        clear hb7
        go_wp2
        go_roundw
        case rel => exact ⟨k + 1, _, by omega, by go_num, by go_num, HL7, HQ1, HB7⟩
        case measure => simp [intOf]; omega
      · by_cases hw2 : k = A

        · subst hw2
          obtain ⟨b1, b2⟩ := LogM.going_bad (unhide HQ) (unhide HA) (Nat.le_refl _)
          obtain ⟨c1, c2⟩ := LogM.going_eq (unhide HQ) (unhide HA)
          have C1 := hide (fun (W : World) (h : LogAt w.heap.size W w.heap.size x) (hb : Below w.heap.size w W) => lspend_any (-1) 5 1 W w h hb hb.size)
          rw [b1, b2] at C1
          have C2 := hide (fun (W : World) (h : LogAt w.heap.size W w.heap.size x) (hb : Below w.heap.size w W) => lspend_any (k : Int) 5 1 W w h hb hb.size)
          rw [c1] at C2
          have S1 := hide (fun (W : World) (hg : ErrType W) => same_any 1 6 W hg)
          rw [show ((1 : Int) == 6) = false by decide] at S1
          have S2 := hide (fun (W : World) (hg : ErrType W) => same_any 1 1 W hg)
          rw [show ((1 : Int) == 1) = true by decide] at S2
          have S3 := hide (fun (W : World) (hg : ErrType W) => same_any 6 6 W hg)
          rw [show ((6 : Int) == 6) = true by decide] at S3
          have HQ1 := hide c2
          clear b1 b2 c1 c2
          go_wp2_with fail
          refine (unhide C1 _ (unhide HX) (unhide HB)).mono ?_
          rintro e w3 ⟨rfl, h3, hb3, -⟩
          have HL3 := hide h3
          have HB3 := hide hb3
          clear h3 hb3
          go_wp2_with fail
          refine (unhide C2 _ (unhide HL3) (unhide HB3)).mono ?_
          rintro e w4 ⟨rfl, h4, hb4, -⟩
          have HL4 := hide h4
          have HB4 := hide hb4
          clear h4 hb4
          go_wp2_with fail
          refine (unhide S1 _ ((unhide HG0).later (unhide HB4))).mono ?_
          rintro e w5 ⟨rfl, hb5⟩
          have HL5 := hide ((unhide HL4).later hb5)
          have HB5 := hide (bel3 (unhide HB4) (Below.refl _ _) hb5)
          clear hb5
          go_wp2_with fail
          refine (unhide S2 _ ((unhide HG0).later (unhide HB5))).mono ?_
          rintro e w6 ⟨rfl, hb6⟩
          have HL6 := hide ((unhide HL5).later hb6)
          have HB6 := hide (bel3 (unhide HB5) (Below.refl _ _) hb6)
          clear hb6
          go_wp2_with fail
          refine (unhide S3 _ ((unhide HG0).later (unhide HB6))).mono ?_
          rintro e w7 ⟨rfl, hb7⟩
          have HL7 := hide ((unhide HL6).later hb7)
          have HB7 := hide (bel3 (unhide HB6) (Below.refl _ _) hb7)
          clear hb7
          go_wp2
          go_roundw
          case rel => exact ⟨k + 1, _, by omega, by go_num, by go_num, HL7, HQ1, HB7⟩
          case measure => simp [intOf]; omega
        · obtain ⟨d1, c2⟩ := LogM.going_gt (unhide HQ) (show A < k by omega)
          obtain ⟨b1, b2, -, -⟩ := LogM.stopped d1 (-1, 5, 1)
          obtain ⟨c1, c3, -, -⟩ := LogM.stopped d1 ((k : Int), 5, 1)
          have f1 : (A : Int) < (k : Int) := by omega
          have f2 : ¬ (k : Int) ≤ (A : Int) := by omega
          have f3 : ((k : Int) == (A : Int)) = false := by simp; omega
          have f4 : ¬ (k : Int) < (A : Int) := by omega
          have C1 := hide (fun (W : World) (h : LogAt w.heap.size W w.heap.size x) (hb : Below w.heap.size w W) => lspend_any (-1) 5 1 W w h hb hb.size)
          rw [b1, b2] at C1
          have C2 := hide (fun (W : World) (h : LogAt w.heap.size W w.heap.size x) (hb : Below w.heap.size w W) => lspend_any (k : Int) 5 1 W w h hb hb.size)
          rw [c1, c3] at C2
          have S1 := hide (fun (W : World) (hg : ErrType W) => same_any 6 6 W hg)
          rw [show ((6 : Int) == 6) = true by decide] at S1
          have S2 := hide (fun (W : World) (hg : ErrType W) => same_any 6 1 W hg)
          rw [show ((6 : Int) == 1) = false by decide] at S2
          have S3 := hide (fun (W : World) (hg : ErrType W) => same_any 6 6 W hg)
          rw [show ((6 : Int) == 6) = true by decide] at S3
          have HQ1 := hide c2
          clear b1 b2 c1 c2 c3 d1
          go_wp2_with fail
          refine (unhide C1 _ (unhide HX) (unhide HB)).mono ?_
          rintro e w3 ⟨rfl, h3, hb3, -⟩
          have HL3 := hide h3
          have HB3 := hide hb3
          clear h3 hb3
          go_wp2_with fail
          refine (unhide C2 _ (unhide HL3) (unhide HB3)).mono ?_
          rintro e w4 ⟨rfl, h4, hb4, -⟩
          have HL4 := hide h4
          have HB4 := hide hb4
          clear h4 hb4
          go_wp2_with fail
          refine (unhide S1 _ ((unhide HG0).later (unhide HB4))).mono ?_
          rintro e w5 ⟨rfl, hb5⟩
          have HL5 := hide ((unhide HL4).later hb5)
          have HB5 := hide (bel3 (unhide HB4) (Below.refl _ _) hb5)
          clear hb5
          go_wp2_with fail
          refine (unhide S2 _ ((unhide HG0).later (unhide HB5))).mono ?_
          rintro e w6 ⟨rfl, hb6⟩
          have HL6 := hide ((unhide HL5).later hb6)
          have HB6 := hide (bel3 (unhide HB5) (Below.refl _ _) hb6)
          clear hb6
          go_wp2_with fail
          refine (unhide S3 _ ((unhide HG0).later (unhide HB6))).mono ?_
          rintro e w7 ⟨rfl, hb7⟩
          have HL7 := hide ((unhide HL6).later hb7)
          have HB7 := hide (bel3 (unhide HB6) (Below.refl _ _) hb7)
          clear hb7
          go_wp2
          go_roundw
          case rel => exact ⟨k + 1, _, by omega, by go_num, by go_num, HL7, HQ1, HB7⟩
          case measure => simp [intOf]; omega
    · obtain rfl : k = M := by omega
      have hge : ¬ (k : Int) < (k : Int) := by omega
      have HQ2 := hide ((unhide HQ).later (unhide HA))
      clear hk kk0 kk1
      go_wp2
      go_loopw [8] (fun s wr => ∃ (q : Nat) (x : LogM.St), q ≤ 13 ∧ s = .int .i64 q ∧ Hid (LogAt w.heap.size wr w.heap.size x) ∧ Hid (LogM.Later A q x) ∧ Hid (Below w.heap.size w wr)) (fun s _ => 13 - (intOf s).toNat)
      case atStart => exact ⟨k, _, by omega, rfl, HX, HQ2, HB⟩
      case round =>
        clear HX HQ HQ2 HB
        obtain ⟨q, x, hq, rfl, HX, HQ, HB⟩ := hrel
        have q0 : (0 : Int) ≤ (q : Int) := by omega
        have q1 : (q : Int) ≤ 13 := by omega
        by_cases hw : q < A
        · obtain ⟨c1, c2⟩ := LogM.later_lt (unhide HQ) hw
          have f2 : (q : Int) ≤ (A : Int) := by omega
          have f4 : ((q : Int) == (A : Int)) = false := by simp; omega
          have C1 := hide (fun (W : World) (h : LogAt w.heap.size W w.heap.size x) (hb : Below w.heap.size w W) => lsync_any W w h hb)
          rw [c1, errV_zero rfl] at C1
          have HQ1 := hide c2
          clear c1 c2
          go_wp2_with fail
          refine (unhide C1 _ (unhide HX) (unhide HB)).mono ?_
          rintro e w3 ⟨rfl, h3, hb3, -⟩
          have HL3 := hide h3
          have HB3 := hide hb3
          clear h3 hb3
          go_wp2
          go_roundw
          case rel => exact ⟨q + 1, _, by omega, by go_num, HL3, HQ1, HB3⟩
          case measure => simp [intOf]; omega
        · by_cases hw2 : q = A

          · subst hw2
            obtain ⟨c1, c2⟩ := LogM.later_eq (unhide HQ)
            have C1 := hide (fun (W : World) (h : LogAt w.heap.size W w.heap.size x) (hb : Below w.heap.size w W) => lsync_any W w h hb)
            rw [c1, errV_pos (by omega)] at C1
            have HQ1 := hide c2
            clear c1 c2
            go_wp2_with fail
            refine (unhide C1 _ (unhide HX) (unhide HB)).mono ?_
            rintro e w3 ⟨rfl, h3, hb3, -⟩
            have HL3 := hide h3
            have HB3 := hide hb3
            clear h3 hb3
            go_wp2
            go_roundw
            case rel => exact ⟨q + 1, _, by omega, by go_num, HL3, HQ1, HB3⟩
            case measure => simp [intOf]; omega
          · have f2 : ¬ (q : Int) ≤ (A : Int) := by omega
            have hst := (unhide HQ).2.2 (show A < q by omega)
            obtain ⟨b1, b2, b3, b4⟩ := LogM.stopped hst (3, 5, 1)
            obtain ⟨m, hm, c1, c2, c3, c4, c5⟩ := LogM.crashed (unhide HQ) keep
            have C1 := hide (fun (W : World) (h : LogAt w.heap.size W w.heap.size x) (hb : Below w.heap.size w W) => lsync_any W w h hb)
            rw [b3, b4] at C1
            have C2 := hide (fun (W : World) (h : LogAt w.heap.size W w.heap.size x) (hb : Below w.heap.size w W) => lspend_any (3) 5 1 W w h hb hb.size)
            rw [b1, b2] at C2
            have C3 := hide (fun (W : World) (h : LogAt w.heap.size W w.heap.size x) (hb : Below w.heap.size w W) => lcrash_any keep W w h hb hb.size k0 k1)
            generalize LogM.crash x keep = y at C3 c1 c2 c3 c4 c5
            have C4 := hide (fun (W : World) (h : LogAt w.heap.size W w.heap.size y) (hb : Below w.heap.size w W) => lspend_any (500) 9 2 W w h hb hb.size)
            rw [c2, errV_zero rfl] at C4
            generalize LogM.spend y (500, 9, 2) = y2 at C4 c3 c4 c5
            have C5 := hide (fun (W : World) (h : LogAt w.heap.size W w.heap.size y2) (hb : Below w.heap.size w W) => lsync_any W w h hb)
            rw [c3, errV_zero rfl] at C5
            generalize LogM.sync y2 = y3 at C5 c4 c5
            have S1 := hide (fun (W : World) (hg : ErrType W) => same_any 6 6 W hg)
            rw [show ((6 : Int) == 6) = true by decide] at S1
            have HC1 := hide c1
            have HC4 := hide c4
            have HC5 := hide c5
            clear b1 b2 b3 b4 c1 c2 c3 c4 c5 hst
            go_wp2_with fail
            refine (unhide C1 _ (unhide HX) (unhide HB)).mono ?_
            rintro e w3 ⟨rfl, h3, hb3, -⟩
            have HL3 := hide h3
            have HB3 := hide hb3
            clear h3 hb3
            go_wp2_with fail
            refine (unhide S1 _ ((unhide HG0).later (unhide HB3))).mono ?_
            rintro e w4 ⟨rfl, hb4⟩
            have HL4 := hide ((unhide HL3).later hb4)
            have HB4 := hide (bel3 (unhide HB3) (Below.refl _ _) hb4)
            clear hb4
            go_wp2_with fail
            refine (unhide C2 _ (unhide HL4) (unhide HB4)).mono ?_
            rintro e w5 ⟨rfl, h5, hb5, -⟩
            have HL5 := hide h5
            have HB5 := hide hb5
            clear h5 hb5
            go_wp2_with fail
            refine (unhide S1 _ ((unhide HG0).later (unhide HB5))).mono ?_
            rintro e w6 ⟨rfl, hb6⟩
            have HL6 := hide ((unhide HL5).later hb6)
            have HB6 := hide (bel3 (unhide HB5) (Below.refl _ _) hb6)
            clear hb6
            go_wp2_with fail
            refine (unhide C3 _ (unhide HL6) (unhide HB6)).mono ?_
            rintro e w7 ⟨rfl, h7, hb7, -⟩
            have HL7 := hide h7
            have HB7 := hide hb7
            clear h7 hb7
            go_wp2_with fail
            refine (lall_any _ (unhide HL7)).mono ?_
            rintro e w8 ⟨a8, n8, p8, rfl, hk8, hb8⟩
            have hn8 : n8 = m := hk8.1.1.symm.trans (unhide HC1)
            subst hn8
            have HL8 := hide ((unhide HL7).later hb8)
            have HB8 := hide (bel3 (unhide HB7) (Below.refl _ _) hb8)
            clear hk8 hb8
            go_wp2_with fail
            refine (unhide C4 _ (unhide HL8) (unhide HB8)).mono ?_
            rintro e w9 ⟨rfl, h9, hb9, -⟩
            have HL9 := hide h9
            have HB9 := hide hb9
            clear h9 hb9
            go_wp2_with fail
            refine (unhide C5 _ (unhide HL9) (unhide HB9)).mono ?_
            rintro e w10 ⟨rfl, h10, hb10, -⟩
            have HL10 := hide h10
            have HB10 := hide hb10
            clear h10 hb10
            go_wp2_with fail
            refine (lall_any _ (unhide HL10)).mono ?_
            rintro e w11 ⟨a11, n11, p11, rfl, hk11, hb11⟩
            rw [unhide HC4] at hk11
            have hn11 : n11 = n8 + 1 := by rw [← hk11.1.1, List.length_append, unhide HC1]; rfl
            subst hn11
            obtain ⟨b, off, rfl, g1, -⟩ := hk11.1.2.2 n8 (by rw [hk11.1.1]; omega)
            rw [show (LogM.hist y.R ++ [((500 : Int), (9 : Int))]).getD n8 (0, 0) = (500, 9) by rw [List.getD, ← unhide HC1]; simp] at g1
            dsimp only at g1
            have HL11 := hide ((unhide HL10).later hb11)
            have HB11 := hide (bel3 (unhide HB10) (Below.refl _ _) hb11)
            clear hk11 hb11
            have z0 : (0 : Int) ≤ (n8 : Int) := by omega
            have z1 : (n8 : Int) < ((n8 + 1 : Nat) : Int) := by omega
            have z2 : (n8 : Int) ≤ 12 := by omega
            have CS := hide (lsafe_any _ (unhide HL11))
            rw [unhide HC5] at CS
            have CB := hide (lbytes_any _ (unhide HL11))
            generalize LogM.size y3 = z3 at CS CB
            go_wp2_with fail
            refine (unhide CS).mono ?_
            rintro e w' ⟨rfl, hw'⟩
            obtain rfl := hw'.symm
            clear hw'
            go_wp2_with fail
            refine (unhide CB).mono ?_
            rintro e w' ⟨rfl, hw'⟩
            obtain rfl := hw'.symm
            clear hw'
            go_wp2
            go_ret
            exact ⟨rfl, unhide HB11⟩

theorem walk (a m keep : Int) (w : World) (_w0 : (Lit.int .i64 a).wf = true) (_w1 : (Lit.int .i64 m).wf = true) (w2 : (Lit.int .i64 keep).wf = true) (hg : ErrType w) :
    Calls Tryd.prog 3 #[.int .i64 a, .int .i64 m, .int .i64 keep] w fun e w' => e = .returned (.bool true) ∧ Below w.heap.size w w' := by
  by_cases h : a < 0 ∨ 12 < a ∨ m < 0 ∨ 12 < m
  · exact walk_out a m keep w h
  · obtain ⟨A, hA⟩ : ∃ A : Nat, (A : Int) = a := ⟨a.toNat, by omega⟩
    obtain ⟨M, hM⟩ : ∃ M : Nat, (M : Int) = m := ⟨m.toNat, by omega⟩
    have hk : -9223372036854775808 ≤ keep ∧ keep ≤ 9223372036854775807 := by (have q := w2; simp [Lit.wf, IntKind.min, IntKind.max, IntKind.bits, IntKind.signed] at q; omega)
    subst hA hM
    exact walk_in A M keep w (by omega) (by omega) hk.1 hk.2 hg


theorem gErr : Tryd.prog.globalNamed "errors.errorType" = some 0 := by kernel_rfl
theorem rtErr : (Tryd.prog.cutTypes.find? (·.1 == "internal/reflectlite.rtype")).map (·.2) = some 77 := by kernel_rfl
theorem oneRow : ((List.range 118).filter fun t => Tryd.prog.rowNamed t [101, 114, 114, 111, 114]) = [26] := by kernel_rfl
theorem sizeT : Tryd.prog.types.size = 118 := by kernel_rfl
theorem handle_of_laid {W : World} (h : laidMetH Tryd.prog Rows.logStopsRow.laid W) : ErrType W := by
  have h' : laidMet Tryd.prog [] W ∧ handlesMet Tryd.prog Rows.logStopsRow.laid W := h
  obtain ⟨name, u, ty, e1, e2, e3, e4, e5⟩ := h'.2 _ (List.mem_singleton.2 rfl)
  have en : name = [101, 114, 114, 111, 114] := (Option.some.inj e1).symm
  subst en
  obtain rfl := Option.some.inj (rtErr.symm.trans e2)
  have hm : ty ∈ (List.range 118).filter fun t => Tryd.prog.rowNamed t [101, 114, 114, 111, 114] := List.mem_filter.2 ⟨List.mem_range.2 (by rw [← sizeT]; exact e3), e4⟩
  rw [oneRow] at hm
  obtain rfl := List.mem_singleton.1 hm
  have hh : typeHandle Tryd.prog 26 = .pointer (some ⟨1, 26, none⟩) := by kernel_rfl
  rw [hh] at e5
  unfold ErrType
  simpa using World.var?_cell gErr e5 0
theorem door_met (os : Os) (args : Array Value) : laidMetH Tryd.prog Rows.logStopsRow.laid ((World.doorLaid Tryd.prog 400 os).forCall (fun _ _ => 0) ⟨#[], args, []⟩).memory :=
  laidMetH_of_parts (laidMet_nil _ _) (by kernel_rfl)


set_option maxRecDepth 100000 in
theorem lifted (os : Os) (started : os.Started) (H : Type) (enc : TypeId × Value → H) :
    ReturnsInHanded {} Tryd.checked os 3 .any (fun w args => (Rows.logStopsSpec.pre enc Tryd.prog Tryd.f3 [] false w args ∧ laidMetH Tryd.prog Rows.logStopsRow.laid w) ∧ sizedMet enc Tryd.prog Tryd.f3 (OpenSpec.ofChange Rows.logStopsSpec) false w args) (Rows.logStopsSpec.post enc Tryd.prog Tryd.f3 false true false false) := by
  refine returnsInHanded_of_change_and (C := Tryd.checked) (X := fun w _ => laidMetH Tryd.prog Rows.logStopsRow.laid w) (fun _ _ _ hh h => h.of_heap hh) own started (by kernel_rfl) Tryd.func3
    (ChangeSpec.witness_shaped (enc := enc) (C := Tryd.checked) (os := os) (X := fun w _ => laidMetH Tryd.prog Rows.logStopsRow.laid w) false (World.doorLaid Tryd.prog 400 os) #[.int .i64 0, .int .i64 0, .int .i64 0] 8 rfl (World.shaped_of_RefB (by kernel_rfl) (by kernel_rfl)) (by kernel_rfl) (by kernel_rfl) (by kernel_rfl) (door_met os _)) ?_
  intro W base args ds gs before hval0 hW _ hsz hL _
  have hg := handle_of_laid hL
  have hval : ∀ (j : Nat) t v, Tryd.f3.params[j]? = some t → args[j]? = some v → Value.okWide Tryd.prog W .any base t v := hval0
  have hW' := hW
  obtain ⟨p, q, hA0, hV, rfl, hfz, hnd⟩ := hW
  have hA : DataW.TrodAll enc Tryd.prog W 0 (fun _ => true) true Tryd.f3.params.toList args.toList ds p := hA0
  rw [Tryd.params3] at hA hval
  obtain ⟨v0, vs0, d0, ds0, p0, q0, hargs, rfl, rfl, h0, r0⟩ := trodAll_cons hA
  obtain ⟨v1, vs1, d1, ds1, p1, q1, rfl, rfl, rfl, h1, r1⟩ := trodAll_cons r0
  obtain ⟨v2, vs2, d2, ds2, p2, q2, rfl, rfl, rfl, h2, r2⟩ := trodAll_cons r1
  obtain ⟨rfl, rfl, rfl⟩ := trodAll_nil r2
  obtain rfl : args = #[v0, v1, v2] := by cases args; simp_all
  obtain ⟨rfl, rfl⟩ := trodVars_none hV
  have k0 := h0
  have lt0 : ∀ x ∈ p0, x.block < W.heap.size := by obtain ⟨m, hm⟩ := k0; exact DataW.trod_lt m _ _ _ hm
  obtain ⟨a0, rfl, rfl, rfl, w0⟩ := open_int Tryd.underlying3 (hval 0 3 v0 rfl rfl) h0
  have k1 := h1
  have lt1 : ∀ x ∈ p1, x.block < W.heap.size := by obtain ⟨m, hm⟩ := k1; exact DataW.trod_lt m _ _ _ hm
  obtain ⟨a1, rfl, rfl, rfl, w1⟩ := open_int Tryd.underlying3 (hval 1 3 v1 rfl rfl) h1
  have k2 := h2
  have lt2 : ∀ x ∈ p2, x.block < W.heap.size := by obtain ⟨m, hm⟩ := k2; exact DataW.trod_lt m _ _ _ hm
  obtain ⟨a2, rfl, rfl, rfl, w2⟩ := open_int Tryd.underlying3 (hval 2 3 v2 rfl rfl) h2
  clear hA0 hval0
  refine (walk a0 a1 a2 W w0 w1 w2 hg).mono fun e W' ⟨he, bel⟩ => ?_
  subst he
  exact ⟨_, rfl, _, _, _, [], _, [], hW', trodAll_mk1 (shut_bool Tryd.underlying4 _), (trodAll_cons_mk (Below.trod laidOut (by kernel_rfl) (of_decide_eq_true (by kernel_rfl)) k0 bel lt0) (trodAll_cons_mk (Below.trod laidOut (by kernel_rfl) (of_decide_eq_true (by kernel_rfl)) k1 bel lt1) (trodAll_cons_mk (Below.trod laidOut (by kernel_rfl) (of_decide_eq_true (by kernel_rfl)) k2 bel lt2) trodAll_mk0))), rfl, bel.frame _, fun h => by cases h⟩

theorem over : Rows.logStopsRow.holds Tryd.pinned (OpenSpec.ofChange Rows.logStopsSpec) :=
  OpenClaim.holds_of_wide 3 Tryd.f3 rfl rfl rfl rfl rfl rfl rfl ⟨rfl, rfl, rfl, rfl, rfl⟩ rfl rfl rfl rfl rfl (by kernel_rfl) Tryd.func3 (by kernel_rfl)
    (of_decide_eq_true (by kernel_rfl)) (by unfold Func.isWrapper; first | (rw [if_pos (by decide +kernel)]; kernel_rfl) | (rw [if_neg (by decide +kernel)]; exact ⟨rfl, rfl⟩))
    (fun os started H enc _ => lifted os started H enc)

theorem card : Rows.LogStopsCardSaid :=
  Claim7.holds_tied_plain_at .later [] [.handle] true (true, "46c6f38ab3a4d205d5a002cc0fdd80041aa44eb565977accddc9a89474570d59") true
    over (fun _ h => by cases h) (by kernel_rfl) (fun _ h => by cases h) logStops_row_tie rfl ⟨rfl, rfl⟩ (by kernel_rfl) rfl
    (fun f fn hf hfn => by
      obtain rfl : f = 3 := Option.some.inj ((show Tryd.prog.funcNamed "tokenfold/foldlaw3.LogStops" = some 3 by kernel_rfl).symm.trans hf) |>.symm
      obtain rfl : fn = Tryd.f3 := (Option.some.inj (Tryd.func3.symm.trans hfn)).symm
      exact ⟨by kernel_rfl, fun j t ht => by
        rw [Tryd.params3] at ht
        have hm : t ∈ [3, 3, 3] := by simpa using Array.mem_of_getElem? ht
        have hall : ([3, 3, 3].all fun u => !Tryd.prog.wantsStandIn u) = true := by kernel_rfl
        exact (show Tryd.prog.wantsStandIn t = false by simpa using List.all_eq_true.1 hall t hm)⟩)
    (by kernel_rfl)

end Go.Proofs.YtfhpfdlbgmgclajDoor.logStops
namespace Go.Proofs.YtfhpfdlbgmgclajDoor
theorem logStops_holds : Rows.LogStopsCardSaid := logStops.card
#print axioms logStops_holds
end Go.Proofs.YtfhpfdlbgmgclajDoor

