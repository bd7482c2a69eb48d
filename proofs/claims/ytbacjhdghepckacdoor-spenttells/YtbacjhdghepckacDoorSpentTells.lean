/-
  SpentTells holds for every list of what was spent, every number and all times: Check, Spend, Has and Drop answer as the reference does. The listed variable errors.errorType starts as the program's text lays it (the card's tie). No other condition.
-/
import Derived.Test.YtbacjhdghepckacDoorRefSpent
import Derived.Test.YtbacjhdghepckacDoorHeld
import Derived.Test.YtbacjhdghepckacDoorTie
import Derived.Test.YtbacjhdghepckacDoorCards
import Derived.ProofKit
import Derived.Lib.SmallJoins
import Derived.LaidMore
import Derived.LaidHandle
import Derived.LaidLaws
import Derived.Stop.Joined
import Derived.SevenTiedAt
import Derived.Deep.SlicePairs
import Derived.Deep.Matrix
namespace Go.Proofs.YtbacjhdghepckacDoor.spentTells
open Go.ChangeShapes Go.WideShapes Go.ChangeAt Go.RowKit Go.Joins
set_option linter.unusedVariables false

theorem own : ownKnob Tryd.prog.godebug = none := by kernel_rfl
theorem laidOut : laidOutB Tryd.prog = true := by kernel_rfl
def IsRow (k : IntKind) (w : World) (a : Option Addr) (len cap : Nat) (zs : List Int) : Prop :=
  (a = none ∧ len = 0 ∧ cap = 0 ∧ zs = []) ∨
  ∃ x, a = some x ∧ len ≤ cap ∧ cap ≤ maxLen ∧ zs.length = cap ∧ (∀ i, i < zs.length → w.cell? (x.add i) = some (.int k (zs.getD i 0))) ∧ ∀ n ∈ zs, (Lit.int k n).wf = true
def IsPairs (w : World) (a : Option Addr) (len cap : Nat) (zs : List (Int × Int)) : Prop :=
  (a = none ∧ len = 0 ∧ cap = 0 ∧ zs = []) ∨
  ∃ x, a = some x ∧ len ≤ cap ∧ cap ≤ maxLen ∧ zs.length = cap ∧ ∀ i, i < cap → w.cell? (x.add (i * 2)) = some (.int .i64 (zs.getD i (0, 0)).1) ∧ w.cell? (x.add (i * 2 + 1)) = some (.int .i64 (zs.getD i (0, 0)).2)
def IsRows (w : World) (a : Option Addr) (len cap : Nat) (A : Nat → Option Addr) (L C : Nat → Nat) (Z : Nat → List Int) : Prop :=
  (a = none ∧ len = 0 ∧ cap = 0) ∨
  ∃ x, a = some x ∧ len ≤ cap ∧ cap ≤ maxLen ∧ ∀ r, r < cap → w.cell? (x.add r) = some (.slice (A r) (L r) (C r)) ∧ L r ≤ C r ∧ C r ≤ maxLen ∧ (Z r).length = C r ∧ (∀ n ∈ Z r, (Lit.int .i64 n).wf = true) ∧ (A r = none → C r = 0) ∧
    ∀ a', A r = some a' → ∀ c, c < C r → w.cell? (a'.add c) = some (.int .i64 ((Z r).getD c 0))


theorem same_same (n : Int) (w : World) (hg : ErrType w) : Calls Tryd.prog 9 #[errV n, .int .i64 n] w fun e w' => e = .returned (.bool true) ∧ Below w.heap.size w w' := by
  have h := same_any n n w hg
  rwa [show (n == n) = true by simp] at h
theorem nil_len {w : World} {a : Option Addr} {len cap : Nat} (h : PRow w a len cap []) : len = 0 := h.1.symm


set_option maxHeartbeats 6400000 in
set_option maxRecDepth 8000 in
theorem walk_bad {l : List (Int × Int)} {a : Option Addr} {len cap : Nat} (n till now : Int) (w : World) (hp : PRow w a len cap l) (he : ¬ SpentM.err l = 0) (hg : ErrType w) :
    Calls Tryd.prog 3 #[.slice a len cap, .int .i64 n, .int .i64 till, .int .i64 now] w fun e w' => e = .returned (.bool true) ∧ Below w.heap.size w w' := by
  have HG := hide hg
  have HP := hide hp
  have HB0 := hide (Below.refl w.heap.size w)
  have C1 := hide (fun (W : World) (h : Below w.heap.size w W) => ref_spents W (hp.later h))
  have C2 := hide (fun (W : World) (h : Below w.heap.size w W) => scheck_any W (hp.later h))
  have C3 := hide (fun (W : World) (h : Below w.heap.size w W) => sspend_any n till now W (hp.later h))
  rw [SpentM.spend_no (show ¬ SpentM.spendErr l n till now = 0 by unfold SpentM.spendErr; rw [if_neg he]; exact he), show SpentM.spendErr l n till now = SpentM.err l by unfold SpentM.spendErr; rw [if_neg he]] at C3
  have C4 := hide (fun (W : World) (h : Below w.heap.size w W) => shas_any n W (hp.later h))
  have hh : SpentM.hasErr l n = SpentM.err l := by unfold SpentM.hasErr; rw [if_neg he]
  rw [show SpentM.has l n = false by unfold SpentM.has; rw [hh]; simp [he], hh] at C4
  have C5 := hide (fun (W : World) (h : Below w.heap.size w W) => sdrop_any now W (hp.later h))
  have hd : SpentM.dropErr l now = SpentM.err l := by unfold SpentM.dropErr; rw [if_neg he]
  rw [show SpentM.drop l now = [] by unfold SpentM.drop; rw [hd]; exact SpentM.told_pos he, hd] at C5
  have CI := hide (fun w => in_any n w)
  have CT := hide (fun w => rtime_any now w)
  generalize SpentM.err l = g at C1 C2 C3 C4 C5 he
  generalize TagM.inB n = p at CI
  generalize TokenM.timeB now = q at CT
  have hg0 : (g == 0) = false := by simp [he]
  clear hp hg hh hd
  go_enter Tryd.func3, Tryd.ntmps3
  go_wp2_with fail
  refine (unhide C1 _ (unhide HB0)).mono ?_
  rintro e w1 ⟨rfl, hb1⟩
  have HB1 := hide (bel3 (unhide HB0) (Below.refl _ _) hb1)
  clear hb1
  go_wp2_with fail
  refine (unhide C2 _ (unhide HB1)).mono ?_
  rintro e w2 ⟨rfl, hb2⟩
  have HB2 := hide (bel3 (unhide HB1) (Below.refl _ _) hb2)
  clear hb2
  go_wp2_with fail
  refine (same_same _ _ ((unhide HG).later (unhide HB2))).mono ?_
  rintro e w3 ⟨rfl, hb3⟩
  have HB3 := hide (bel3 (unhide HB2) (Below.refl _ _) hb3)
  clear hb3
  go_wp2_with fail
  refine (unhide C3 _ (unhide HB3)).mono ?_
  rintro e w4 ⟨x3, n3, cap3, rfl, hp3, hb4⟩
  have HB4 := hide (bel3 (unhide HB3) (Below.refl _ _) hb4)
  have HX4 := hide hp3
  clear hb4 hp3
  obtain rfl := nil_len (unhide HX4)
  go_wp2_with fail
  refine (same_same _ _ ((unhide HG).later (unhide HB4))).mono ?_
  rintro e w5 ⟨rfl, hb5⟩
  have HX5 := hide ((unhide HX4).later hb5)
  have HB5 := hide (bel3 (unhide HB4) (Below.refl _ _) hb5)
  clear hb5
  go_wp2_with fail
  refine (same_spent (l := []) _ (by omega) (unhide HX5) (nil_row _)).mono ?_
  rintro e w6 ⟨rfl, hb6⟩
  have HX6 := hide ((unhide HX5).later hb6)
  have HB6 := hide (bel3 (unhide HB5) (Below.refl _ _) hb6)
  clear hb6
  go_wp2_with fail
  refine (unhide CI _).mono ?_
  rintro e w' ⟨rfl, hw⟩
  obtain rfl := hw.symm
  clear hw
  go_wp2_with fail
  refine (unhide C4 _ (unhide HB6)).mono ?_
  rintro e w7 ⟨rfl, hb7⟩
  have HB7 := hide (bel3 (unhide HB6) (Below.refl _ _) hb7)
  clear hb7
  go_wp2_with fail
  refine (same_same _ _ ((unhide HG).later (unhide HB7))).mono ?_
  rintro e w8 ⟨rfl, hb8⟩
  have HB8 := hide (bel3 (unhide HB7) (Below.refl _ _) hb8)
  clear hb8
  go_wp2_with fail
  refine (unhide CT _).mono ?_
  rintro e w' ⟨rfl, hw⟩
  obtain rfl := hw.symm
  clear hw
  go_wp2_with fail
  refine (unhide C5 _ (unhide HB8)).mono ?_
  rintro e w9 ⟨x4, n4, cap4, rfl, hp4, hb9⟩
  have HB9 := hide (bel3 (unhide HB8) (Below.refl _ _) hb9)
  have HY9 := hide hp4
  clear hb9 hp4
  obtain rfl := nil_len (unhide HY9)
  go_wp2_with fail
  refine (same_same _ _ ((unhide HG).later (unhide HB9))).mono ?_
  rintro e w10 ⟨rfl, hb10⟩
  have HY10 := hide ((unhide HY9).later hb10)
  have HB10 := hide (bel3 (unhide HB9) (Below.refl _ _) hb10)
  clear hb10
  go_wp2_with fail
  refine (same_spent (l := []) _ (by omega) (unhide HY10) (nil_row _)).mono ?_
  rintro e w11 ⟨rfl, hb11⟩
  have HY11 := hide ((unhide HY10).later hb11)
  have HB11 := hide (bel3 (unhide HB10) (Below.refl _ _) hb11)
  clear hb11
  go_wp2
  go_ret
  exact ⟨rfl, unhide HB11⟩

set_option maxHeartbeats 6400000 in
set_option maxRecDepth 8000 in
theorem walk_good {l : List (Int × Int)} {a : Option Addr} {len cap : Nat} (n till now : Int) (w : World) (hp : PRow w a len cap l) (he : SpentM.err l = 0) (hg : ErrType w) :
    Calls Tryd.prog 3 #[.slice a len cap, .int .i64 n, .int .i64 till, .int .i64 now] w fun e w' => e = .returned (.bool true) ∧ Below w.heap.size w w' := by
  have HG := hide hg
  have HP := hide hp
  have HB0 := hide (Below.refl w.heap.size w)
  have hl := len16 hp he
  have C1 := hide (fun (W : World) (h : Below w.heap.size w W) => ref_spents W (hp.later h))
  rw [he] at C1
  have C2 := hide (fun (W : World) (h : Below w.heap.size w W) => scheck_any W (hp.later h))
  rw [he] at C2
  have hE : SpentM.spendErr l n till now = SpentM.restErr l n till now := by unfold SpentM.spendErr; rw [if_pos he]
  have C3 := hide (fun (W : World) (h : Below w.heap.size w W) => sspend_any n till now W (hp.later h))
  have R3 := hide (fun (W : World) (h : Below w.heap.size w W) => ref_spend n till now W hl (hp.later h))
  have HM : Hid ((SpentM.spend l n till now).length ≤ 16) := hide (by
    by_cases h0 : SpentM.spendErr l n till now = 0
    · exact (SpentM.spend_good h0).1
    · rw [SpentM.spend_no h0]; exact Nat.zero_le _)
  unfold SpentM.spend at C3 HM
  rw [hE] at C3 HM
  generalize SpentM.restErr l n till now = E at C3 R3 HM
  generalize SpentM.told E (SpentM.left l now ++ [(n, till)]) = L at C3 R3 HM
  have C4 := hide (fun (W : World) (h : Below w.heap.size w W) => shas_any n W (hp.later h))
  have R4 := hide (fun (W : World) (h : Below w.heap.size w W) => ref_has n W hl (hp.later h))
  have C5 := hide (fun (W : World) (h : Below w.heap.size w W) => sdrop_any now W (hp.later h))
  have R5 := hide (fun (W : World) (h : Below w.heap.size w W) => ref_drop now W hl (hp.later h))
  have HM5 := hide (show (SpentM.left l now).length ≤ 16 from by have := SpentM.left_le l now; have := hp.1; omega)
  have CI := hide (fun w => in_any n w)
  have CT := hide (fun w => rtime_any now w)
  have h4 : SpentM.hasErr l n = if TagM.inB n = true then 0 else 1 := by unfold SpentM.hasErr; rw [if_pos he]
  unfold SpentM.has at C4
  rw [h4] at C4
  have h5 : SpentM.dropErr l now = if TokenM.timeB now = true then 0 else 1 := by unfold SpentM.dropErr; rw [if_pos he]
  unfold SpentM.drop at C5
  rw [h5] at C5
  generalize TagM.inB n = p at CI C4
  generalize TokenM.timeB now = q at CT C5
  generalize SpentM.hasB l n = hb at C4 R4
  generalize SpentM.left l now = M at C5 R5 HM5
  clear hp hg hE h4 h5 he
  go_enter Tryd.func3, Tryd.ntmps3
  go_wp2_with fail
  refine (unhide C1 _ (unhide HB0)).mono ?_
  rintro e w1 ⟨rfl, hb1⟩
  have HB1 := hide (bel3 (unhide HB0) (Below.refl _ _) hb1)
  clear hb1
  go_wp2_with fail
  refine (unhide C2 _ (unhide HB1)).mono ?_
  rintro e w2 ⟨rfl, hb2⟩
  have HB2 := hide (bel3 (unhide HB1) (Below.refl _ _) hb2)
  clear hb2
  go_wp2_with fail
  refine (same_same _ _ ((unhide HG).later (unhide HB2))).mono ?_
  rintro e w3 ⟨rfl, hb3⟩
  have HB3 := hide (bel3 (unhide HB2) (Below.refl _ _) hb3)
  clear hb3
  go_wp2_with fail
  refine (unhide R3 _ (unhide HB3)).mono ?_
  rintro e w4 ⟨xr, nr, capr, rfl, hpr, hb4⟩
  have HB4 := hide (bel3 (unhide HB3) (Below.refl _ _) hb4)
  have HR4 := hide hpr
  clear hb4 hpr
  go_wp2_with fail
  refine (unhide C3 _ (unhide HB4)).mono ?_
  rintro e w5 ⟨x3, n3, cap3, rfl, hp3, hb5⟩
  have HR5 := hide ((unhide HR4).later hb5)
  have HB5 := hide (bel3 (unhide HB4) (Below.refl _ _) hb5)
  have HX5 := hide hp3
  clear hb5 hp3
  have hn3 : n3 ≤ 16 := by have := (unhide HX5).1; have := unhide HM; omega
  go_wp2_with fail
  refine (same_same _ _ ((unhide HG).later (unhide HB5))).mono ?_
  rintro e w6 ⟨rfl, hb6⟩
  have HR6 := hide ((unhide HR5).later hb6)
  have HX6 := hide ((unhide HX5).later hb6)
  have HB6 := hide (bel3 (unhide HB5) (Below.refl _ _) hb6)
  clear hb6
  go_wp2_with fail
  refine (same_spent _ hn3 (unhide HX6) (unhide HR6)).mono ?_
  rintro e w7 ⟨rfl, hb7⟩
  have HR7 := hide ((unhide HR6).later hb7)
  have HX7 := hide ((unhide HX6).later hb7)
  have HB7 := hide (bel3 (unhide HB6) (Below.refl _ _) hb7)
  clear hb7
  go_wp2_with fail
  refine (unhide CI _).mono ?_
  rintro e w' ⟨rfl, hw⟩
  obtain rfl := hw.symm
  clear hw
  cases p with
  | false =>
    rw [if_neg (show ¬ (false = true) by simp), show (decide ((1 : Int) = 0) && hb) = false by simp] at C4
    go_wp2_with fail
    refine (unhide C4 _ (unhide HB7)).mono ?_
    rintro e w8 ⟨rfl, hb8⟩
    have HB8 := hide (bel3 (unhide HB7) (Below.refl _ _) hb8)
    clear hb8
    go_wp2_with fail
    refine (same_same _ _ ((unhide HG).later (unhide HB8))).mono ?_
    rintro e w9 ⟨rfl, hb9⟩
    have HB9 := hide (bel3 (unhide HB8) (Below.refl _ _) hb9)
    clear hb9
    go_wp2_with fail
    refine (unhide CT _).mono ?_
    rintro e w' ⟨rfl, hw⟩
    obtain rfl := hw.symm
    clear hw
    cases q with
    | false =>
      rw [if_neg (show ¬ (false = true) by simp), SpentM.told_pos (by omega)] at C5
      go_wp2_with fail
      refine (unhide C5 _ (unhide HB9)).mono ?_
      rintro e w10 ⟨x4, n4, cap4, rfl, hp4, hb10⟩
      have HB10 := hide (bel3 (unhide HB9) (Below.refl _ _) hb10)
      have HY10 := hide hp4
      clear hb10 hp4
      obtain rfl := nil_len (unhide HY10)
      go_wp2_with fail
      refine (same_same _ _ ((unhide HG).later (unhide HB10))).mono ?_
      rintro e w11 ⟨rfl, hb11⟩
      have HY11 := hide ((unhide HY10).later hb11)
      have HB11 := hide (bel3 (unhide HB10) (Below.refl _ _) hb11)
      clear hb11
      go_wp2_with fail
      refine (same_spent (l := []) _ (by omega) (unhide HY11) (nil_row _)).mono ?_
      rintro e w12 ⟨rfl, hb12⟩
      have HY12 := hide ((unhide HY11).later hb12)
      have HB12 := hide (bel3 (unhide HB11) (Below.refl _ _) hb12)
      clear hb12
      go_wp2
      go_ret
      exact ⟨rfl, unhide HB12⟩
    | true =>
      rw [if_pos rfl, SpentM.told_zero rfl] at C5
      go_wp2_with fail
      refine (unhide R5 _ (unhide HB9)).mono ?_
      rintro e w10 ⟨x5, n5, cap5, rfl, _, hp5, hb10⟩
      have HB10 := hide (bel3 (unhide HB9) (Below.refl _ _) hb10)
      have HZ10 := hide hp5
      clear hb10 hp5
      go_wp2_with fail
      refine (unhide C5 _ (unhide HB10)).mono ?_
      rintro e w11 ⟨x4, n4, cap4, rfl, hp4, hb11⟩
      have HZ11 := hide ((unhide HZ10).later hb11)
      have HB11 := hide (bel3 (unhide HB10) (Below.refl _ _) hb11)
      have HY11 := hide hp4
      clear hb11 hp4
      have hn4 : n4 ≤ 16 := by have := (unhide HY11).1; have := unhide HM5; omega
      go_wp2_with fail
      refine (same_same _ _ ((unhide HG).later (unhide HB11))).mono ?_
      rintro e w12 ⟨rfl, hb12⟩
      have HZ12 := hide ((unhide HZ11).later hb12)
      have HY12 := hide ((unhide HY11).later hb12)
      have HB12 := hide (bel3 (unhide HB11) (Below.refl _ _) hb12)
      clear hb12
      go_wp2_with fail
      refine (same_spent _ hn4 (unhide HY12) (unhide HZ12)).mono ?_
      rintro e w13 ⟨rfl, hb13⟩
      have HZ13 := hide ((unhide HZ12).later hb13)
      have HY13 := hide ((unhide HY12).later hb13)
      have HB13 := hide (bel3 (unhide HB12) (Below.refl _ _) hb13)
      clear hb13
      go_wp2
      go_ret
      exact ⟨rfl, unhide HB13⟩
  | true =>
    rw [if_pos rfl, show (decide ((0 : Int) = 0) && hb) = hb by simp] at C4
    go_wp2_with fail
    refine (unhide R4 _ (unhide HB7)).mono ?_
    rintro e w' ⟨rfl, hw⟩
    obtain rfl := hw.symm
    clear hw
    go_wp2_with fail
    refine (unhide C4 _ (unhide HB7)).mono ?_
    rintro e w8 ⟨rfl, hb8⟩
    have HB8 := hide (bel3 (unhide HB7) (Below.refl _ _) hb8)
    clear hb8
    go_wp2_with fail
    refine (same_same _ _ ((unhide HG).later (unhide HB8))).mono ?_
    rintro e w9 ⟨rfl, hb9⟩
    have HB9 := hide (bel3 (unhide HB8) (Below.refl _ _) hb9)
    clear hb9
    go_wp2_with fail
    refine (unhide CT _).mono ?_
    rintro e w' ⟨rfl, hw⟩
    obtain rfl := hw.symm
    clear hw
    cases q with
    | false =>
      rw [if_neg (show ¬ (false = true) by simp), SpentM.told_pos (by omega)] at C5
      go_wp2_with fail
      refine (unhide C5 _ (unhide HB9)).mono ?_
      rintro e w10 ⟨x4, n4, cap4, rfl, hp4, hb10⟩
      have HB10 := hide (bel3 (unhide HB9) (Below.refl _ _) hb10)
      have HY10 := hide hp4
      clear hb10 hp4
      obtain rfl := nil_len (unhide HY10)
      go_wp2_with fail
      refine (same_same _ _ ((unhide HG).later (unhide HB10))).mono ?_
      rintro e w11 ⟨rfl, hb11⟩
      have HY11 := hide ((unhide HY10).later hb11)
      have HB11 := hide (bel3 (unhide HB10) (Below.refl _ _) hb11)
      clear hb11
      go_wp2_with fail
      refine (same_spent (l := []) _ (by omega) (unhide HY11) (nil_row _)).mono ?_
      rintro e w12 ⟨rfl, hb12⟩
      have HY12 := hide ((unhide HY11).later hb12)
      have HB12 := hide (bel3 (unhide HB11) (Below.refl _ _) hb12)
      clear hb12
      go_wp2
      go_ret
      exact ⟨rfl, unhide HB12⟩
    | true =>
      rw [if_pos rfl, SpentM.told_zero rfl] at C5
      go_wp2_with fail
      refine (unhide R5 _ (unhide HB9)).mono ?_
      rintro e w10 ⟨x5, n5, cap5, rfl, _, hp5, hb10⟩
      have HB10 := hide (bel3 (unhide HB9) (Below.refl _ _) hb10)
      have HZ10 := hide hp5
      clear hb10 hp5
      go_wp2_with fail
      refine (unhide C5 _ (unhide HB10)).mono ?_
      rintro e w11 ⟨x4, n4, cap4, rfl, hp4, hb11⟩
      have HZ11 := hide ((unhide HZ10).later hb11)
      have HB11 := hide (bel3 (unhide HB10) (Below.refl _ _) hb11)
      have HY11 := hide hp4
      clear hb11 hp4
      have hn4 : n4 ≤ 16 := by have := (unhide HY11).1; have := unhide HM5; omega
      go_wp2_with fail
      refine (same_same _ _ ((unhide HG).later (unhide HB11))).mono ?_
      rintro e w12 ⟨rfl, hb12⟩
      have HZ12 := hide ((unhide HZ11).later hb12)
      have HY12 := hide ((unhide HY11).later hb12)
      have HB12 := hide (bel3 (unhide HB11) (Below.refl _ _) hb12)
      clear hb12
      go_wp2_with fail
      refine (same_spent _ hn4 (unhide HY12) (unhide HZ12)).mono ?_
      rintro e w13 ⟨rfl, hb13⟩
      have HZ13 := hide ((unhide HZ12).later hb13)
      have HY13 := hide ((unhide HY12).later hb13)
      have HB13 := hide (bel3 (unhide HB12) (Below.refl _ _) hb13)
      clear hb13
      go_wp2
      go_ret
      exact ⟨rfl, unhide HB13⟩

theorem walk (a0 : Option Addr) (len0 cap0 : Nat) (z0 : List (Int × Int)) (n till now : Int) (w : World) (w0 : IsPairs w a0 len0 cap0 z0) (w1 : (Lit.int .i64 n).wf = true) (w2 : (Lit.int .i64 till).wf = true) (w3 : (Lit.int .i64 now).wf = true) (hg : ErrType w) :
    Calls Tryd.prog 3 #[.slice a0 len0 cap0, .int .i64 n, .int .i64 till, .int .i64 now] w fun e w' => e = .returned (.bool true) ∧ Below w.heap.size w w' := by
  obtain ⟨l, hp⟩ := row_pairs w0
  by_cases he : SpentM.err l = 0
  · exact walk_good n till now w hp he hg
  · exact walk_bad n till now w hp he hg


theorem gErr : Tryd.prog.globalNamed "errors.errorType" = some 0 := by kernel_rfl
theorem rtErr : (Tryd.prog.cutTypes.find? (·.1 == "internal/reflectlite.rtype")).map (·.2) = some 80 := by kernel_rfl
theorem oneRow : ((List.range 123).filter fun t => Tryd.prog.rowNamed t [101, 114, 114, 111, 114]) = [26] := by kernel_rfl
theorem sizeT : Tryd.prog.types.size = 123 := by kernel_rfl
theorem handle_of_laid {W : World} (h : laidMetH Tryd.prog Rows.spentTellsRow.laid W) : ErrType W := by
  have h' : laidMet Tryd.prog [] W ∧ handlesMet Tryd.prog Rows.spentTellsRow.laid W := h
  obtain ⟨name, u, ty, e1, e2, e3, e4, e5⟩ := h'.2 _ (List.mem_singleton.2 rfl)
  have en : name = [101, 114, 114, 111, 114] := (Option.some.inj e1).symm
  subst en
  obtain rfl := Option.some.inj (rtErr.symm.trans e2)
  have hm : ty ∈ (List.range 123).filter fun t => Tryd.prog.rowNamed t [101, 114, 114, 111, 114] := List.mem_filter.2 ⟨List.mem_range.2 (by rw [← sizeT]; exact e3), e4⟩
  rw [oneRow] at hm
  obtain rfl := List.mem_singleton.1 hm
  have hh : typeHandle Tryd.prog 26 = .pointer (some ⟨1, 26, none⟩) := by kernel_rfl
  rw [hh] at e5
  unfold ErrType
  simpa using World.var?_cell gErr e5 0
theorem door_met (os : Os) (args : Array Value) : laidMetH Tryd.prog Rows.spentTellsRow.laid ((World.doorLaid Tryd.prog 400 os).forCall (fun _ _ => 0) ⟨#[], args, []⟩).memory :=
  laidMetH_of_parts (laidMet_nil _ _) (by kernel_rfl)


set_option maxRecDepth 100000 in
theorem lifted (os : Os) (started : os.Started) (H : Type) (enc : TypeId × Value → H) :
    ReturnsInHanded {} Tryd.checked os 3 .any (fun w args => (Rows.spentTellsSpec.pre enc Tryd.prog Tryd.f3 [] false w args ∧ laidMetH Tryd.prog Rows.spentTellsRow.laid w) ∧ sizedMet enc Tryd.prog Tryd.f3 (OpenSpec.ofChange Rows.spentTellsSpec) false w args) (Rows.spentTellsSpec.post enc Tryd.prog Tryd.f3 false true false false) := by
  refine returnsInHanded_of_change_and (C := Tryd.checked) (X := fun w _ => laidMetH Tryd.prog Rows.spentTellsRow.laid w) (fun _ _ _ hh h => h.of_heap hh) own started (by kernel_rfl) Tryd.func3
    (ChangeSpec.witness_shaped (enc := enc) (C := Tryd.checked) (os := os) (X := fun w _ => laidMetH Tryd.prog Rows.spentTellsRow.laid w) false (World.doorLaid Tryd.prog 400 os) #[.slice none 0 0, .int .i64 0, .int .i64 0, .int .i64 0] 8 rfl (World.shaped_of_RefB (by kernel_rfl) (by kernel_rfl)) (by kernel_rfl) (by kernel_rfl) (by kernel_rfl) (door_met os _)) ?_
  intro W base args ds gs before hval0 hW _ hsz hL _
  have hg := handle_of_laid hL
  have hval : ∀ (j : Nat) t v, Tryd.f3.params[j]? = some t → args[j]? = some v → Value.okWide Tryd.prog W .any base t v := hval0
  have hW' := hW
  obtain ⟨p, q, hA0, hV, rfl, hfz, hnd⟩ := hW
  have hA : DataW.TrodAll enc Tryd.prog W 0 (fun _ => true) true Tryd.f3.params.toList args.toList ds p := hA0
  rw [Tryd.params3] at hA hval
  obtain ⟨v0, vs0, d0, ds0, p0, q0, hargs, rfl, rfl, h0, r0⟩ := trodAll_cons hA
  obtain ⟨v1, vs1, d1, ds1, p1, q1, rfl, rfl, rfl, h1, r1⟩ := trodAll_cons r0
  obtain ⟨v2, vs2, d2, ds2, p2, q2, rfl, rfl, rfl, h2, r2⟩ := trodAll_cons r1
  obtain ⟨v3, vs3, d3, ds3, p3, q3, rfl, rfl, rfl, h3, r3⟩ := trodAll_cons r2
  obtain ⟨rfl, rfl, rfl⟩ := trodAll_nil r3
  obtain rfl : args = #[v0, v1, v2, v3] := by cases args; simp_all
  obtain ⟨rfl, rfl⟩ := trodVars_none hV
  have k0 := h0
  have lt0 : ∀ x ∈ p0, x.block < W.heap.size := by obtain ⟨m, hm⟩ := k0; exact DataW.trod_lt m _ _ _ hm
  obtain ⟨a0, len0, cap0, rfl⟩ := okWide_slice Tryd.underlying22 (hval 0 22 v0 rfl rfl)
  obtain ⟨z0, w0⟩ : ∃ zs, IsPairs W a0 len0 cap0 zs := by
    obtain ⟨fuel, hf⟩ := h0
    rcases Go.Deep.open_slice_pairs Tryd.underlying22 Tryd.underlying43 (by kernel_rfl) rfl rfl (by kernel_rfl) (by kernel_rfl) hf with ⟨hcs, _⟩ | ⟨x, l, c, m, n, V0, V1, D0, D1, P0, P1, hcs, _, hl, hm, hmm, _, hx⟩
    · simp [Value.cells] at hcs
      obtain ⟨rfl, rfl, rfl⟩ := hcs
      exact ⟨[], .inl ⟨rfl, rfl, rfl, rfl⟩⟩
    · simp [Value.cells] at hcs
      obtain ⟨rfl, rfl, rfl⟩ := hcs
      have hmc : m = cap0 := by simpa using hmm
      subst hmc
      have each : ∀ i, i < m → ∃ q : Int × Int, V0 i = .int .i64 q.1 ∧ V1 i = .int .i64 q.2 := fun i hi => by
        obtain ⟨_, _, g0, g1⟩ := hx i hi
        obtain ⟨y0, e0, _, _⟩ := DataW.trod_int Tryd.underlying3 g0
        obtain ⟨y1, e1, _, _⟩ := DataW.trod_int Tryd.underlying3 g1
        simp at e0 e1
        exact ⟨(y0, y1), e0, e1⟩
      obtain ⟨q, hq⟩ := Go.Deep.choose_lt each
      refine ⟨(List.range m).map q, .inr ⟨_, rfl, hl, hm, by simp, fun i hi => ?_⟩⟩
      obtain ⟨c0, c1, _, _⟩ := hx i hi
      obtain ⟨q0, q1⟩ := hq i hi
      rw [c0, c1, q0, q1]
      simp [List.getD, hi]
  have k1 := h1
  have lt1 : ∀ x ∈ p1, x.block < W.heap.size := by obtain ⟨m, hm⟩ := k1; exact DataW.trod_lt m _ _ _ hm
  obtain ⟨a1, rfl, rfl, rfl, w1⟩ := open_int Tryd.underlying3 (hval 1 3 v1 rfl rfl) h1
  have k2 := h2
  have lt2 : ∀ x ∈ p2, x.block < W.heap.size := by obtain ⟨m, hm⟩ := k2; exact DataW.trod_lt m _ _ _ hm
  obtain ⟨a2, rfl, rfl, rfl, w2⟩ := open_int Tryd.underlying3 (hval 2 3 v2 rfl rfl) h2
  have k3 := h3
  have lt3 : ∀ x ∈ p3, x.block < W.heap.size := by obtain ⟨m, hm⟩ := k3; exact DataW.trod_lt m _ _ _ hm
  obtain ⟨a3, rfl, rfl, rfl, w3⟩ := open_int Tryd.underlying3 (hval 3 3 v3 rfl rfl) h3
  clear hA0 hval0
  refine (walk a0 len0 cap0 z0 a1 a2 a3 W w0 w1 w2 w3 hg).mono fun e W' ⟨he, bel⟩ => ?_
  subst he
  exact ⟨_, rfl, _, _, _, [], _, [], hW', trodAll_mk1 (shut_bool Tryd.underlying4 _), (trodAll_cons_mk (Below.trod laidOut (by kernel_rfl) (of_decide_eq_true (by kernel_rfl)) k0 bel lt0) (trodAll_cons_mk (Below.trod laidOut (by kernel_rfl) (of_decide_eq_true (by kernel_rfl)) k1 bel lt1) (trodAll_cons_mk (Below.trod laidOut (by kernel_rfl) (of_decide_eq_true (by kernel_rfl)) k2 bel lt2) (trodAll_cons_mk (Below.trod laidOut (by kernel_rfl) (of_decide_eq_true (by kernel_rfl)) k3 bel lt3) trodAll_mk0)))), rfl, bel.frame _, fun h => by cases h⟩

theorem over : Rows.spentTellsRow.holds Tryd.pinned (OpenSpec.ofChange Rows.spentTellsSpec) :=
  OpenClaim.holds_of_wide 3 Tryd.f3 rfl rfl rfl rfl rfl rfl rfl ⟨rfl, rfl, rfl, rfl, rfl⟩ rfl rfl rfl rfl rfl (by kernel_rfl) Tryd.func3 (by kernel_rfl)
    (of_decide_eq_true (by kernel_rfl)) (by unfold Func.isWrapper; first | (rw [if_pos (by decide +kernel)]; kernel_rfl) | (rw [if_neg (by decide +kernel)]; exact ⟨rfl, rfl⟩))
    (fun os started H enc _ => lifted os started H enc)

theorem card : Rows.SpentTellsCardSaid :=
  Claim7.holds_tied_plain_at .later [] [.handle] true (true, "e8cbe923d7c0575d3f6fe6fc2d6ded02667df0b32199b21acacc92ab6a77b1b7") true
    over (fun _ h => by cases h) (by kernel_rfl) (fun _ h => by cases h) spentTells_row_tie rfl ⟨rfl, rfl⟩ (by kernel_rfl) rfl
    (fun f fn hf hfn => by
      obtain rfl : f = 3 := Option.some.inj ((show Tryd.prog.funcNamed "tokenfold/foldlaw1.SpentTells" = some 3 by kernel_rfl).symm.trans hf) |>.symm
      obtain rfl : fn = Tryd.f3 := (Option.some.inj (Tryd.func3.symm.trans hfn)).symm
      exact ⟨by kernel_rfl, fun j t ht => by
        rw [Tryd.params3] at ht
        have hm : t ∈ [22, 3, 3, 3] := by simpa using Array.mem_of_getElem? ht
        have hall : ([22, 3, 3, 3].all fun u => !Tryd.prog.wantsStandIn u) = true := by kernel_rfl
        exact (show Tryd.prog.wantsStandIn t = false by simpa using List.all_eq_true.1 hall t hm)⟩)
    (by kernel_rfl)

end Go.Proofs.YtbacjhdghepckacDoor.spentTells
namespace Go.Proofs.YtbacjhdghepckacDoor
theorem spentTells_holds : Rows.SpentTellsCardSaid := spentTells.card
#print axioms spentTells_holds
end Go.Proofs.YtbacjhdghepckacDoor

