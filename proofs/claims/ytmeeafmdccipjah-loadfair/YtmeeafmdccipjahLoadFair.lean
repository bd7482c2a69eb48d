/-
  LoadFair holds for every number that waits, every number besides, with a token and without, for who is old and who is not: who shows more is welcome wherever one was; the more wait, the less it is welcome. No condition.
-/
import Derived.Test.YtmeeafmdccipjahLoadWalks
import Derived.Test.YtmeeafmdccipjahHeld
import Derived.ProofKit
import Derived.Lib.SmallJoins
namespace Go.Proofs.Ytmeeafmdccipjah.loadFair
open Go.ChangeShapes Go.WideShapes Go.ChangeAt Go.RowKit Go.Joins
set_option linter.unusedVariables false

theorem own : ownKnob Try.prog.godebug = none := by kernel_rfl
theorem laidOut : laidOutB Try.prog = true := by kernel_rfl
def IsRow (k : IntKind) (w : World) (a : Option Addr) (len cap : Nat) (zs : List Int) : Prop :=
  (a = none ∧ len = 0 ∧ cap = 0 ∧ zs = []) ∨
  ∃ x, a = some x ∧ len ≤ cap ∧ cap ≤ maxLen ∧ zs.length = cap ∧ (∀ i, i < zs.length → w.cell? (x.add i) = some (.int k (zs.getD i 0))) ∧ ∀ n ∈ zs, (Lit.int k n).wf = true
def IsStrs (w : World) (a : Option Addr) (len cap : Nat) (zs : List ByteArray) : Prop :=
  (a = none ∧ len = 0 ∧ cap = 0 ∧ zs = []) ∨
  ∃ x, a = some x ∧ len ≤ cap ∧ cap ≤ maxLen ∧ zs.length = cap ∧ (∀ i, i < zs.length → w.cell? (x.add i) = some (.string (zs.getD i ByteArray.empty))) ∧ ∀ s ∈ zs, s.size ≤ maxLen
def IsPairs (w : World) (a : Option Addr) (len cap : Nat) (zs : List (Int × Int)) : Prop :=
  (a = none ∧ len = 0 ∧ cap = 0 ∧ zs = []) ∨
  ∃ x, a = some x ∧ len ≤ cap ∧ cap ≤ maxLen ∧ zs.length = cap ∧ ∀ i, i < cap → w.cell? (x.add (i * 2)) = some (.int .i64 (zs.getD i (0, 0)).1) ∧ w.cell? (x.add (i * 2 + 1)) = some (.int .i64 (zs.getD i (0, 0)).2)
def IsRows (w : World) (a : Option Addr) (len cap : Nat) (A : Nat → Option Addr) (L C : Nat → Nat) (Z : Nat → List Int) : Prop :=
  (a = none ∧ len = 0 ∧ cap = 0) ∨
  ∃ x, a = some x ∧ len ≤ cap ∧ cap ≤ maxLen ∧ ∀ r, r < cap → w.cell? (x.add r) = some (.slice (A r) (L r) (C r)) ∧ L r ≤ C r ∧ C r ≤ maxLen ∧ (Z r).length = C r ∧ (∀ n ∈ Z r, (Lit.int .i64 n).wf = true) ∧ (A r = none → C r = 0) ∧
    ∀ a', A r = some a' → ∀ c, c < C r → w.cell? (a'.add c) = some (.int .i64 ((Z r).getD c 0))


set_option maxHeartbeats 3200000 in
set_option maxRecDepth 8000 in
theorem bad1 {n : Int} (m : Int) (t o : Bool) (w : World) (h : n < 0) :
    Calls Try.prog 3 #[.int .i64 n, .int .i64 m, .bool t, .bool o] w fun e w' => e = .returned (.bool true) ∧ Below w.heap.size w w' := by
  have B1 := hide (fun w => needs_any (-1) false false w)
  rw [LoadM.kind_bad (by omega), LoadM.err_bad (by omega), errV_pos (by omega)] at B1
  have B2 := hide (fun w => needs_any 5 false false w)
  rw [LoadM.kind_bare (by omega) (by omega), LoadM.err_good (by omega) (by omega), errV_zero rfl] at B2
  have C := hide (fun w => needs_any n t o w)
  rw [LoadM.kind_bad (.inl h), LoadM.err_bad (.inl h), errV_pos (by omega)] at C
  go_enter Try.func3, Try.ntmps3
  go_wp2_with fail
  refine (unhide B1 _).mono ?_
  rintro e w' ⟨rfl, hw⟩
  obtain rfl := hw.symm
  clear hw
  go_wp2_with fail
  refine (unhide B2 _).mono ?_
  rintro e w' ⟨rfl, hw⟩
  obtain rfl := hw.symm
  clear hw
  go_wp2_with fail
  refine (unhide C _).mono ?_
  rintro e w' ⟨rfl, hw⟩
  obtain rfl := hw.symm
  clear hw
  go_wp2
  go_ret
  exact ⟨rfl, (by (repeat' (first | exact Below.refl _ _ | refine Below.alloc ?_ ?_ _ | refine Below.setCell ?_ ?_ _ | refine Below.drew ?_)); all_goals (first | exact Nat.le_refl _ | omega | (simp; done) | (simp; omega)))⟩

set_option maxHeartbeats 3200000 in
set_option maxRecDepth 8000 in
theorem bad2 {n : Int} (m : Int) (t o : Bool) (w : World) (h : 8 < n) :
    Calls Try.prog 3 #[.int .i64 n, .int .i64 m, .bool t, .bool o] w fun e w' => e = .returned (.bool true) ∧ Below w.heap.size w w' := by
  have B1 := hide (fun w => needs_any (-1) false false w)
  rw [LoadM.kind_bad (by omega), LoadM.err_bad (by omega), errV_pos (by omega)] at B1
  have B2 := hide (fun w => needs_any 5 false false w)
  rw [LoadM.kind_bare (by omega) (by omega), LoadM.err_good (by omega) (by omega), errV_zero rfl] at B2
  have C := hide (fun w => needs_any n t o w)
  rw [LoadM.kind_bad (.inr h), LoadM.err_bad (.inr h), errV_pos (by omega)] at C
  have h0 : ¬ n < 0 := by omega
  go_enter Try.func3, Try.ntmps3
  go_wp2_with fail
  refine (unhide B1 _).mono ?_
  rintro e w' ⟨rfl, hw⟩
  obtain rfl := hw.symm
  clear hw
  go_wp2_with fail
  refine (unhide B2 _).mono ?_
  rintro e w' ⟨rfl, hw⟩
  obtain rfl := hw.symm
  clear hw
  go_wp2_with fail
  refine (unhide C _).mono ?_
  rintro e w' ⟨rfl, hw⟩
  obtain rfl := hw.symm
  clear hw
  go_wp2
  go_ret
  exact ⟨rfl, (by (repeat' (first | exact Below.refl _ _ | refine Below.alloc ?_ ?_ _ | refine Below.setCell ?_ ?_ _ | refine Below.drew ?_)); all_goals (first | exact Nat.le_refl _ | omega | (simp; done) | (simp; omega)))⟩

set_option maxHeartbeats 3200000 in
set_option maxRecDepth 8000 in
theorem yes_less {n m : Int} (t o : Bool) (w : World) (h0 : 0 ≤ n) (h8 : n ≤ 8) (hk : LoadM.kind n t o = 1) (hm : m < n) :
    Calls Try.prog 3 #[.int .i64 n, .int .i64 m, .bool t, .bool o] w fun e w' => e = .returned (.bool true) ∧ Below w.heap.size w w' := by
  have B1 := hide (fun w => needs_any (-1) false false w)
  rw [LoadM.kind_bad (by omega), LoadM.err_bad (by omega), errV_pos (by omega)] at B1
  have B2 := hide (fun w => needs_any 5 false false w)
  rw [LoadM.kind_bare (by omega) (by omega), LoadM.err_good (by omega) (by omega), errV_zero rfl] at B2
  have C := hide (fun w => needs_any n t o w)
  rw [hk, LoadM.err_good h0 h8, errV_zero rfl] at C
  have CA := hide (fun w => needs_any n true o w)
  rw [(LoadM.kind_more hk).1, LoadM.err_good h0 h8, errV_zero rfl] at CA
  have CB := hide (fun w => needs_any n t true w)
  rw [(LoadM.kind_more hk).2, LoadM.err_good h0 h8, errV_zero rfl] at CB
  clear hk
  go_enter Try.func3, Try.ntmps3
  go_wp2_with fail
  refine (unhide B1 _).mono ?_
  rintro e w' ⟨rfl, hw⟩
  obtain rfl := hw.symm
  clear hw
  go_wp2_with fail
  refine (unhide B2 _).mono ?_
  rintro e w' ⟨rfl, hw⟩
  obtain rfl := hw.symm
  clear hw
  go_wp2_with fail
  refine (unhide C _).mono ?_
  rintro e w' ⟨rfl, hw⟩
  obtain rfl := hw.symm
  clear hw
  go_wp2_with fail
  refine (unhide CA _).mono ?_
  rintro e w' ⟨rfl, hw⟩
  obtain rfl := hw.symm
  clear hw
  go_wp2_with fail
  refine (unhide CB _).mono ?_
  rintro e w' ⟨rfl, hw⟩
  obtain rfl := hw.symm
  clear hw
  go_wp2
  go_ret
  exact ⟨rfl, (by (repeat' (first | exact Below.refl _ _ | refine Below.alloc ?_ ?_ _ | refine Below.setCell ?_ ?_ _ | refine Below.drew ?_)); all_goals (first | exact Nat.le_refl _ | omega | (simp; done) | (simp; omega)))⟩

set_option maxHeartbeats 3200000 in
set_option maxRecDepth 8000 in
theorem yes_bad {n m : Int} (t o : Bool) (w : World) (h0 : 0 ≤ n) (h8 : n ≤ 8) (hk : LoadM.kind n t o = 1) (hm : n ≤ m) (hb : 8 < m) :
    Calls Try.prog 3 #[.int .i64 n, .int .i64 m, .bool t, .bool o] w fun e w' => e = .returned (.bool true) ∧ Below w.heap.size w w' := by
  have B1 := hide (fun w => needs_any (-1) false false w)
  rw [LoadM.kind_bad (by omega), LoadM.err_bad (by omega), errV_pos (by omega)] at B1
  have B2 := hide (fun w => needs_any 5 false false w)
  rw [LoadM.kind_bare (by omega) (by omega), LoadM.err_good (by omega) (by omega), errV_zero rfl] at B2
  have C := hide (fun w => needs_any n t o w)
  rw [hk, LoadM.err_good h0 h8, errV_zero rfl] at C
  have CA := hide (fun w => needs_any n true o w)
  rw [(LoadM.kind_more hk).1, LoadM.err_good h0 h8, errV_zero rfl] at CA
  have CB := hide (fun w => needs_any n t true w)
  rw [(LoadM.kind_more hk).2, LoadM.err_good h0 h8, errV_zero rfl] at CB
  have hm1 : ¬ m < n := by omega
  have CM := hide (fun w => needs_any m t o w)
  rw [LoadM.kind_bad (.inr hb), LoadM.err_bad (.inr hb), errV_pos (by omega)] at CM
  clear hk
  go_enter Try.func3, Try.ntmps3
  go_wp2_with fail
  refine (unhide B1 _).mono ?_
  rintro e w' ⟨rfl, hw⟩
  obtain rfl := hw.symm
  clear hw
  go_wp2_with fail
  refine (unhide B2 _).mono ?_
  rintro e w' ⟨rfl, hw⟩
  obtain rfl := hw.symm
  clear hw
  go_wp2_with fail
  refine (unhide C _).mono ?_
  rintro e w' ⟨rfl, hw⟩
  obtain rfl := hw.symm
  clear hw
  go_wp2_with fail
  refine (unhide CA _).mono ?_
  rintro e w' ⟨rfl, hw⟩
  obtain rfl := hw.symm
  clear hw
  go_wp2_with fail
  refine (unhide CB _).mono ?_
  rintro e w' ⟨rfl, hw⟩
  obtain rfl := hw.symm
  clear hw
  go_wp2_with fail
  refine (unhide CM _).mono ?_
  rintro e w' ⟨rfl, hw⟩
  obtain rfl := hw.symm
  clear hw
  go_wp2
  go_ret
  exact ⟨rfl, (by (repeat' (first | exact Below.refl _ _ | refine Below.alloc ?_ ?_ _ | refine Below.setCell ?_ ?_ _ | refine Below.drew ?_)); all_goals (first | exact Nat.le_refl _ | omega | (simp; done) | (simp; omega)))⟩

set_option maxHeartbeats 3200000 in
set_option maxRecDepth 8000 in
theorem yes_one {n m : Int} (t o : Bool) (w : World) (h0 : 0 ≤ n) (h8 : n ≤ 8) (hk : LoadM.kind n t o = 1) (hm : n ≤ m) (hb : m ≤ 8) (hw : LoadM.kind m t o = 1) :
    Calls Try.prog 3 #[.int .i64 n, .int .i64 m, .bool t, .bool o] w fun e w' => e = .returned (.bool true) ∧ Below w.heap.size w w' := by
  have B1 := hide (fun w => needs_any (-1) false false w)
  rw [LoadM.kind_bad (by omega), LoadM.err_bad (by omega), errV_pos (by omega)] at B1
  have B2 := hide (fun w => needs_any 5 false false w)
  rw [LoadM.kind_bare (by omega) (by omega), LoadM.err_good (by omega) (by omega), errV_zero rfl] at B2
  have C := hide (fun w => needs_any n t o w)
  rw [hk, LoadM.err_good h0 h8, errV_zero rfl] at C
  have CA := hide (fun w => needs_any n true o w)
  rw [(LoadM.kind_more hk).1, LoadM.err_good h0 h8, errV_zero rfl] at CA
  have CB := hide (fun w => needs_any n t true w)
  rw [(LoadM.kind_more hk).2, LoadM.err_good h0 h8, errV_zero rfl] at CB
  have hm1 : ¬ m < n := by omega
  have CM := hide (fun w => needs_any m t o w)
  rw [hw, LoadM.err_good (by omega) hb, errV_zero rfl] at CM
  clear hk
  clear hw
  go_enter Try.func3, Try.ntmps3
  go_wp2_with fail
  refine (unhide B1 _).mono ?_
  rintro e w' ⟨rfl, hw⟩
  obtain rfl := hw.symm
  clear hw
  go_wp2_with fail
  refine (unhide B2 _).mono ?_
  rintro e w' ⟨rfl, hw⟩
  obtain rfl := hw.symm
  clear hw
  go_wp2_with fail
  refine (unhide C _).mono ?_
  rintro e w' ⟨rfl, hw⟩
  obtain rfl := hw.symm
  clear hw
  go_wp2_with fail
  refine (unhide CA _).mono ?_
  rintro e w' ⟨rfl, hw⟩
  obtain rfl := hw.symm
  clear hw
  go_wp2_with fail
  refine (unhide CB _).mono ?_
  rintro e w' ⟨rfl, hw⟩
  obtain rfl := hw.symm
  clear hw
  go_wp2_with fail
  refine (unhide CM _).mono ?_
  rintro e w' ⟨rfl, hw⟩
  obtain rfl := hw.symm
  clear hw
  go_wp2
  go_ret
  exact ⟨rfl, (by (repeat' (first | exact Below.refl _ _ | refine Below.alloc ?_ ?_ _ | refine Below.setCell ?_ ?_ _ | refine Below.drew ?_)); all_goals (first | exact Nat.le_refl _ | omega | (simp; done) | (simp; omega)))⟩

set_option maxHeartbeats 3200000 in
set_option maxRecDepth 8000 in
theorem yes_other {n m : Int} (t o : Bool) (w : World) (h0 : 0 ≤ n) (h8 : n ≤ 8) (hk : LoadM.kind n t o = 1) (hm : n ≤ m) (hb : m ≤ 8) (hw : ¬ LoadM.kind m t o = 1) :
    Calls Try.prog 3 #[.int .i64 n, .int .i64 m, .bool t, .bool o] w fun e w' => e = .returned (.bool true) ∧ Below w.heap.size w w' := by
  have B1 := hide (fun w => needs_any (-1) false false w)
  rw [LoadM.kind_bad (by omega), LoadM.err_bad (by omega), errV_pos (by omega)] at B1
  have B2 := hide (fun w => needs_any 5 false false w)
  rw [LoadM.kind_bare (by omega) (by omega), LoadM.err_good (by omega) (by omega), errV_zero rfl] at B2
  have C := hide (fun w => needs_any n t o w)
  rw [hk, LoadM.err_good h0 h8, errV_zero rfl] at C
  have CA := hide (fun w => needs_any n true o w)
  rw [(LoadM.kind_more hk).1, LoadM.err_good h0 h8, errV_zero rfl] at CA
  have CB := hide (fun w => needs_any n t true w)
  rw [(LoadM.kind_more hk).2, LoadM.err_good h0 h8, errV_zero rfl] at CB
  have hm1 : ¬ m < n := by omega
  have CM := hide (fun w => needs_any m t o w)
  rw [LoadM.err_good (by omega) hb, errV_zero rfl] at CM
  generalize LoadM.kind m t o = v at CM hw
  have hw1 : (v == 1) = false := by simpa using hw
  clear hk
  go_enter Try.func3, Try.ntmps3
  go_wp2_with fail
  refine (unhide B1 _).mono ?_
  rintro e w' ⟨rfl, hw⟩
  obtain rfl := hw.symm
  clear hw
  go_wp2_with fail
  refine (unhide B2 _).mono ?_
  rintro e w' ⟨rfl, hw⟩
  obtain rfl := hw.symm
  clear hw
  go_wp2_with fail
  refine (unhide C _).mono ?_
  rintro e w' ⟨rfl, hw⟩
  obtain rfl := hw.symm
  clear hw
  go_wp2_with fail
  refine (unhide CA _).mono ?_
  rintro e w' ⟨rfl, hw⟩
  obtain rfl := hw.symm
  clear hw
  go_wp2_with fail
  refine (unhide CB _).mono ?_
  rintro e w' ⟨rfl, hw⟩
  obtain rfl := hw.symm
  clear hw
  go_wp2_with fail
  refine (unhide CM _).mono ?_
  rintro e w' ⟨rfl, hw⟩
  obtain rfl := hw.symm
  clear hw
  go_wp2
  go_ret
  exact ⟨rfl, (by (repeat' (first | exact Below.refl _ _ | refine Below.alloc ?_ ?_ _ | refine Below.setCell ?_ ?_ _ | refine Below.drew ?_)); all_goals (first | exact Nat.le_refl _ | omega | (simp; done) | (simp; omega)))⟩

set_option maxHeartbeats 3200000 in
set_option maxRecDepth 8000 in
theorem no_less {n m : Int} (t o : Bool) (w : World) (h0 : 0 ≤ n) (h8 : n ≤ 8) (hk : ¬ LoadM.kind n t o = 1) (hm : m < n) :
    Calls Try.prog 3 #[.int .i64 n, .int .i64 m, .bool t, .bool o] w fun e w' => e = .returned (.bool true) ∧ Below w.heap.size w w' := by
  have B1 := hide (fun w => needs_any (-1) false false w)
  rw [LoadM.kind_bad (by omega), LoadM.err_bad (by omega), errV_pos (by omega)] at B1
  have B2 := hide (fun w => needs_any 5 false false w)
  rw [LoadM.kind_bare (by omega) (by omega), LoadM.err_good (by omega) (by omega), errV_zero rfl] at B2
  have C := hide (fun w => needs_any n t o w)
  rw [LoadM.err_good h0 h8, errV_zero rfl] at C
  have CA := hide (fun w => needs_any n true o w)
  rw [LoadM.err_good h0 h8, errV_zero rfl] at CA
  have CB := hide (fun w => needs_any n t true w)
  rw [LoadM.err_good h0 h8, errV_zero rfl] at CB
  generalize LoadM.kind n t o = x at C hk
  generalize LoadM.kind n true o = y at CA
  generalize LoadM.kind n t true = z at CB
  have hk1 : (x == 1) = false := by simpa using hk
  go_enter Try.func3, Try.ntmps3
  go_wp2_with fail
  refine (unhide B1 _).mono ?_
  rintro e w' ⟨rfl, hw⟩
  obtain rfl := hw.symm
  clear hw
  go_wp2_with fail
  refine (unhide B2 _).mono ?_
  rintro e w' ⟨rfl, hw⟩
  obtain rfl := hw.symm
  clear hw
  go_wp2_with fail
  refine (unhide C _).mono ?_
  rintro e w' ⟨rfl, hw⟩
  obtain rfl := hw.symm
  clear hw
  go_wp2_with fail
  refine (unhide CA _).mono ?_
  rintro e w' ⟨rfl, hw⟩
  obtain rfl := hw.symm
  clear hw
  go_wp2_with fail
  refine (unhide CB _).mono ?_
  rintro e w' ⟨rfl, hw⟩
  obtain rfl := hw.symm
  clear hw
  go_wp2
  go_ret
  exact ⟨rfl, (by (repeat' (first | exact Below.refl _ _ | refine Below.alloc ?_ ?_ _ | refine Below.setCell ?_ ?_ _ | refine Below.drew ?_)); all_goals (first | exact Nat.le_refl _ | omega | (simp; done) | (simp; omega)))⟩

set_option maxHeartbeats 3200000 in
set_option maxRecDepth 8000 in
theorem no_bad {n m : Int} (t o : Bool) (w : World) (h0 : 0 ≤ n) (h8 : n ≤ 8) (hk : ¬ LoadM.kind n t o = 1) (hm : n ≤ m) (hb : 8 < m) :
    Calls Try.prog 3 #[.int .i64 n, .int .i64 m, .bool t, .bool o] w fun e w' => e = .returned (.bool true) ∧ Below w.heap.size w w' := by
  have B1 := hide (fun w => needs_any (-1) false false w)
  rw [LoadM.kind_bad (by omega), LoadM.err_bad (by omega), errV_pos (by omega)] at B1
  have B2 := hide (fun w => needs_any 5 false false w)
  rw [LoadM.kind_bare (by omega) (by omega), LoadM.err_good (by omega) (by omega), errV_zero rfl] at B2
  have C := hide (fun w => needs_any n t o w)
  rw [LoadM.err_good h0 h8, errV_zero rfl] at C
  have CA := hide (fun w => needs_any n true o w)
  rw [LoadM.err_good h0 h8, errV_zero rfl] at CA
  have CB := hide (fun w => needs_any n t true w)
  rw [LoadM.err_good h0 h8, errV_zero rfl] at CB
  have hm1 : ¬ m < n := by omega
  have CM := hide (fun w => needs_any m t o w)
  rw [LoadM.kind_bad (.inr hb), LoadM.err_bad (.inr hb), errV_pos (by omega)] at CM
  generalize LoadM.kind n t o = x at C hk
  generalize LoadM.kind n true o = y at CA
  generalize LoadM.kind n t true = z at CB
  have hk1 : (x == 1) = false := by simpa using hk
  go_enter Try.func3, Try.ntmps3
  go_wp2_with fail
  refine (unhide B1 _).mono ?_
  rintro e w' ⟨rfl, hw⟩
  obtain rfl := hw.symm
  clear hw
  go_wp2_with fail
  refine (unhide B2 _).mono ?_
  rintro e w' ⟨rfl, hw⟩
  obtain rfl := hw.symm
  clear hw
  go_wp2_with fail
  refine (unhide C _).mono ?_
  rintro e w' ⟨rfl, hw⟩
  obtain rfl := hw.symm
  clear hw
  go_wp2_with fail
  refine (unhide CA _).mono ?_
  rintro e w' ⟨rfl, hw⟩
  obtain rfl := hw.symm
  clear hw
  go_wp2_with fail
  refine (unhide CB _).mono ?_
  rintro e w' ⟨rfl, hw⟩
  obtain rfl := hw.symm
  clear hw
  go_wp2_with fail
  refine (unhide CM _).mono ?_
  rintro e w' ⟨rfl, hw⟩
  obtain rfl := hw.symm
  clear hw
  go_wp2
  go_ret
  exact ⟨rfl, (by (repeat' (first | exact Below.refl _ _ | refine Below.alloc ?_ ?_ _ | refine Below.setCell ?_ ?_ _ | refine Below.drew ?_)); all_goals (first | exact Nat.le_refl _ | omega | (simp; done) | (simp; omega)))⟩

set_option maxHeartbeats 3200000 in
set_option maxRecDepth 8000 in
theorem no_other {n m : Int} (t o : Bool) (w : World) (h0 : 0 ≤ n) (h8 : n ≤ 8) (hk : ¬ LoadM.kind n t o = 1) (hm : n ≤ m) (hb : m ≤ 8) (hw : ¬ LoadM.kind m t o = 1) :
    Calls Try.prog 3 #[.int .i64 n, .int .i64 m, .bool t, .bool o] w fun e w' => e = .returned (.bool true) ∧ Below w.heap.size w w' := by
  have B1 := hide (fun w => needs_any (-1) false false w)
  rw [LoadM.kind_bad (by omega), LoadM.err_bad (by omega), errV_pos (by omega)] at B1
  have B2 := hide (fun w => needs_any 5 false false w)
  rw [LoadM.kind_bare (by omega) (by omega), LoadM.err_good (by omega) (by omega), errV_zero rfl] at B2
  have C := hide (fun w => needs_any n t o w)
  rw [LoadM.err_good h0 h8, errV_zero rfl] at C
  have CA := hide (fun w => needs_any n true o w)
  rw [LoadM.err_good h0 h8, errV_zero rfl] at CA
  have CB := hide (fun w => needs_any n t true w)
  rw [LoadM.err_good h0 h8, errV_zero rfl] at CB
  have hm1 : ¬ m < n := by omega
  have CM := hide (fun w => needs_any m t o w)
  rw [LoadM.err_good (by omega) hb, errV_zero rfl] at CM
  generalize LoadM.kind n t o = x at C hk
  generalize LoadM.kind n true o = y at CA
  generalize LoadM.kind n t true = z at CB
  have hk1 : (x == 1) = false := by simpa using hk
  generalize LoadM.kind m t o = v at CM hw
  have hw1 : (v == 1) = false := by simpa using hw
  go_enter Try.func3, Try.ntmps3
  go_wp2_with fail
  refine (unhide B1 _).mono ?_
  rintro e w' ⟨rfl, hw⟩
  obtain rfl := hw.symm
  clear hw
  go_wp2_with fail
  refine (unhide B2 _).mono ?_
  rintro e w' ⟨rfl, hw⟩
  obtain rfl := hw.symm
  clear hw
  go_wp2_with fail
  refine (unhide C _).mono ?_
  rintro e w' ⟨rfl, hw⟩
  obtain rfl := hw.symm
  clear hw
  go_wp2_with fail
  refine (unhide CA _).mono ?_
  rintro e w' ⟨rfl, hw⟩
  obtain rfl := hw.symm
  clear hw
  go_wp2_with fail
  refine (unhide CB _).mono ?_
  rintro e w' ⟨rfl, hw⟩
  obtain rfl := hw.symm
  clear hw
  go_wp2_with fail
  refine (unhide CM _).mono ?_
  rintro e w' ⟨rfl, hw⟩
  obtain rfl := hw.symm
  clear hw
  go_wp2
  go_ret
  exact ⟨rfl, (by (repeat' (first | exact Below.refl _ _ | refine Below.alloc ?_ ?_ _ | refine Below.setCell ?_ ?_ _ | refine Below.drew ?_)); all_goals (first | exact Nat.le_refl _ | omega | (simp; done) | (simp; omega)))⟩


theorem walk (n m : Int) (t o : Bool) (w : World) (_w0 : (Lit.int .i64 n).wf = true) (_w1 : (Lit.int .i64 m).wf = true) :
    Calls Try.prog 3 #[.int .i64 n, .int .i64 m, .bool t, .bool o] w fun e w' => e = .returned (.bool true) ∧ Below w.heap.size w w' := by
  by_cases h0 : n < 0
  · exact bad1 m t o w h0
  · by_cases h8 : 8 < n
    · exact bad2 m t o w h8
    · have g0 : 0 ≤ n := by omega
      have g8 : n ≤ 8 := by omega
      by_cases hk : LoadM.kind n t o = 1
      · by_cases hm : m < n
        · exact yes_less t o w g0 g8 hk hm
        · by_cases hb : 8 < m
          · exact yes_bad t o w g0 g8 hk (by omega) hb
          · by_cases hw : LoadM.kind m t o = 1
            · exact yes_one t o w g0 g8 hk (by omega) (by omega) hw
            · exact yes_other t o w g0 g8 hk (by omega) (by omega) hw
      · by_cases hm : m < n
        · exact no_less t o w g0 g8 hk hm
        · by_cases hb : 8 < m
          · exact no_bad t o w g0 g8 hk (by omega) hb
          · exact no_other t o w g0 g8 hk (by omega) (by omega) (fun hw => hk (LoadM.kind_less g0 (by omega) hw))


set_option maxRecDepth 100000 in
theorem lifted (os : Os) (started : os.Started) (H : Type) (enc : TypeId × Value → H) :
    ReturnsInHanded {} Try.checked os 3 .any (Rows.loadFairSpec.pre6 enc Try.prog Try.f3 Rows.loadFairRow.domain false) (Rows.loadFairSpec.post enc Try.prog Try.f3 false true false false) := by
  refine returnsInHanded_of_change (C := Try.checked) own started (by kernel_rfl) Try.func3
    (ChangeSpec.witness6 (enc := enc) (C := Try.checked) false ⟨#[], #[.int .i64 0, .int .i64 0, .bool false, .bool false], []⟩ 8 (by kernel_rfl) (by kernel_rfl) (by kernel_rfl) (by kernel_rfl)) ?_
  intro W base args ds gs before hval0 hW hcnd _
  have hval : ∀ (j : Nat) t v, Try.f3.params[j]? = some t → args[j]? = some v → Value.okWide Try.prog W .any base t v := hval0
  have hW' := hW
  obtain ⟨p, q, hA0, hV, rfl, hfz, hnd⟩ := hW
  have hA : DataW.TrodAll enc Try.prog W 0 (fun _ => true) true Try.f3.params.toList args.toList ds p := hA0
  rw [Try.params3] at hA hval
  obtain ⟨v0, vs0, d0, ds0, p0, q0, hargs, rfl, rfl, h0, r0⟩ := trodAll_cons hA
  obtain ⟨v1, vs1, d1, ds1, p1, q1, rfl, rfl, rfl, h1, r1⟩ := trodAll_cons r0
  obtain ⟨v2, vs2, d2, ds2, p2, q2, rfl, rfl, rfl, h2, r2⟩ := trodAll_cons r1
  obtain ⟨v3, vs3, d3, ds3, p3, q3, rfl, rfl, rfl, h3, r3⟩ := trodAll_cons r2
  obtain ⟨rfl, rfl, rfl⟩ := trodAll_nil r3
  obtain rfl : args = #[v0, v1, v2, v3] := by cases args; simp_all
  obtain ⟨rfl, rfl⟩ := trodVars_none hV
  have k0 := h0
  have lt0 : ∀ x ∈ p0, x.block < W.heap.size := by obtain ⟨m, hm⟩ := k0; exact DataW.trod_lt m _ _ _ hm
  obtain ⟨a0, rfl, rfl, rfl, w0⟩ := open_int Try.underlying3 (hval 0 3 v0 rfl rfl) h0
  have k1 := h1
  have lt1 : ∀ x ∈ p1, x.block < W.heap.size := by obtain ⟨m, hm⟩ := k1; exact DataW.trod_lt m _ _ _ hm
  obtain ⟨a1, rfl, rfl, rfl, w1⟩ := open_int Try.underlying3 (hval 1 3 v1 rfl rfl) h1
  have k2 := h2
  have lt2 : ∀ x ∈ p2, x.block < W.heap.size := by obtain ⟨m, hm⟩ := k2; exact DataW.trod_lt m _ _ _ hm
  obtain ⟨a2, rfl, rfl, rfl⟩ := open_bool Try.underlying4 (hval 2 4 v2 rfl rfl) h2
  have k3 := h3
  have lt3 : ∀ x ∈ p3, x.block < W.heap.size := by obtain ⟨m, hm⟩ := k3; exact DataW.trod_lt m _ _ _ hm
  obtain ⟨a3, rfl, rfl, rfl⟩ := open_bool Try.underlying4 (hval 3 4 v3 rfl rfl) h3
  clear hA0 hval0
  refine (walk a0 a1 a2 a3 W w0 w1).mono fun e W' ⟨he, bel⟩ => ?_
  subst he
  exact ⟨_, rfl, _, _, _, [], _, [], hW', trodAll_mk1 (shut_bool Try.underlying4 _), (trodAll_cons_mk (Below.trod laidOut (by kernel_rfl) (of_decide_eq_true (by kernel_rfl)) k0 bel lt0) (trodAll_cons_mk (Below.trod laidOut (by kernel_rfl) (of_decide_eq_true (by kernel_rfl)) k1 bel lt1) (trodAll_cons_mk (Below.trod laidOut (by kernel_rfl) (of_decide_eq_true (by kernel_rfl)) k2 bel lt2) (trodAll_cons_mk (Below.trod laidOut (by kernel_rfl) (of_decide_eq_true (by kernel_rfl)) k3 bel lt3) trodAll_mk0)))), rfl, bel.frame _, fun h => by cases h⟩

theorem over : Rows.loadFairRow.holds Try.pinned (OpenSpec.ofChange Rows.loadFairSpec) :=
  OpenClaim.holds_of_wide 3 Try.f3 rfl rfl rfl rfl rfl rfl rfl ⟨rfl, rfl, rfl, rfl, rfl⟩ rfl rfl rfl rfl rfl (by kernel_rfl) Try.func3 (by kernel_rfl)
    (of_decide_eq_true (by kernel_rfl)) (by unfold Func.isWrapper; first | (rw [if_pos (by decide +kernel)]; kernel_rfl) | (rw [if_neg (by decide +kernel)]; exact ⟨rfl, rfl⟩))
    (fun os started H enc _ => lifted os started H enc)

end Go.Proofs.Ytmeeafmdccipjah.loadFair
namespace Go.Proofs.Ytmeeafmdccipjah
theorem loadFair_holds : Rows.LoadFairSaid := loadFair.over
#print axioms loadFair_holds
end Go.Proofs.Ytmeeafmdccipjah

