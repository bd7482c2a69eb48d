/-
  QueueFull holds for every number: eight wait, and no more. The listed variable errors.errorType starts as the program's text lays it (the card's tie). No other condition.
-/
import Derived.Test.YtccphnljogjbiagDoorQueueWalks
import Derived.Test.YtccphnljogjbiagDoorTie
import Derived.Test.YtccphnljogjbiagDoorCards
import Derived.ProofKit
import Derived.Lib.SmallJoins
import Derived.LaidMore
import Derived.LaidHandle
import Derived.LaidLaws
import Derived.Stop.Joined
import Derived.SevenTiedAt
namespace Go.Proofs.YtccphnljogjbiagDoor.queueFull
open Go.ChangeShapes Go.WideShapes Go.ChangeAt Go.RowKit Go.Joins
set_option linter.unusedVariables false

theorem own : ownKnob Tryd.prog.godebug = none := by kernel_rfl
theorem laidOut : laidOutB Tryd.prog = true := by kernel_rfl
def IsRow (k : IntKind) (w : World) (a : Option Addr) (len cap : Nat) (zs : List Int) : Prop :=
  (a = none ∧ len = 0 ∧ cap = 0 ∧ zs = []) ∨
  ∃ x, a = some x ∧ len ≤ cap ∧ cap ≤ maxLen ∧ zs.length = cap ∧ (∀ i, i < zs.length → w.cell? (x.add i) = some (.int k (zs.getD i 0))) ∧ ∀ n ∈ zs, (Lit.int k n).wf = true
def IsStrs (w : World) (a : Option Addr) (len cap : Nat) (zs : List ByteArray) : Prop :=
  (a = none ∧ len = 0 ∧ cap = 0 ∧ zs = []) ∨
  ∃ x, a = some x ∧ len ≤ cap ∧ cap ≤ maxLen ∧ zs.length = cap ∧ (∀ i, i < zs.length → w.cell? (x.add i) = some (.string (zs.getD i ByteArray.empty))) ∧ ∀ s ∈ zs, s.size ≤ maxLen
def IsPairs (w : World) (a : Option Addr) (len cap : Nat) (zs : List (Int × Int)) : Prop :=
  (a = none ∧ len = 0 ∧ cap = 0 ∧ zs = []) ∨
  ∃ x, a = some x ∧ len ≤ cap ∧ cap ≤ maxLen ∧ zs.length = cap ∧ ∀ i, i < cap → w.cell? (x.add (i * 2)) = some (.int .i64 (zs.getD i (0, 0)).1) ∧ w.cell? (x.add (i * 2 + 1)) = some (.int .i64 (zs.getD i (0, 0)).2)
def IsRows (w : World) (a : Option Addr) (len cap : Nat) (A : Nat → Option Addr) (L C : Nat → Nat) (Z : Nat → List Int) : Prop :=
  (a = none ∧ len = 0 ∧ cap = 0) ∨
  ∃ x, a = some x ∧ len ≤ cap ∧ cap ≤ maxLen ∧ ∀ r, r < cap → w.cell? (x.add r) = some (.slice (A r) (L r) (C r)) ∧ L r ≤ C r ∧ C r ≤ maxLen ∧ (Z r).length = C r ∧ (∀ n ∈ Z r, (Lit.int .i64 n).wf = true) ∧ (A r = none → C r = 0) ∧
    ∀ a', A r = some a' → ∀ c, c < C r → w.cell? (a'.add c) = some (.int .i64 ((Z r).getD c 0))


set_option maxHeartbeats 6400000 in
set_option maxRecDepth 8000 in
theorem walk (many : Int) (w : World) (_w0 : (Lit.int .i64 many).wf = true) (hg : ErrType w) :
    Calls Tryd.prog 5 #[.int .i64 many] w fun e w' => e = .returned (.bool true) ∧ Below w.heap.size w w' := by
  have HG := hide hg
  clear _w0 hg
  go_enter Tryd.func5, Tryd.ntmps5
  go_wp2_with fail
  refine (qnew_any _).mono ?_
  rintro e w1 ⟨rfl, hq1, hb1⟩
  have HQ1 := hide hq1
  have HB1 := hide hb1
  clear hq1 hb1
  go_wp2
  go_loopw [4] (fun i wr => ∃ (k : Nat) (o : Option Nat), k ≤ 12 ∧ i = .int .i64 k ∧ Hid (QAt 59 w.heap.size wr w.heap.size o (QueueM.upto (min k 8))) ∧ Hid (Below w.heap.size w wr)) (fun i _ => 12 - (intOf i).toNat)
  case atStart => exact ⟨0, none, by omega, rfl, HQ1, HB1⟩
  case round =>
    clear HQ1 HB1
    obtain ⟨k, o, hk, rfl, HQ, HB⟩ := hrel
    by_cases hkl : (k : Int) < many
    · by_cases hk1 : (k : Int) < 12
      · by_cases hk8 : k < 8
        · have E := QueueM.upto_offer (k := k) (by omega)
          have D := QueueM.upto_offered (k := k) (by omega)
          have hk9 : (k : Int) < 8 := by omega
          have C := hide (qoffer_any 0 (k : Int) wr (unhide HQ) (by rw [QueueM.upto_length]; omega) (unhide HB).size)
          rw [show min k 8 = k by omega, E, D, errV_zero rfl] at C
          clear E D
          go_wp2_with fail
          refine (unhide C).mono ?_
          rintro e w5 ⟨rfl, hs5⟩
          have HB5 := hide (hs5.below (unhide HQ) (unhide HB) (unhide HB).size)
          obtain ⟨o5, hq5, -, -⟩ := hs5
          have HQ5 := hide hq5
          clear hq5
          go_wp2
          go_roundw
          case rel => exact ⟨k + 1, o5, by omega, by go_num, by rw [show min (k + 1) 8 = k + 1 by omega]; exact HQ5, HB5⟩
          case measure => simp [intOf]; omega
        · have E := QueueM.upto_full (k := k) (by omega) (by omega)
          have D := QueueM.offered_no (l := QueueM.upto 8) (c := (0, (k : Int))) (by rw [E]; decide)
          have hk9 : ¬ (k : Int) < 8 := by omega
          have C := hide (qoffer_any 0 (k : Int) wr (unhide HQ) (by rw [QueueM.upto_length]; omega) (unhide HB).size)
          rw [show min k 8 = 8 by omega, E, D, errV_pos (by omega)] at C
          clear E D
          go_wp2_with fail
          refine (unhide C).mono ?_
          rintro e w5 ⟨rfl, hs5⟩
          have HB5 := hide (hs5.below (unhide HQ) (unhide HB) (unhide HB).size)
          obtain ⟨o5, hq5, -, -⟩ := hs5
          have HQ5 := hide hq5
          clear hq5
          go_wp2_with fail
          refine (same_errno _ _ _ ((unhide HG).later (unhide HB5))).mono ?_
          rintro e w6 ⟨rfl, hb6⟩
          have HQ6 := hide ((unhide HQ5).later hb6)
          have HB6 := hide (bel3 (unhide HB5) (Below.refl _ _) hb6)
          clear hb6
          go_wp2
          go_roundw
          case rel => exact ⟨k + 1, o5, by omega, by go_num, by rw [show min (k + 1) 8 = 8 by omega]; exact HQ6, HB6⟩
          case measure => simp [intOf]; omega
      · have CA := hide (qall_any wr (unhide HQ) (by rw [QueueM.upto_length]; omega))
        rw [QueueM.upto_length] at CA
        by_cases hk2 : k = 0
        · exfalso; omega
        · obtain ⟨n, hn0, hn⟩ : ∃ n, 0 < n ∧ n = min k 8 := ⟨min k 8, by omega, rfl⟩
          have hn8 : n ≤ 8 := by omega
          have CL := hide (QueueM.upto_last hn0 hn8)
          rw [← hn] at CA HQ
          have CD := hide (fun W (hq : QAt 59 w.heap.size W w.heap.size o (QueueM.upto n)) => qdrop_any 0 0 W hq (by rw [QueueM.upto_length]; omega))
          rw [QueueM.upto_drop hn0, errV_zero rfl] at CD
          have hlen : Hid ((QueueM.dropped (QueueM.upto n) (0, 0)).length ≤ 8) := hide (QueueM.dropped_le (by rw [QueueM.upto_length]; omega))
          generalize QueueM.dropped (QueueM.upto n) (0, 0) = L2 at CD CL hlen
          clear hn
          have hn1 : ¬ (n : Int) = 0 := by omega
          have hn2 : ((n : Int) == 0) = false := by simp; omega
          go_wp2_with fail
          refine (unhide CA).mono ?_
          rintro e w5 ⟨a5, cap5, rfl, -, hb5⟩
          have HQ5 := hide ((unhide HQ).later hb5)
          have HB5 := hide (bel3 (unhide HB) (Below.refl _ _) hb5)
          clear hb5
          go_wp2_with fail
          refine (unhide CD _ (unhide HQ5)).mono ?_
          rintro e w6 ⟨rfl, hs6⟩
          have HB6 := hide (hs6.below (unhide HQ5) (unhide HB5) (unhide HB5).size)
          obtain ⟨o6, hq6, -, -⟩ := hs6
          have HQ6 := hide hq6
          clear hq6
          have CO := hide (qoffer_any 0 99 w6 (unhide HQ6) (unhide hlen) (unhide HB6).size)
          rw [unhide CL, errV_zero rfl] at CO
          go_wp2_with fail
          refine (unhide CO).mono ?_
          rintro e w7 ⟨rfl, hs7⟩
          have HB7 := hide (hs7.below (unhide HQ6) (unhide HB6) (unhide HB6).size)
          obtain ⟨o7, hq7, -, -⟩ := hs7
          have HQ7 := hide hq7
          clear hq7
          go_wp2
          go_ret
          exact ⟨rfl, unhide HB7⟩
    · have CA := hide (qall_any wr (unhide HQ) (by rw [QueueM.upto_length]; omega))
      rw [QueueM.upto_length] at CA
      by_cases hk2 : k = 0
      · subst hk2
        have hm : many < 1 := by omega
        go_wp2_with fail
        refine (unhide CA).mono ?_
        rintro e w5 ⟨a5, cap5, rfl, -, hb5⟩
        have HB5 := hide (bel3 (unhide HB) (Below.refl _ _) hb5)
        clear hb5
        go_wp2
        go_ret
        exact ⟨rfl, unhide HB5⟩
      · obtain ⟨n, hn0, hn⟩ : ∃ n, 0 < n ∧ n = min k 8 := ⟨min k 8, by omega, rfl⟩
        have hn8 : n ≤ 8 := by omega
        have CL := hide (QueueM.upto_last hn0 hn8)
        rw [← hn] at CA HQ
        have CD := hide (fun W (hq : QAt 59 w.heap.size W w.heap.size o (QueueM.upto n)) => qdrop_any 0 0 W hq (by rw [QueueM.upto_length]; omega))
        rw [QueueM.upto_drop hn0, errV_zero rfl] at CD
        have hlen : Hid ((QueueM.dropped (QueueM.upto n) (0, 0)).length ≤ 8) := hide (QueueM.dropped_le (by rw [QueueM.upto_length]; omega))
        generalize QueueM.dropped (QueueM.upto n) (0, 0) = L2 at CD CL hlen
        clear hn
        have hn1 : ¬ (n : Int) = 0 := by omega
        have hn2 : ((n : Int) == 0) = false := by simp; omega
        go_wp2_with fail
        refine (unhide CA).mono ?_
        rintro e w5 ⟨a5, cap5, rfl, -, hb5⟩
        have HQ5 := hide ((unhide HQ).later hb5)
        have HB5 := hide (bel3 (unhide HB) (Below.refl _ _) hb5)
        clear hb5
        go_wp2_with fail
        refine (unhide CD _ (unhide HQ5)).mono ?_
        rintro e w6 ⟨rfl, hs6⟩
        have HB6 := hide (hs6.below (unhide HQ5) (unhide HB5) (unhide HB5).size)
        obtain ⟨o6, hq6, -, -⟩ := hs6
        have HQ6 := hide hq6
        clear hq6
        have CO := hide (qoffer_any 0 99 w6 (unhide HQ6) (unhide hlen) (unhide HB6).size)
        rw [unhide CL, errV_zero rfl] at CO
        go_wp2_with fail
        refine (unhide CO).mono ?_
        rintro e w7 ⟨rfl, hs7⟩
        have HB7 := hide (hs7.below (unhide HQ6) (unhide HB6) (unhide HB6).size)
        obtain ⟨o7, hq7, -, -⟩ := hs7
        have HQ7 := hide hq7
        clear hq7
        go_wp2
        go_ret
        exact ⟨rfl, unhide HB7⟩


theorem gErr : Tryd.prog.globalNamed "errors.errorType" = some 0 := by kernel_rfl
theorem rtErr : (Tryd.prog.cutTypes.find? (·.1 == "internal/reflectlite.rtype")).map (·.2) = some 82 := by kernel_rfl
theorem oneRow : ((List.range 123).filter fun t => Tryd.prog.rowNamed t [101, 114, 114, 111, 114]) = [26] := by kernel_rfl
theorem sizeT : Tryd.prog.types.size = 123 := by kernel_rfl
theorem handle_of_laid {W : World} (h : laidMetH Tryd.prog Rows.queueFullRow.laid W) : ErrType W := by
  have h' : laidMet Tryd.prog [] W ∧ handlesMet Tryd.prog Rows.queueFullRow.laid W := h
  obtain ⟨name, u, ty, e1, e2, e3, e4, e5⟩ := h'.2 _ (List.mem_singleton.2 rfl)
  have en : name = [101, 114, 114, 111, 114] := (Option.some.inj e1).symm
  subst en
  obtain rfl := Option.some.inj (rtErr.symm.trans e2)
  have hm : ty ∈ (List.range 123).filter fun t => Tryd.prog.rowNamed t [101, 114, 114, 111, 114] := List.mem_filter.2 ⟨List.mem_range.2 (by rw [← sizeT]; exact e3), e4⟩
  rw [oneRow] at hm
  obtain rfl := List.mem_singleton.1 hm
  have hh : typeHandle Tryd.prog 26 = .pointer (some ⟨1, 26, none⟩) := by kernel_rfl
  rw [hh] at e5
  unfold ErrType
  simpa using World.var?_cell gErr e5 0
theorem door_met (os : Os) (args : Array Value) : laidMetH Tryd.prog Rows.queueFullRow.laid ((World.doorLaid Tryd.prog 400 os).forCall (fun _ _ => 0) ⟨#[], args, []⟩).memory :=
  laidMetH_of_parts (laidMet_nil _ _) (by kernel_rfl)


set_option maxRecDepth 100000 in
theorem lifted (os : Os) (started : os.Started) (H : Type) (enc : TypeId × Value → H) :
    ReturnsInHanded {} Tryd.checked os 5 .any (fun w args => (Rows.queueFullSpec.pre enc Tryd.prog Tryd.f5 [] false w args ∧ laidMetH Tryd.prog Rows.queueFullRow.laid w) ∧ sizedMet enc Tryd.prog Tryd.f5 (OpenSpec.ofChange Rows.queueFullSpec) false w args) (Rows.queueFullSpec.post enc Tryd.prog Tryd.f5 false true false false) := by
  refine returnsInHanded_of_change_and (C := Tryd.checked) (X := fun w _ => laidMetH Tryd.prog Rows.queueFullRow.laid w) (fun _ _ _ hh h => h.of_heap hh) own started (by kernel_rfl) Tryd.func5
    (ChangeSpec.witness_shaped (enc := enc) (C := Tryd.checked) (os := os) (X := fun w _ => laidMetH Tryd.prog Rows.queueFullRow.laid w) false (World.doorLaid Tryd.prog 400 os) #[.int .i64 0] 8 rfl (World.shaped_of_RefB (by kernel_rfl) (by kernel_rfl)) (by kernel_rfl) (by kernel_rfl) (by kernel_rfl) (door_met os _)) ?_
  intro W base args ds gs before hval0 hW _ hsz hL _
  have hg := handle_of_laid hL
  have hval : ∀ (j : Nat) t v, Tryd.f5.params[j]? = some t → args[j]? = some v → Value.okWide Tryd.prog W .any base t v := hval0
  have hW' := hW
  obtain ⟨p, q, hA0, hV, rfl, hfz, hnd⟩ := hW
  have hA : DataW.TrodAll enc Tryd.prog W 0 (fun _ => true) true Tryd.f5.params.toList args.toList ds p := hA0
  rw [Tryd.params5] at hA hval
  obtain ⟨v0, vs0, d0, ds0, p0, q0, hargs, rfl, rfl, h0, r0⟩ := trodAll_cons hA
  obtain ⟨rfl, rfl, rfl⟩ := trodAll_nil r0
  obtain rfl : args = #[v0] := by cases args; simp_all
  obtain ⟨rfl, rfl⟩ := trodVars_none hV
  have k0 := h0
  have lt0 : ∀ x ∈ p0, x.block < W.heap.size := by obtain ⟨m, hm⟩ := k0; exact DataW.trod_lt m _ _ _ hm
  obtain ⟨a0, rfl, rfl, rfl, w0⟩ := open_int Tryd.underlying3 (hval 0 3 v0 rfl rfl) h0
  clear hA0 hval0
  refine (walk a0 W w0 hg).mono fun e W' ⟨he, bel⟩ => ?_
  subst he
  exact ⟨_, rfl, _, _, _, [], _, [], hW', trodAll_mk1 (shut_bool Tryd.underlying4 _), (trodAll_cons_mk (Below.trod laidOut (by kernel_rfl) (of_decide_eq_true (by kernel_rfl)) k0 bel lt0) trodAll_mk0), rfl, bel.frame _, fun h => by cases h⟩

theorem over : Rows.queueFullRow.holds Tryd.pinned (OpenSpec.ofChange Rows.queueFullSpec) :=
  OpenClaim.holds_of_wide 5 Tryd.f5 rfl rfl rfl rfl rfl rfl rfl ⟨rfl, rfl, rfl, rfl, rfl⟩ rfl rfl rfl rfl rfl (by kernel_rfl) Tryd.func5 (by kernel_rfl)
    (of_decide_eq_true (by kernel_rfl)) (by unfold Func.isWrapper; first | (rw [if_pos (by decide +kernel)]; kernel_rfl) | (rw [if_neg (by decide +kernel)]; exact ⟨rfl, rfl⟩))
    (fun os started H enc _ => lifted os started H enc)

theorem card : Rows.QueueFullCardSaid :=
  Claim7.holds_tied_plain_at .later [] [.handle] true (true, "940edae229ac3d63cb437d09b758a7e3f28d7ed594961a7ae43a102f17c97691") true
    over (fun _ h => by cases h) (by kernel_rfl) (fun _ h => by cases h) queueFull_row_tie rfl ⟨rfl, rfl⟩ (by kernel_rfl) rfl
    (fun f fn hf hfn => by
      obtain rfl : f = 5 := Option.some.inj ((show Tryd.prog.funcNamed "tokenfold/foldlaw4.QueueFull" = some 5 by kernel_rfl).symm.trans hf) |>.symm
      obtain rfl : fn = Tryd.f5 := (Option.some.inj (Tryd.func5.symm.trans hfn)).symm
      exact ⟨by kernel_rfl, fun j t ht => by
        rw [Tryd.params5] at ht
        have hm : t ∈ [3] := by simpa using Array.mem_of_getElem? ht
        have hall : ([3].all fun u => !Tryd.prog.wantsStandIn u) = true := by kernel_rfl
        exact (show Tryd.prog.wantsStandIn t = false by simpa using List.all_eq_true.1 hall t hm)⟩)
    (by kernel_rfl)

end Go.Proofs.YtccphnljogjbiagDoor.queueFull
namespace Go.Proofs.YtccphnljogjbiagDoor
theorem queueFull_holds : Rows.QueueFullCardSaid := queueFull.card
#print axioms queueFull_holds
end Go.Proofs.YtccphnljogjbiagDoor

