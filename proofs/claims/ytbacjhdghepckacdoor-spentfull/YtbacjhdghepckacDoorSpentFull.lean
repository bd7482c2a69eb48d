/-
  SpentFull holds for every number: sixteen can be spent, the seventeenth is refused as full, and behind their time one can be again. No condition.
-/
import Derived.Test.YtbacjhdghepckacDoorSpendWalks
import Derived.Test.YtbacjhdghepckacDoorHeld
import Derived.Test.YtbacjhdghepckacDoorCards
import Derived.Test.YtbacjhdghepckacDoorTie
import Derived.ProofKit
import Derived.Lib.SmallJoins
import Derived.LaidMore
import Derived.LaidHandle
import Derived.LaidLaws
import Derived.Stop.Joined
import Derived.SevenTiedAt
namespace Go.Proofs.YtbacjhdghepckacDoor.spentFull
open Go.ChangeShapes Go.WideShapes Go.ChangeAt Go.RowKit Go.Joins
set_option linter.unusedVariables false

theorem own : ownKnob Tryd.prog.godebug = none := by kernel_rfl
theorem laidOut : laidOutB Tryd.prog = true := by kernel_rfl
def IsRow (k : IntKind) (w : World) (a : Option Addr) (len cap : Nat) (zs : List Int) : Prop :=
  (a = none ∧ len = 0 ∧ cap = 0 ∧ zs = []) ∨
  ∃ x, a = some x ∧ len ≤ cap ∧ cap ≤ maxLen ∧ zs.length = cap ∧ (∀ i, i < zs.length → w.cell? (x.add i) = some (.int k (zs.getD i 0))) ∧ ∀ n ∈ zs, (Lit.int k n).wf = true
def IsPairs (w : World) (a : Option Addr) (len cap : Nat) (zs : List (Int × Int)) : Prop :=
  (a = none ∧ len = 0 ∧ cap = 0 ∧ zs = []) ∨
  ∃ x, a = some x ∧ len ≤ cap ∧ cap ≤ maxLen ∧ zs.length = cap ∧ ∀ i, i < cap → w.cell? (x.add (i * 2)) = some (.int .i64 (zs.getD i (0, 0)).1) ∧ w.cell? (x.add (i * 2 + 1)) = some (.int .i64 (zs.getD i (0, 0)).2)
def IsRows (w : World) (a : Option Addr) (len cap : Nat) (A : Nat → Option Addr) (L C : Nat → Nat) (Z : Nat → List Int) : Prop :=
  (a = none ∧ len = 0 ∧ cap = 0) ∨
  ∃ x, a = some x ∧ len ≤ cap ∧ cap ≤ maxLen ∧ ∀ r, r < cap → w.cell? (x.add r) = some (.slice (A r) (L r) (C r)) ∧ L r ≤ C r ∧ C r ≤ maxLen ∧ (Z r).length = C r ∧ (∀ n ∈ Z r, (Lit.int .i64 n).wf = true) ∧ (A r = none → C r = 0) ∧
    ∀ a', A r = some a' → ∀ c, c < C r → w.cell? (a'.add c) = some (.int .i64 ((Z r).getD c 0))


/-- The first so many numbers, up to time 10. -/
def lst (k : Nat) : List (Int × Int) := (List.range k).map fun (i : Nat) => ((i : Int), (10 : Int))
theorem full_ok : ∀ k, k < 16 → SpentM.spendErr (lst k) k 10 5 = 0 ∧ SpentM.spend (lst k) k 10 5 = lst (k + 1) := by decide +kernel
theorem full_no : ∀ k, k < 20 → 16 ≤ k → SpentM.spendErr (lst 16) (k : Nat) 10 5 = 4 := by decide +kernel
theorem full_end : ∀ k, k < 17 → SpentM.spendErr (lst k) 99 20 11 = 0 ∧ SpentM.spend (lst k) 99 20 11 = [(99, 20)] := by decide +kernel

set_option maxHeartbeats 3200000 in
set_option maxRecDepth 4000 in
theorem walk (many : Int) (w : World) (w0 : (Lit.int .i64 many).wf = true) (hg : ErrType w) :
    Calls Tryd.prog 5 #[.int .i64 many] w fun e w' => e = .returned (.bool true) ∧ Below w.heap.size w w' := by
  have HG := hide hg
  clear w0 hg
  go_enter Tryd.func5, Tryd.ntmps5
  go_wp2
  go_loopw [3, 4] (fun v i wr => ∃ (k m : Nat) (a : Option Addr) (cap : Nat), k ≤ 20 ∧ m ≤ 16 ∧ m ≤ k ∧ i = .int .i64 k ∧ v = .slice a m cap ∧ Hid (k < 16 → m = k) ∧ Hid (16 ≤ k → m = 16) ∧ Hid (PRow wr a m cap (lst m)) ∧ Hid (Below w.heap.size w wr)) (fun _ i _ => 20 - (intOf i).toNat)
  case atStart => exact ⟨0, 0, none, 0, by omega, by omega, by omega, rfl, rfl, hide (fun _ => rfl), hide (fun h => by omega), hide (nil_row _), hide (Below.refl _ _)⟩
  case round =>
    obtain ⟨k, m, a, cap, hk, hm, hmk, rfl, rfl, HM1, HM2, HP, HB⟩ := hrel
    by_cases hgo : (k : Int) < many ∧ (k : Int) < 20
    · obtain ⟨h1, h2⟩ := hgo
      by_cases h16 : (k : Int) < 16
      · obtain rfl := unhide HM1 (by omega)
        obtain ⟨e1, e2⟩ := full_ok m (by omega)
        have C := hide (sspend_any m 10 5 wr (unhide HP))
        rw [e1, e2, errV_zero rfl] at C
        clear e1 e2
        go_wp2_with fail
        refine (unhide C).mono ?_
        rintro e w1 ⟨a', n', cap', rfl, hp', hb1⟩
        have hn' : n' = m + 1 := by have := hp'.1; simp [lst] at this; omega
        subst hn'
        have HB1 := hide (bel3 (unhide HB) (Below.refl _ _) hb1)
        have HR1 := hide hp'
        clear hb1 hp'
        go_wp2
        go_roundw
        case rel => exact ⟨m + 1, m + 1, a', cap', by omega, by omega, by omega, by go_num, rfl, hide (fun _ => rfl), hide (fun _ => by omega), HR1, HB1⟩
        case measure => simp [intOf]; omega
      · obtain rfl := unhide HM2 (by omega)
        have C := hide (sspend_any k 10 5 wr (unhide HP))
        rw [SpentM.spend_no (by rw [full_no k (by omega) (by omega)]; omega), full_no k (by omega) (by omega), errV_pos (by omega)] at C
        go_wp2_with fail
        refine (unhide C).mono ?_
        rintro e w1 ⟨a', n', cap', rfl, hp', hb1⟩
        have HB1 := hide (bel3 (unhide HB) (Below.refl _ _) hb1)
        have HR1 := hide ((unhide HP).later hb1)
        clear hb1 hp'
        go_wp2_with fail
        refine (same_errno _ _ _ ((unhide HG).later (unhide HB1))).mono ?_
        rintro e w2 ⟨rfl, hb2⟩
        have HB2 := hide (bel3 (unhide HB1) (Below.refl _ _) hb2)
        have HR2 := hide ((unhide HR1).later hb2)
        clear hb2
        go_wp2
        go_roundw
        case rel => exact ⟨k + 1, 16, a, cap, by omega, by omega, by omega, by go_num, rfl, hide (fun _ => by omega), hide (fun _ => rfl), HR2, HB2⟩
        case measure => simp [intOf]; omega
    · obtain ⟨e1, e2⟩ := full_end m (by omega)
      have C := hide (sspend_any 99 20 11 wr (unhide HP))
      rw [e1, e2, errV_zero rfl] at C
      clear e1 e2
      by_cases h1 : (k : Int) < many
      · have h2 : ¬ (k : Int) < 20 := fun h => hgo ⟨h1, h⟩
        clear hgo
        go_wp2_with fail
        refine (unhide C).mono ?_
        rintro e w1 ⟨a', n', cap', rfl, hp', hb1⟩
        obtain rfl : n' = 1 := by have := hp'.1; simpa using this.symm
        have HB1 := hide (bel3 (unhide HB) (Below.refl _ _) hb1)
        clear hb1 hp'
        go_wp2
        go_ret
        exact ⟨rfl, unhide HB1⟩
      · clear hgo
        go_wp2_with fail
        refine (unhide C).mono ?_
        rintro e w1 ⟨a', n', cap', rfl, hp', hb1⟩
        obtain rfl : n' = 1 := by have := hp'.1; simpa using this.symm
        have HB1 := hide (bel3 (unhide HB) (Below.refl _ _) hb1)
        clear hb1 hp'
        go_wp2
        go_ret
        exact ⟨rfl, unhide HB1⟩

theorem gErr : Tryd.prog.globalNamed "errors.errorType" = some 0 := by kernel_rfl
theorem rtErr : (Tryd.prog.cutTypes.find? (·.1 == "internal/reflectlite.rtype")).map (·.2) = some 80 := by kernel_rfl
theorem oneRow : ((List.range 123).filter fun t => Tryd.prog.rowNamed t [101, 114, 114, 111, 114]) = [26] := by kernel_rfl
theorem sizeT : Tryd.prog.types.size = 123 := by kernel_rfl
theorem handle_of_laid {W : World} (h : laidMetH Tryd.prog Rows.spentFullRow.laid W) : ErrType W := by
  have h' : laidMet Tryd.prog [] W ∧ handlesMet Tryd.prog Rows.spentFullRow.laid W := h
  obtain ⟨name, u, ty, e1, e2, e3, e4, e5⟩ := h'.2 _ (List.mem_singleton.2 rfl)
  have en : name = [101, 114, 114, 111, 114] := (Option.some.inj e1).symm
  subst en
  obtain rfl := Option.some.inj (rtErr.symm.trans e2)
  have hm : ty ∈ (List.range 123).filter fun t => Tryd.prog.rowNamed t [101, 114, 114, 111, 114] := List.mem_filter.2 ⟨List.mem_range.2 (by rw [← sizeT]; exact e3), e4⟩
  rw [oneRow] at hm
  obtain rfl := List.mem_singleton.1 hm
  have hh : typeHandle Tryd.prog 26 = .pointer (some ⟨1, 26, none⟩) := by kernel_rfl
  rw [hh] at e5
  unfold ErrType
  simpa using World.var?_cell gErr e5 0
theorem door_met (os : Os) (args : Array Value) : laidMetH Tryd.prog Rows.spentFullRow.laid ((World.doorLaid Tryd.prog 400 os).forCall (fun _ _ => 0) ⟨#[], args, []⟩).memory :=
  laidMetH_of_parts (laidMet_nil _ _) (by kernel_rfl)


set_option maxRecDepth 100000 in
theorem lifted (os : Os) (started : os.Started) (H : Type) (enc : TypeId × Value → H) :
    ReturnsInHanded {} Tryd.checked os 5 .any (fun w args => (Rows.spentFullSpec.pre enc Tryd.prog Tryd.f5 [] false w args ∧ laidMetH Tryd.prog Rows.spentFullRow.laid w) ∧ sizedMet enc Tryd.prog Tryd.f5 (OpenSpec.ofChange Rows.spentFullSpec) false w args) (Rows.spentFullSpec.post enc Tryd.prog Tryd.f5 false true false false) := by
  refine returnsInHanded_of_change_and (C := Tryd.checked) (X := fun w _ => laidMetH Tryd.prog Rows.spentFullRow.laid w) (fun _ _ _ hh h => h.of_heap hh) own started (by kernel_rfl) Tryd.func5
    (ChangeSpec.witness_shaped (enc := enc) (C := Tryd.checked) (os := os) (X := fun w _ => laidMetH Tryd.prog Rows.spentFullRow.laid w) false (World.doorLaid Tryd.prog 400 os) #[.int .i64 0] 8 rfl (World.shaped_of_RefB (by kernel_rfl) (by kernel_rfl)) (by kernel_rfl) (by kernel_rfl) (by kernel_rfl) (door_met os _)) ?_
  intro W base args ds gs before hval0 hW _ hsz hL _
  have hg := handle_of_laid hL
  have hval : ∀ (j : Nat) t v, Tryd.f5.params[j]? = some t → args[j]? = some v → Value.okWide Tryd.prog W .any base t v := hval0
  have hW' := hW
  obtain ⟨p, q, hA0, hV, rfl, hfz, hnd⟩ := hW
  have hA : DataW.TrodAll enc Tryd.prog W 0 (fun _ => true) true Tryd.f5.params.toList args.toList ds p := hA0
  rw [Tryd.params5] at hA hval
  obtain ⟨v0, vs0, d0, ds0, p0, q0, hargs, rfl, rfl, h0, r0⟩ := trodAll_cons hA
  obtain ⟨rfl, rfl, rfl⟩ := trodAll_nil r0
  obtain rfl : args = #[v0] := by cases args; simp_all
  obtain ⟨rfl, rfl⟩ := trodVars_none hV
  have k0 := h0
  have lt0 : ∀ x ∈ p0, x.block < W.heap.size := by obtain ⟨m, hm⟩ := k0; exact DataW.trod_lt m _ _ _ hm
  obtain ⟨a0, rfl, rfl, rfl, w0⟩ := open_int Tryd.underlying3 (hval 0 3 v0 rfl rfl) h0
  clear hA0 hval0
  refine (walk a0 W w0 hg).mono fun e W' ⟨he, bel⟩ => ?_
  subst he
  exact ⟨_, rfl, _, _, _, [], _, [], hW', trodAll_mk1 (shut_bool Tryd.underlying4 _), (trodAll_cons_mk (Below.trod laidOut (by kernel_rfl) (of_decide_eq_true (by kernel_rfl)) k0 bel lt0) trodAll_mk0), rfl, bel.frame _, fun h => by cases h⟩

theorem over : Rows.spentFullRow.holds Tryd.pinned (OpenSpec.ofChange Rows.spentFullSpec) :=
  OpenClaim.holds_of_wide 5 Tryd.f5 rfl rfl rfl rfl rfl rfl rfl ⟨rfl, rfl, rfl, rfl, rfl⟩ rfl rfl rfl rfl rfl (by kernel_rfl) Tryd.func5 (by kernel_rfl)
    (of_decide_eq_true (by kernel_rfl)) (by unfold Func.isWrapper; first | (rw [if_pos (by decide +kernel)]; kernel_rfl) | (rw [if_neg (by decide +kernel)]; exact ⟨rfl, rfl⟩))
    (fun os started H enc _ => lifted os started H enc)

theorem card : Rows.SpentFullCardSaid :=
  Claim7.holds_tied_plain_at .later [] [.handle] true (true, "e8cbe923d7c0575d3f6fe6fc2d6ded02667df0b32199b21acacc92ab6a77b1b7") true
    over (fun _ h => by cases h) (by kernel_rfl) (fun _ h => by cases h) spentFull_row_tie rfl ⟨rfl, rfl⟩ (by kernel_rfl) rfl
    (fun f fn hf hfn => by
      obtain rfl : f = 5 := Option.some.inj ((show Tryd.prog.funcNamed "tokenfold/foldlaw4.SpentFull" = some 5 by kernel_rfl).symm.trans hf) |>.symm
      obtain rfl : fn = Tryd.f5 := (Option.some.inj (Tryd.func5.symm.trans hfn)).symm
      exact ⟨by kernel_rfl, fun j t ht => by
        rw [Tryd.params5] at ht
        have hm : t ∈ [3] := by simpa using Array.mem_of_getElem? ht
        have hall : ([3].all fun u => !Tryd.prog.wantsStandIn u) = true := by kernel_rfl
        exact (show Tryd.prog.wantsStandIn t = false by simpa using List.all_eq_true.1 hall t hm)⟩)
    (by kernel_rfl)

end Go.Proofs.YtbacjhdghepckacDoor.spentFull
namespace Go.Proofs.YtbacjhdghepckacDoor
theorem spentFull_holds : Rows.SpentFullCardSaid := spentFull.card
#print axioms spentFull_holds
end Go.Proofs.YtbacjhdghepckacDoor

