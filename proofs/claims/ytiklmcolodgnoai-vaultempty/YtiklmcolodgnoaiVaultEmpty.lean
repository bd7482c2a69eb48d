/-
  VaultEmpty holds for every number: a new vault has none, and is sure of none; what is no number is refused. No condition.
-/
import Derived.Test.YtiklmcolodgnoaiVaultWalks
import Derived.ProofKit
import Derived.Lib.SmallJoins
namespace Go.Proofs.Ytiklmcolodgnoai.vaultEmpty
open Go.ChangeShapes Go.WideShapes Go.ChangeAt Go.RowKit Go.Joins
set_option linter.unusedVariables false

theorem own : ownKnob Try.prog.godebug = none := by kernel_rfl
theorem laidOut : laidOutB Try.prog = true := by kernel_rfl
def IsRow (k : IntKind) (w : World) (a : Option Addr) (len cap : Nat) (zs : List Int) : Prop :=
  (a = none ∧ len = 0 ∧ cap = 0 ∧ zs = []) ∨
  ∃ x, a = some x ∧ len ≤ cap ∧ cap ≤ maxLen ∧ zs.length = cap ∧ (∀ i, i < zs.length → w.cell? (x.add i) = some (.int k (zs.getD i 0))) ∧ ∀ n ∈ zs, (Lit.int k n).wf = true
def IsStrs (w : World) (a : Option Addr) (len cap : Nat) (zs : List ByteArray) : Prop :=
  (a = none ∧ len = 0 ∧ cap = 0 ∧ zs = []) ∨
  ∃ x, a = some x ∧ len ≤ cap ∧ cap ≤ maxLen ∧ zs.length = cap ∧ (∀ i, i < zs.length → w.cell? (x.add i) = some (.string (zs.getD i ByteArray.empty))) ∧ ∀ s ∈ zs, s.size ≤ maxLen
def IsPairs (w : World) (a : Option Addr) (len cap : Nat) (zs : List (Int × Int)) : Prop :=
  (a = none ∧ len = 0 ∧ cap = 0 ∧ zs = []) ∨
  ∃ x, a = some x ∧ len ≤ cap ∧ cap ≤ maxLen ∧ zs.length = cap ∧ ∀ i, i < cap → w.cell? (x.add (i * 2)) = some (.int .i64 (zs.getD i (0, 0)).1) ∧ w.cell? (x.add (i * 2 + 1)) = some (.int .i64 (zs.getD i (0, 0)).2)
def IsRows (w : World) (a : Option Addr) (len cap : Nat) (A : Nat → Option Addr) (L C : Nat → Nat) (Z : Nat → List Int) : Prop :=
  (a = none ∧ len = 0 ∧ cap = 0) ∨
  ∃ x, a = some x ∧ len ≤ cap ∧ cap ≤ maxLen ∧ ∀ r, r < cap → w.cell? (x.add r) = some (.slice (A r) (L r) (C r)) ∧ L r ≤ C r ∧ C r ≤ maxLen ∧ (Z r).length = C r ∧ (∀ n ∈ Z r, (Lit.int .i64 n).wf = true) ∧ (A r = none → C r = 0) ∧
    ∀ a', A r = some a' → ∀ c, c < C r → w.cell? (a'.add c) = some (.int .i64 ((Z r).getD c 0))


set_option maxHeartbeats 12800000 in
set_option maxRecDepth 8000 in
theorem walk (n : Int) (w : World) (_w0 : (Lit.int .i64 n).wf = true) :
    Calls Try.prog 3 #[.int .i64 n] w fun e w' => e = .returned (.bool true) ∧ Below w.heap.size w w' := by
  clear _w0
  cases hn : TagM.inB n with
  | true =>
    have q1 : SpentM.has [] n = false := by rw [VaultM.has_good VaultM.nil_good, hn]; rfl
    have q2 : SpentM.hasErr [] n = 0 := by rw [VaultM.hasErr_good VaultM.nil_good, hn]; rfl
    clear hn
    have C0 := hide (fun (v : Nat) (w : World) (h : VAt w v [] []) => vhas_any (-1) w h)
    rw [show SpentM.has [] (-1) = false from rfl, show SpentM.hasErr [] (-1) = 1 from rfl, errV_pos (by omega)] at C0
    have C1 := hide (fun (v : Nat) (w : World) (h : VAt w v [] []) => vhas_any n w h)
    have C2 := hide (fun (v : Nat) (w : World) (h : VAt w v [] []) => vsure_any n w h)
    rw [q1, q2, errV_zero rfl] at C1 C2
    clear q1 q2
    go_enter Try.func3, Try.ntmps3
    go_wp2_with fail
    refine (vnew_any _).mono ?_
    rintro e w1 ⟨rfl, h1, hb1⟩
    have HV1 := hide h1
    have HB1 := hide (hb1)
    clear h1 hb1
    go_wp2_with fail
    refine (unhide C0 _ _ (unhide HV1)).mono ?_
    rintro e w2 ⟨rfl, hb2⟩
    have HV2 := hide ((unhide HV1).later hb2)
    have HB2 := hide (bel3 (unhide HB1) (Below.refl _ _) hb2)
    clear hb2 HV1 HB1
    clear HV2
    go_wp2_with fail
    refine (vnew_any _).mono ?_
    rintro e w3 ⟨rfl, h3, hb3⟩
    have HV3 := hide h3
    have HB3 := hide (bel3 (unhide HB2) (Below.refl _ _) hb3)
    clear h3 hb3
    go_wp2_with fail
    refine (unhide C1 _ _ (unhide HV3)).mono ?_
    rintro e w4 ⟨rfl, hb4⟩
    have HV4 := hide ((unhide HV3).later hb4)
    have HB4 := hide (bel3 (unhide HB3) (Below.refl _ _) hb4)
    clear hb4 HV3 HB3
    go_wp2_with fail
    refine (unhide C2 _ _ (unhide HV4)).mono ?_
    rintro e w5 ⟨rfl, hb5⟩
    have HV5 := hide ((unhide HV4).later hb5)
    have HB5 := hide (bel3 (unhide HB4) (Below.refl _ _) hb5)
    clear hb5 HV4 HB4
    go_wp2
    go_ret
    exact ⟨rfl, unhide HB5⟩
  | false =>
    rcases (TagM.inB_not n).1 hn with h | h
    · have q1 : SpentM.has [] n = false := by rw [VaultM.has_good VaultM.nil_good, hn]; rfl
      have q2 : SpentM.hasErr [] n = 1 := by rw [VaultM.hasErr_good VaultM.nil_good, hn]; rfl
      clear hn
      have C0 := hide (fun (v : Nat) (w : World) (h : VAt w v [] []) => vhas_any (-1) w h)
      rw [show SpentM.has [] (-1) = false from rfl, show SpentM.hasErr [] (-1) = 1 from rfl, errV_pos (by omega)] at C0
      have C1 := hide (fun (v : Nat) (w : World) (h : VAt w v [] []) => vhas_any n w h)
      have C2 := hide (fun (v : Nat) (w : World) (h : VAt w v [] []) => vsure_any n w h)
      rw [q1, q2, errV_pos (by omega)] at C1 C2
      clear q1 q2
      go_enter Try.func3, Try.ntmps3
      go_wp2_with fail
      refine (vnew_any _).mono ?_
      rintro e w1 ⟨rfl, h1, hb1⟩
      have HV1 := hide h1
      have HB1 := hide (hb1)
      clear h1 hb1
      go_wp2_with fail
      refine (unhide C0 _ _ (unhide HV1)).mono ?_
      rintro e w2 ⟨rfl, hb2⟩
      have HV2 := hide ((unhide HV1).later hb2)
      have HB2 := hide (bel3 (unhide HB1) (Below.refl _ _) hb2)
      clear hb2 HV1 HB1
      clear HV2
      go_wp2_with fail
      refine (vnew_any _).mono ?_
      rintro e w3 ⟨rfl, h3, hb3⟩
      have HV3 := hide h3
      have HB3 := hide (bel3 (unhide HB2) (Below.refl _ _) hb3)
      clear h3 hb3
      go_wp2_with fail
      refine (unhide C1 _ _ (unhide HV3)).mono ?_
      rintro e w4 ⟨rfl, hb4⟩
      have HV4 := hide ((unhide HV3).later hb4)
      have HB4 := hide (bel3 (unhide HB3) (Below.refl _ _) hb4)
      clear hb4 HV3 HB3
      go_wp2_with fail
      refine (unhide C2 _ _ (unhide HV4)).mono ?_
      rintro e w5 ⟨rfl, hb5⟩
      have HV5 := hide ((unhide HV4).later hb5)
      have HB5 := hide (bel3 (unhide HB4) (Below.refl _ _) hb5)
      clear hb5 HV4 HB4
      go_wp2
      go_ret
      exact ⟨rfl, unhide HB5⟩
    · have q1 : SpentM.has [] n = false := by rw [VaultM.has_good VaultM.nil_good, hn]; rfl
      have q2 : SpentM.hasErr [] n = 1 := by rw [VaultM.hasErr_good VaultM.nil_good, hn]; rfl
      have h0 : ¬ n < 0 := by omega
      have h1 : 999982 < n := by omega
      clear h
      clear hn
      have C0 := hide (fun (v : Nat) (w : World) (h : VAt w v [] []) => vhas_any (-1) w h)
      rw [show SpentM.has [] (-1) = false from rfl, show SpentM.hasErr [] (-1) = 1 from rfl, errV_pos (by omega)] at C0
      have C1 := hide (fun (v : Nat) (w : World) (h : VAt w v [] []) => vhas_any n w h)
      have C2 := hide (fun (v : Nat) (w : World) (h : VAt w v [] []) => vsure_any n w h)
      rw [q1, q2, errV_pos (by omega)] at C1 C2
      clear q1 q2
      go_enter Try.func3, Try.ntmps3
      go_wp2_with fail
      refine (vnew_any _).mono ?_
      rintro e w1 ⟨rfl, h1, hb1⟩
      have HV1 := hide h1
      have HB1 := hide (hb1)
      clear h1 hb1
      go_wp2_with fail
      refine (unhide C0 _ _ (unhide HV1)).mono ?_
      rintro e w2 ⟨rfl, hb2⟩
      have HV2 := hide ((unhide HV1).later hb2)
      have HB2 := hide (bel3 (unhide HB1) (Below.refl _ _) hb2)
      clear hb2 HV1 HB1
      clear HV2
      go_wp2_with fail
      refine (vnew_any _).mono ?_
      rintro e w3 ⟨rfl, h3, hb3⟩
      have HV3 := hide h3
      have HB3 := hide (bel3 (unhide HB2) (Below.refl _ _) hb3)
      clear h3 hb3
      go_wp2_with fail
      refine (unhide C1 _ _ (unhide HV3)).mono ?_
      rintro e w4 ⟨rfl, hb4⟩
      have HV4 := hide ((unhide HV3).later hb4)
      have HB4 := hide (bel3 (unhide HB3) (Below.refl _ _) hb4)
      clear hb4 HV3 HB3
      go_wp2_with fail
      refine (unhide C2 _ _ (unhide HV4)).mono ?_
      rintro e w5 ⟨rfl, hb5⟩
      have HV5 := hide ((unhide HV4).later hb5)
      have HB5 := hide (bel3 (unhide HB4) (Below.refl _ _) hb5)
      clear hb5 HV4 HB4
      go_wp2
      go_ret
      exact ⟨rfl, unhide HB5⟩


set_option maxRecDepth 100000 in
theorem lifted (os : Os) (started : os.Started) (H : Type) (enc : TypeId × Value → H) :
    ReturnsInHanded {} Try.checked os 3 .any (Rows.vaultEmptySpec.pre6 enc Try.prog Try.f3 Rows.vaultEmptyRow.domain false) (Rows.vaultEmptySpec.post enc Try.prog Try.f3 false true false false) := by
  refine returnsInHanded_of_change (C := Try.checked) own started (by kernel_rfl) Try.func3
    (ChangeSpec.witness6 (enc := enc) (C := Try.checked) false ⟨#[], #[.int .i64 0], []⟩ 8 (by kernel_rfl) (by kernel_rfl) (by kernel_rfl) (by kernel_rfl)) ?_
  intro W base args ds gs before hval0 hW hcnd _
  have hval : ∀ (j : Nat) t v, Try.f3.params[j]? = some t → args[j]? = some v → Value.okWide Try.prog W .any base t v := hval0
  have hW' := hW
  obtain ⟨p, q, hA0, hV, rfl, hfz, hnd⟩ := hW
  have hA : DataW.TrodAll enc Try.prog W 0 (fun _ => true) true Try.f3.params.toList args.toList ds p := hA0
  rw [Try.params3] at hA hval
  obtain ⟨v0, vs0, d0, ds0, p0, q0, hargs, rfl, rfl, h0, r0⟩ := trodAll_cons hA
  obtain ⟨rfl, rfl, rfl⟩ := trodAll_nil r0
  obtain rfl : args = #[v0] := by cases args; simp_all
  obtain ⟨rfl, rfl⟩ := trodVars_none hV
  have k0 := h0
  have lt0 : ∀ x ∈ p0, x.block < W.heap.size := by obtain ⟨m, hm⟩ := k0; exact DataW.trod_lt m _ _ _ hm
  obtain ⟨a0, rfl, rfl, rfl, w0⟩ := open_int Try.underlying3 (hval 0 3 v0 rfl rfl) h0
  clear hA0 hval0
  refine (walk a0 W w0).mono fun e W' ⟨he, bel⟩ => ?_
  subst he
  exact ⟨_, rfl, _, _, _, [], _, [], hW', trodAll_mk1 (shut_bool Try.underlying4 _), (trodAll_cons_mk (Below.trod laidOut (by kernel_rfl) (of_decide_eq_true (by kernel_rfl)) k0 bel lt0) trodAll_mk0), rfl, bel.frame _, fun h => by cases h⟩

theorem over : Rows.vaultEmptyRow.holds Try.pinned (OpenSpec.ofChange Rows.vaultEmptySpec) :=
  OpenClaim.holds_of_wide 3 Try.f3 rfl rfl rfl rfl rfl rfl rfl ⟨rfl, rfl, rfl, rfl, rfl⟩ rfl rfl rfl rfl rfl (by kernel_rfl) Try.func3 (by kernel_rfl)
    (of_decide_eq_true (by kernel_rfl)) (by unfold Func.isWrapper; first | (rw [if_pos (by decide +kernel)]; kernel_rfl) | (rw [if_neg (by decide +kernel)]; exact ⟨rfl, rfl⟩))
    (fun os started H enc _ => lifted os started H enc)

end Go.Proofs.Ytiklmcolodgnoai.vaultEmpty
namespace Go.Proofs.Ytiklmcolodgnoai
theorem vaultEmpty_holds : Rows.VaultEmptySaid := vaultEmpty.over
#print axioms vaultEmpty_holds
end Go.Proofs.Ytiklmcolodgnoai

