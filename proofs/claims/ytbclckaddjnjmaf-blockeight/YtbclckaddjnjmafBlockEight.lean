/-
  BlockEight holds for every number: numbers are told in their order, and eight at a time are kept. No condition.
-/
import Derived.Test.YtbclckaddjnjmafBlockWalks
import Derived.ProofKit
import Derived.Lib.SmallJoins
namespace Go.Proofs.Ytbclckaddjnjmaf.blockEight
open Go.ChangeShapes Go.WideShapes Go.ChangeAt Go.RowKit Go.Joins
set_option linter.unusedVariables false

theorem own : ownKnob Try.prog.godebug = none := by kernel_rfl
theorem laidOut : laidOutB Try.prog = true := by kernel_rfl
def IsRow (k : IntKind) (w : World) (a : Option Addr) (len cap : Nat) (zs : List Int) : Prop :=
  (a = none ∧ len = 0 ∧ cap = 0 ∧ zs = []) ∨
  ∃ x, a = some x ∧ len ≤ cap ∧ cap ≤ maxLen ∧ zs.length = cap ∧ (∀ i, i < zs.length → w.cell? (x.add i) = some (.int k (zs.getD i 0))) ∧ ∀ n ∈ zs, (Lit.int k n).wf = true
def IsStrs (w : World) (a : Option Addr) (len cap : Nat) (zs : List ByteArray) : Prop :=
  (a = none ∧ len = 0 ∧ cap = 0 ∧ zs = []) ∨
  ∃ x, a = some x ∧ len ≤ cap ∧ cap ≤ maxLen ∧ zs.length = cap ∧ (∀ i, i < zs.length → w.cell? (x.add i) = some (.string (zs.getD i ByteArray.empty))) ∧ ∀ s ∈ zs, s.size ≤ maxLen
def IsPairs (w : World) (a : Option Addr) (len cap : Nat) (zs : List (Int × Int)) : Prop :=
  (a = none ∧ len = 0 ∧ cap = 0 ∧ zs = []) ∨
  ∃ x, a = some x ∧ len ≤ cap ∧ cap ≤ maxLen ∧ zs.length = cap ∧ ∀ i, i < cap → w.cell? (x.add (i * 2)) = some (.int .i64 (zs.getD i (0, 0)).1) ∧ w.cell? (x.add (i * 2 + 1)) = some (.int .i64 (zs.getD i (0, 0)).2)
def IsRows (w : World) (a : Option Addr) (len cap : Nat) (A : Nat → Option Addr) (L C : Nat → Nat) (Z : Nat → List Int) : Prop :=
  (a = none ∧ len = 0 ∧ cap = 0) ∨
  ∃ x, a = some x ∧ len ≤ cap ∧ cap ≤ maxLen ∧ ∀ r, r < cap → w.cell? (x.add r) = some (.slice (A r) (L r) (C r)) ∧ L r ≤ C r ∧ C r ≤ maxLen ∧ (Z r).length = C r ∧ (∀ n ∈ Z r, (Lit.int .i64 n).wf = true) ∧ (A r = none → C r = 0) ∧
    ∀ a', A r = some a' → ∀ c, c < C r → w.cell? (a'.add c) = some (.int .i64 ((Z r).getD c 0))


set_option maxHeartbeats 6400000 in
set_option maxRecDepth 8000 in
theorem walk (m0 : Int) (w : World) (_w0 : (Lit.int .i64 m0).wf = true) :
    Calls Try.prog 4 #[.int .i64 m0] w fun e w' => e = .returned (.bool true) ∧ Below w.heap.size w w' := by
  go_enter Try.func4, Try.ntmps4
  go_wp2_with fail
  refine (bnew_any _).mono ?_
  rintro e w1 ⟨rfl, h1, hb1⟩
  have HL1 := hide h1
  have HB1 := hide hb1
  clear h1 hb1
  go_wp2
  go_loopw [4] (fun i wr => ∃ (k : Nat) (m : Int), k ≤ 60 ∧ i = .int .i64 k ∧ (k : Int) ≤ m ∧ m < (k : Int) + 8 ∧ m % 8 = 0 ∧ Hid (Held wr w.heap.size (n2 k m)) ∧ Hid (Below w.heap.size w wr)) (fun i _ => 60 - (intOf i).toNat)
  case atStart => exact ⟨0, 0, by omega, rfl, by omega, by omega, by omega, HL1, HB1⟩
  case round =>
    clear HL1 HB1
    obtain ⟨k, m, hk, rfl, hr1, hr2, hr3, HL, HB⟩ := hrel
    by_cases hkm : (k : Int) < m0
    · by_cases hk60 : (k : Int) < 60
      · have e1 : ((k : Int) == (k : Int)) = true := by simp
        have hq0 : (k : Int).tdiv 8 = (k : Int) / 8 := Int.tdiv_eq_ediv_of_nonneg (by omega)
        by_cases hkm8 : (k : Int) = m
        · subst hkm8
          have e2 : 8 * ((k : Int).tdiv 8 + 1) = (k : Int) + 8 := by omega
          go_wp2_with fail
          refine (bnext_more _ (k : Int) _ (unhide HL) (by omega) (by omega)).mono ?_
          rintro e w3 ⟨rfl, h3, k3⟩
          have HL3 := hide h3
          have HB3 := hide (bown k3 (unhide HB) (Nat.le_refl _))
          clear h3 k3
          go_wp2_with fail
          refine (bbound_any _ ((k : Int) + 1) ((k : Int) + 8) _ (unhide HL3)).mono ?_
          rintro e w' ⟨rfl, hw⟩
          obtain rfl := hw.symm
          clear hw
          go_wp2
          go_roundw
          case rel => exact ⟨k + 1, ((k : Int) + 8), by omega, by go_num, by omega, by omega, by omega, hide (by (have h := unhide HL3; simpa using h)), HB3⟩
          case measure => simp [intOf]; omega
        · have e2 : 8 * ((k : Int).tdiv 8 + 1) = m := by omega
          go_wp2_with fail
          refine (bnext_yes _ (k : Int) m _ (unhide HL) (by omega) (by omega) (by omega)).mono ?_
          rintro e w3 ⟨rfl, h3, k3⟩
          have HL3 := hide h3
          have HB3 := hide (bown k3 (unhide HB) (Nat.le_refl _))
          clear h3 k3
          go_wp2_with fail
          refine (bbound_any _ ((k : Int) + 1) m _ (unhide HL3)).mono ?_
          rintro e w' ⟨rfl, hw⟩
          obtain rfl := hw.symm
          clear hw
          go_wp2
          go_roundw
          case rel => exact ⟨k + 1, m, by omega, by go_num, by omega, by omega, by omega, hide (by (have h := unhide HL3; simpa using h)), HB3⟩
          case measure => simp [intOf]; omega
      · go_wp2
        go_ret
        exact ⟨rfl, unhide HB⟩
    · go_wp2
      go_ret
      exact ⟨rfl, unhide HB⟩


set_option maxRecDepth 100000 in
theorem lifted (os : Os) (started : os.Started) (H : Type) (enc : TypeId × Value → H) :
    ReturnsInHanded {} Try.checked os 4 .any (Rows.blockEightSpec.pre6 enc Try.prog Try.f4 Rows.blockEightRow.domain false) (Rows.blockEightSpec.post enc Try.prog Try.f4 false true false false) := by
  refine returnsInHanded_of_change (C := Try.checked) own started (by kernel_rfl) Try.func4
    (ChangeSpec.witness6 (enc := enc) (C := Try.checked) false ⟨#[], #[.int .i64 0], []⟩ 8 (by kernel_rfl) (by kernel_rfl) (by kernel_rfl) (by kernel_rfl)) ?_
  intro W base args ds gs before hval0 hW hcnd _
  have hval : ∀ (j : Nat) t v, Try.f4.params[j]? = some t → args[j]? = some v → Value.okWide Try.prog W .any base t v := hval0
  have hW' := hW
  obtain ⟨p, q, hA0, hV, rfl, hfz, hnd⟩ := hW
  have hA : DataW.TrodAll enc Try.prog W 0 (fun _ => true) true Try.f4.params.toList args.toList ds p := hA0
  rw [Try.params4] at hA hval
  obtain ⟨v0, vs0, d0, ds0, p0, q0, hargs, rfl, rfl, h0, r0⟩ := trodAll_cons hA
  obtain ⟨rfl, rfl, rfl⟩ := trodAll_nil r0
  obtain rfl : args = #[v0] := by cases args; simp_all
  obtain ⟨rfl, rfl⟩ := trodVars_none hV
  have k0 := h0
  have lt0 : ∀ x ∈ p0, x.block < W.heap.size := by obtain ⟨m, hm⟩ := k0; exact DataW.trod_lt m _ _ _ hm
  obtain ⟨a0, rfl, rfl, rfl, w0⟩ := open_int Try.underlying3 (hval 0 3 v0 rfl rfl) h0
  clear hA0 hval0
  refine (walk a0 W w0).mono fun e W' ⟨he, bel⟩ => ?_
  subst he
  exact ⟨_, rfl, _, _, _, [], _, [], hW', trodAll_mk1 (shut_bool Try.underlying4 _), (trodAll_cons_mk (Below.trod laidOut (by kernel_rfl) (of_decide_eq_true (by kernel_rfl)) k0 bel lt0) trodAll_mk0), rfl, bel.frame _, fun h => by cases h⟩

theorem over : Rows.blockEightRow.holds Try.pinned (OpenSpec.ofChange Rows.blockEightSpec) :=
  OpenClaim.holds_of_wide 4 Try.f4 rfl rfl rfl rfl rfl rfl rfl ⟨rfl, rfl, rfl, rfl, rfl⟩ rfl rfl rfl rfl rfl (by kernel_rfl) Try.func4 (by kernel_rfl)
    (of_decide_eq_true (by kernel_rfl)) (by unfold Func.isWrapper; first | (rw [if_pos (by decide +kernel)]; kernel_rfl) | (rw [if_neg (by decide +kernel)]; exact ⟨rfl, rfl⟩))
    (fun os started H enc _ => lifted os started H enc)

end Go.Proofs.Ytbclckaddjnjmaf.blockEight
namespace Go.Proofs.Ytbclckaddjnjmaf
theorem blockEight_holds : Rows.BlockEightSaid := blockEight.over
#print axioms blockEight_holds
end Go.Proofs.Ytbclckaddjnjmaf

