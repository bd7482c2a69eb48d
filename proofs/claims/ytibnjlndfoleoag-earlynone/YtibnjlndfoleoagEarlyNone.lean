/-
  EarlyNone holds for every string: where nothing is let nothing is taken. No condition.
-/
import Derived.Test.YtibnjlndfoleoagEarlyWalks
import Derived.ProofKit
import Derived.Lib.SmallJoins
namespace Go.Proofs.Ytibnjlndfoleoag.earlyNone
open Go.ChangeShapes Go.WideShapes Go.ChangeAt Go.RowKit Go.Joins
set_option linter.unusedVariables false

theorem own : ownKnob Try.prog.godebug = none := by kernel_rfl
theorem laidOut : laidOutB Try.prog = true := by kernel_rfl
def IsRow (k : IntKind) (w : World) (a : Option Addr) (len cap : Nat) (zs : List Int) : Prop :=
  (a = none ∧ len = 0 ∧ cap = 0 ∧ zs = []) ∨
  ∃ x, a = some x ∧ len ≤ cap ∧ cap ≤ maxLen ∧ zs.length = cap ∧ (∀ i, i < zs.length → w.cell? (x.add i) = some (.int k (zs.getD i 0))) ∧ ∀ n ∈ zs, (Lit.int k n).wf = true
def IsStrs (w : World) (a : Option Addr) (len cap : Nat) (zs : List ByteArray) : Prop :=
  (a = none ∧ len = 0 ∧ cap = 0 ∧ zs = []) ∨
  ∃ x, a = some x ∧ len ≤ cap ∧ cap ≤ maxLen ∧ zs.length = cap ∧ (∀ i, i < zs.length → w.cell? (x.add i) = some (.string (zs.getD i ByteArray.empty))) ∧ ∀ s ∈ zs, s.size ≤ maxLen
def IsPairs (w : World) (a : Option Addr) (len cap : Nat) (zs : List (Int × Int)) : Prop :=
  (a = none ∧ len = 0 ∧ cap = 0 ∧ zs = []) ∨
  ∃ x, a = some x ∧ len ≤ cap ∧ cap ≤ maxLen ∧ zs.length = cap ∧ ∀ i, i < cap → w.cell? (x.add (i * 2)) = some (.int .i64 (zs.getD i (0, 0)).1) ∧ w.cell? (x.add (i * 2 + 1)) = some (.int .i64 (zs.getD i (0, 0)).2)
def IsRows (w : World) (a : Option Addr) (len cap : Nat) (A : Nat → Option Addr) (L C : Nat → Nat) (Z : Nat → List Int) : Prop :=
  (a = none ∧ len = 0 ∧ cap = 0) ∨
  ∃ x, a = some x ∧ len ≤ cap ∧ cap ≤ maxLen ∧ ∀ r, r < cap → w.cell? (x.add r) = some (.slice (A r) (L r) (C r)) ∧ L r ≤ C r ∧ C r ≤ maxLen ∧ (Z r).length = C r ∧ (∀ n ∈ Z r, (Lit.int .i64 n).wf = true) ∧ (A r = none → C r = 0) ∧
    ∀ a', A r = some a' → ∀ c, c < C r → w.cell? (a'.add c) = some (.int .i64 ((Z r).getD c 0))


set_option maxHeartbeats 6400000 in
set_option maxRecDepth 8000 in
theorem walk (s : ByteArray) (w : World) (_w0 : s.size ≤ maxLen) :
    Calls Try.prog 3 #[.string s] w fun e w' => e = .returned (.bool true) ∧ Below w.heap.size w w' := by
  clear _w0
  by_cases hs : s.size = 0
  · go_enter Try.func3, Try.ntmps3
    obtain rfl : s = ⟨#[]⟩ := ByteArray.ext (Array.eq_empty_of_size_eq_zero hs)
    go_wp2_with fail
    refine (enew_yes 0 _ (by omega) (by omega)).mono ?_
    rintro e w1 ⟨rfl, h1, hb1⟩
    have HL1 := hide h1
    have HB1 := hide hb1
    clear h1 hb1
    have z1 : w.heap.size ≤ w1.heap.size := (unhide HB1).size
    go_wp2_with fail
    refine (eput_yes w.heap.size w.heap.size 0 ⟨#[]⟩ ⟨#[]⟩ _ w (unhide HL1) (by decide) (by decide) (by decide) (unhide HB1) z1).mono ?_
    rintro e w2 ⟨rfl, h2, hb2⟩
    have h2 : EarlyAt w.heap.size w2 w.heap.size 0 ⟨#[]⟩ := h2
    have HL2 := hide h2
    have HB2 := hide hb2
    clear h2 hb2
    go_wp2_with fail
    refine (etake_any w.heap.size w.heap.size 0 ⟨#[]⟩ _ w (unhide HL2) (unhide HB2)).mono ?_
    rintro e w3 ⟨rfl, h3, hb3⟩
    have HL3 := hide h3
    have HB3 := hide hb3
    clear h3 hb3
    go_wp2_with fail
    refine (eleft_any w.heap.size w.heap.size 0 ⟨#[]⟩ _ (unhide HL3)).mono ?_
    rintro e w' ⟨rfl, hw⟩
    obtain rfl := hw.symm
    clear hw
    go_wp2
    go_ret
    exact ⟨rfl, unhide HB3⟩
  · go_enter Try.func3, Try.ntmps3
    have e1 : (s.toList == []) = false := str_some hs
    have e2 : ¬ s.toList = [] := by simpa using e1
    have e3 : s.toList.isEmpty = false := by simpa using e1
    go_wp2_with fail
    refine (enew_yes 0 _ (by omega) (by omega)).mono ?_
    rintro e w1 ⟨rfl, h1, hb1⟩
    have HL1 := hide h1
    have HB1 := hide hb1
    clear h1 hb1
    have z1 : w.heap.size ≤ w1.heap.size := (unhide HB1).size
    go_wp2_with fail
    refine (eput_full w.heap.size w.heap.size 0 ⟨#[]⟩ s _ (unhide HL1) (by omega)).mono ?_
    rintro e w' ⟨rfl, hw⟩
    obtain rfl := hw.symm
    clear hw
    go_wp2_with fail
    refine (etake_any w.heap.size w.heap.size 0 ⟨#[]⟩ _ w (unhide HL1) (unhide HB1)).mono ?_
    rintro e w3 ⟨rfl, h3, hb3⟩
    have HL3 := hide h3
    have HB3 := hide hb3
    clear h3 hb3
    go_wp2_with fail
    refine (eleft_any w.heap.size w.heap.size 0 ⟨#[]⟩ _ (unhide HL3)).mono ?_
    rintro e w' ⟨rfl, hw⟩
    obtain rfl := hw.symm
    clear hw
    go_wp2
    go_ret
    exact ⟨rfl, unhide HB3⟩


set_option maxRecDepth 100000 in
theorem lifted (os : Os) (started : os.Started) (H : Type) (enc : TypeId × Value → H) :
    ReturnsInHanded {} Try.checked os 3 .any (Rows.earlyNoneSpec.pre6 enc Try.prog Try.f3 Rows.earlyNoneRow.domain false) (Rows.earlyNoneSpec.post enc Try.prog Try.f3 false true false false) := by
  refine returnsInHanded_of_change (C := Try.checked) own started (by kernel_rfl) Try.func3
    (ChangeSpec.witness6 (enc := enc) (C := Try.checked) false ⟨#[], #[.string ByteArray.empty], []⟩ 8 (by kernel_rfl) (by kernel_rfl) (by kernel_rfl) (by kernel_rfl)) ?_
  intro W base args ds gs before hval0 hW hcnd _
  have hval : ∀ (j : Nat) t v, Try.f3.params[j]? = some t → args[j]? = some v → Value.okWide Try.prog W .any base t v := hval0
  have hW' := hW
  obtain ⟨p, q, hA0, hV, rfl, hfz, hnd⟩ := hW
  have hA : DataW.TrodAll enc Try.prog W 0 (fun _ => true) true Try.f3.params.toList args.toList ds p := hA0
  rw [Try.params3] at hA hval
  obtain ⟨v0, vs0, d0, ds0, p0, q0, hargs, rfl, rfl, h0, r0⟩ := trodAll_cons hA
  obtain ⟨rfl, rfl, rfl⟩ := trodAll_nil r0
  obtain rfl : args = #[v0] := by cases args; simp_all
  obtain ⟨rfl, rfl⟩ := trodVars_none hV
  have k0 := h0
  have lt0 : ∀ x ∈ p0, x.block < W.heap.size := by obtain ⟨m, hm⟩ := k0; exact DataW.trod_lt m _ _ _ hm
  obtain ⟨a0, rfl, rfl, rfl, w0⟩ := Go.ChangeMaps.open_string Try.underlying9 (hval 0 9 v0 rfl rfl) h0
  clear hA0 hval0
  refine (walk a0 W w0).mono fun e W' ⟨he, bel⟩ => ?_
  subst he
  exact ⟨_, rfl, _, _, _, [], _, [], hW', trodAll_mk1 (shut_bool Try.underlying4 _), (trodAll_cons_mk (Below.trod laidOut (by kernel_rfl) (of_decide_eq_true (by kernel_rfl)) k0 bel lt0) trodAll_mk0), rfl, bel.frame _, fun h => by cases h⟩

theorem over : Rows.earlyNoneRow.holds Try.pinned (OpenSpec.ofChange Rows.earlyNoneSpec) :=
  OpenClaim.holds_of_wide 3 Try.f3 rfl rfl rfl rfl rfl rfl rfl ⟨rfl, rfl, rfl, rfl, rfl⟩ rfl rfl rfl rfl rfl (by kernel_rfl) Try.func3 (by kernel_rfl)
    (of_decide_eq_true (by kernel_rfl)) (by unfold Func.isWrapper; first | (rw [if_pos (by decide +kernel)]; kernel_rfl) | (rw [if_neg (by decide +kernel)]; exact ⟨rfl, rfl⟩))
    (fun os started H enc _ => lifted os started H enc)

end Go.Proofs.Ytibnjlndfoleoag.earlyNone
namespace Go.Proofs.Ytibnjlndfoleoag
theorem earlyNone_holds : Rows.EarlyNoneSaid := earlyNone.over
#print axioms earlyNone_holds
end Go.Proofs.Ytibnjlndfoleoag

