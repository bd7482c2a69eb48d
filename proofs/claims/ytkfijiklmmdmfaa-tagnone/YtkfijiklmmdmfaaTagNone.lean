/-
  TagNone holds for every key and every other key: no numbers have one tag by two keys just if the keys are the same, and a refused key is out of range. No condition.
-/
import Derived.Test.YtkfijiklmmdmfaaRows
import Derived.WalkKit
import Derived.ProofKit
import Derived.OpenShut
import Derived.Test.YtkfijiklmmdmfaaTagWalks
namespace Go.Proofs.Ytkfijiklmmdmfaa.tagNone
open Go.ChangeShapes Go.WideShapes Go.ChangeAt Go.RowKit
set_option linter.unusedVariables false

theorem own : ownKnob Try.prog.godebug = none := by kernel_rfl

theorem err_nil_yes {k : Int} (h0 : 0 ≤ k) (h1 : k < 999983) : TagM.err k [] = 0 :=
  TagM.err_zero.2 ⟨(TagM.inB_iff k).2 ⟨h0, h1⟩, by simp, by simp⟩
theorem err_nil_no {k : Int} (h : k < 0 ∨ 999983 ≤ k) : TagM.err k [] = 1 := by
  unfold TagM.err; rw [if_pos ((TagM.inB_not k).2 h)]
theorem mk_yes (k : Int) (w : World) (h0 : 0 ≤ k) (h1 : k < 999983) :
    Calls Try.prog 7 #[.int .i64 k, .slice none 0 0] w fun e w' => e = .returned (.tuple #[.int .i64 (TagM.tag k []), .nilIface]) ∧ w' = w :=
  make_yes k none 0 [] w (nil_ints w) (err_nil_yes h0 h1)
theorem mk_no (k : Int) (w : World) (h : k < 0 ∨ 999983 ≤ k) :
    Calls Try.prog 7 #[.int .i64 k, .slice none 0 0] w fun e w' => e = .returned (.tuple #[.int .i64 0, .iface 23 (.int .i64 1)]) ∧ w' = w := by
  have := make_no k none 0 [] w (nil_ints w) (by rw [err_nil_no h]; decide)
  rw [err_nil_no h] at this
  exact this

theorem beq_same (a b c d : Int) (h : a = b ↔ c = d) : ((a == b) == (c == d)) = true := by
  by_cases hc : c = d
  · have := h.2 hc; subst this; subst hc; simp
  · have h1 : ¬ a = b := fun x => hc (h.1 x)
    rw [beq_eq_false_iff_ne.2 h1, beq_eq_false_iff_ne.2 hc]; rfl

theorem walk (a0 : Int) (a1 : Int) (w0 : (Lit.int .i64 a0).wf = true) (w1 : (Lit.int .i64 a1).wf = true) (w : World) :
    Calls Try.prog 5 #[.int .i64 a0, .int .i64 a1] w fun e w' => e = .returned (.bool true) ∧ Grown w w' := by
  clear w0 w1
  by_cases k0 : 0 ≤ a0 ∧ a0 < 999983
  · obtain ⟨k1, k2⟩ := k0
    by_cases o0 : 0 ≤ a1 ∧ a1 < 999983
    · obtain ⟨o1, o2⟩ := o0
      have hs := hide (beq_same _ _ _ _ (TagM.tag_nil_inj ⟨k1, k2⟩ ⟨o1, o2⟩))
      go_enter Try.func5, Try.ntmps5
      go_wp2_with fail
      refine (mk_yes a0 _ k1 k2).mono ?_
      rintro e w' ⟨rfl, rfl⟩
      go_wp2_with fail
      refine (mk_yes a1 _ o1 o2).mono ?_
      rintro e w' ⟨rfl, rfl⟩
      have hs' := unhide hs
      go_wp2
      go_ret
      exact ⟨rfl, Grown.refl _⟩
    · have ob : a1 < 0 ∨ 999983 ≤ a1 := by omega
      have OB := hide ob
      clear ob o0
      go_enter Try.func5, Try.ntmps5
      go_wp2_with fail
      refine (mk_yes a0 _ k1 k2).mono ?_
      rintro e w' ⟨rfl, rfl⟩
      go_wp2_with fail
      refine (mk_no a1 _ (unhide OB)).mono ?_
      rintro e w' ⟨rfl, rfl⟩
      go_wp2
      go_ret
      exact ⟨rfl, Grown.refl _⟩
  · have kb : a0 < 0 ∨ 999983 ≤ a0 := by omega
    have KB := hide kb
    clear kb k0
    have two : ∀ wx, Calls Try.prog 7 #[.int .i64 a1, .slice none 0 0] wx fun e w' => (∃ x v, e = .returned (.tuple #[.int .i64 x, v])) ∧ w' = wx := by
      intro wx
      by_cases o0 : 0 ≤ a1 ∧ a1 < 999983
      · exact (mk_yes a1 wx o0.1 o0.2).mono fun e w' ⟨h1, h2⟩ => ⟨⟨_, _, h1⟩, h2⟩
      · exact (mk_no a1 wx (by omega)).mono fun e w' ⟨h1, h2⟩ => ⟨⟨_, _, h1⟩, h2⟩
    have TWO := hide two
    clear two
    by_cases kn : a0 < 0
    · go_enter Try.func5, Try.ntmps5
      go_wp2_with fail
      refine (mk_no a0 _ (unhide KB)).mono ?_
      rintro e w' ⟨rfl, rfl⟩
      go_wp2_with fail
      refine (unhide TWO _).mono ?_
      rintro e w' ⟨⟨x, v, rfl⟩, rfl⟩
      go_wp2
      go_ret
      exact ⟨rfl, Grown.refl _⟩
    · have kp : 999982 < a0 := by have := unhide KB; omega
      go_enter Try.func5, Try.ntmps5
      go_wp2_with fail
      refine (mk_no a0 _ (unhide KB)).mono ?_
      rintro e w' ⟨rfl, rfl⟩
      go_wp2_with fail
      refine (unhide TWO _).mono ?_
      rintro e w' ⟨⟨x, v, rfl⟩, rfl⟩
      go_wp2
      go_ret
      exact ⟨rfl, Grown.refl _⟩

/-! ### THE ROW's STEP: WRITTEN OUT: LEAVE IT -/
set_option maxRecDepth 100000 in
theorem lifted (os : Os) (started : os.Started) (H : Type) (enc : TypeId × Value → H) :
    ReturnsInHanded {} Try.checked os 5 .any (Rows.tagNoneSpec.pre6 enc Try.prog Try.f5 Rows.tagNoneRow.domain false) (Rows.tagNoneSpec.post enc Try.prog Try.f5 false true false false) := by
  refine returnsInHanded_of_change (C := Try.checked) own started (by kernel_rfl) Try.func5
    (ChangeSpec.witness6 (enc := enc) (C := Try.checked) false ⟨#[], #[.int .i64 0, .int .i64 0], []⟩ 8 (by kernel_rfl) (by kernel_rfl) (by kernel_rfl) (by kernel_rfl)) ?_
  intro W base args ds gs before hval0 hW hcnd _
  have hval : ∀ (j : Nat) t v, Try.f5.params[j]? = some t → args[j]? = some v → Value.okWide Try.prog W .any base t v := hval0
  have hW' := hW
  obtain ⟨p, q, hA0, hV, rfl, hfz, hnd⟩ := hW
  have hA : DataW.TrodAll enc Try.prog W 0 (fun _ => true) true Try.f5.params.toList args.toList ds p := hA0
  rw [Try.params5] at hA hval
  obtain ⟨v0, vs0, d0, ds0, p0, q0, hargs, rfl, rfl, h0, r0⟩ := trodAll_cons hA
  obtain ⟨v1, vs1, d1, ds1, p1, q1, rfl, rfl, rfl, h1, r1⟩ := trodAll_cons r0
  obtain ⟨rfl, rfl, rfl⟩ := trodAll_nil r1
  obtain rfl : args = #[v0, v1] := by cases args; simp_all
  obtain ⟨rfl, rfl⟩ := trodVars_none hV
  obtain ⟨a0, rfl, rfl, rfl, w0⟩ := open_int Try.underlying3 (hval 0 3 v0 rfl rfl) h0
  obtain ⟨a1, rfl, rfl, rfl, w1⟩ := open_int Try.underlying3 (hval 1 3 v1 rfl rfl) h1
  clear hA0 hval0
  simp only [List.append_nil] at hW'
  refine (walk a0 a1 w0 w1 W).mono fun e W' ⟨he, hg⟩ => ?_
  subst he
  exact ⟨_, rfl, post_of_same (pa := []) (pv := []) hW' (fun _ _ _ => (trodAll_cons_mk (shut_bool Try.underlying4 _) trodAll_mk0)) (fun sp _ => (trodAll_cons_mk (shut_int Try.underlying3 w0) (trodAll_cons_mk (shut_int Try.underlying3 w1) trodAll_mk0))) (fun _ _ => rfl) rfl
    (hg.frame _) hg.2.1 (ok_one (by kernel_rfl) rfl (okWide_bool_mk Try.underlying4 _))⟩

theorem over : Rows.tagNoneRow.holds Try.pinned (OpenSpec.ofChange Rows.tagNoneSpec) :=
  OpenClaim.holds_of_wide 5 Try.f5 rfl rfl rfl rfl rfl rfl rfl ⟨rfl, rfl, rfl, rfl, rfl⟩ rfl rfl rfl rfl rfl (by kernel_rfl) Try.func5 (by kernel_rfl)
    (of_decide_eq_true (by kernel_rfl)) (by unfold Func.isWrapper; first | (rw [if_pos (by decide +kernel)]; kernel_rfl) | (rw [if_neg (by decide +kernel)]; exact ⟨rfl, rfl⟩))
    (fun os started H enc _ => lifted os started H enc)

end Go.Proofs.Ytkfijiklmmdmfaa.tagNone
namespace Go.Proofs.Ytkfijiklmmdmfaa
theorem tagNone_holds : Rows.TagNoneSaid := tagNone.over
#print axioms tagNone_holds
end Go.Proofs.Ytkfijiklmmdmfaa
