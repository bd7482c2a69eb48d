/-
  TokenNow holds for every ring, address and time: one that was made is right at its own time with no life, and too late one later (out of range at the end of time). The listed variable errors.errorType starts as the program's text lays it (the card's tie). No other condition.
-/
import Derived.Test.YtdbhkfanchjjbabDoorTokenWalks
import Derived.Test.YtdbhkfanchjjbabDoorHeld
import Derived.Test.YtdbhkfanchjjbabDoorTie
import Derived.Test.YtdbhkfanchjjbabDoorCards
import Derived.ProofKit
import Derived.Lib.SmallJoins
import Derived.LaidMore
import Derived.LaidHandle
import Derived.LaidLaws
import Derived.Stop.Joined
import Derived.SevenTiedAt
namespace Go.Proofs.YtdbhkfanchjjbabDoor.tokenNow
open Go.ChangeShapes Go.WideShapes Go.ChangeAt Go.RowKit Go.Joins
set_option linter.unusedVariables false

theorem own : ownKnob Tryd.prog.godebug = none := by kernel_rfl
theorem laidOut : laidOutB Tryd.prog = true := by kernel_rfl
def IsRow (k : IntKind) (w : World) (a : Option Addr) (len cap : Nat) (zs : List Int) : Prop :=
  (a = none ∧ len = 0 ∧ cap = 0 ∧ zs = []) ∨
  ∃ x, a = some x ∧ len ≤ cap ∧ cap ≤ maxLen ∧ zs.length = cap ∧ (∀ i, i < zs.length → w.cell? (x.add i) = some (.int k (zs.getD i 0))) ∧ ∀ n ∈ zs, (Lit.int k n).wf = true


set_option maxHeartbeats 800000 in
theorem walk_bad {ep key old a t : Int} (w : World) (h : ¬ TokenM.makeErr ep key old a t = 0) :
    Calls Tryd.prog 6 #[.agg #[.int .i64 ep, .int .i64 key, .int .i64 old], .int .i64 a, .int .i64 t] w fun e w' => e = .returned (.bool true) ∧ Below w.heap.size w w' := by
  have C := hide (fun w => tmake_no w h)
  clear h
  generalize TokenM.makeErr ep key old a t = n at C
  go_enter Tryd.func6, Tryd.ntmps6
  go_wp2_with fail
  refine (unhide C _).mono ?_
  rintro e w1 ⟨rfl, hb1⟩
  obtain ⟨hc1, hf1, hz1⟩ := lies hb1
  try simp at hz1
  have HB1 := hide hb1
  clear hb1
  go_wp2
  go_ret
  exact ⟨rfl, (by (repeat' (first | exact Below.refl _ _ | refine Below.alloc ?_ ?_ _ | refine Below.setCell ?_ ?_ _ | refine Below.drew ?_ | refine Below.trans ?_ (Below.mono (unhide HB1) ?_))); all_goals (first | exact Nat.le_refl _ | omega | (simp; done) | (simp; omega)))⟩

set_option maxHeartbeats 3200000 in
set_option maxRecDepth 4000 in
theorem walk_good {ep key old a t : Int} (w : World) (h : TokenM.makeErr ep key old a t = 0) (hg : ErrType w) :
    Calls Tryd.prog 6 #[.agg #[.int .i64 ep, .int .i64 key, .int .i64 old], .int .i64 a, .int .i64 t] w fun e w' => e = .returned (.bool true) ∧ Below w.heap.size w w' := by
  obtain ⟨_, ha, ht⟩ := TokenM.make_zero.1 h
  obtain ⟨t0, t1⟩ := (TokenM.timeB_iff t).1 ht
  have C := hide (fun w => tmake_yes w h)
  have C1 := hide (fun w => tcheck_any ep key old ep a t (TagM.tag key [1, a, t]) a t 0 w)
  rw [TokenM.check_made h ha ht rfl, if_pos rfl, if_neg (by omega), if_neg (by omega), errV_zero rfl] at C1
  have C2 := hide (fun w => tcheck_any ep key old ep a t (TagM.tag key [1, a, t]) a (t + 1) 0 w)
  have HG := hide hg
  clear hg
  by_cases hm : t = 100000
  · rw [TokenM.check_made_bad h (.inr (.inl ((TokenM.timeB_not _).2 (by omega))))] at C2
    clear h ha ht
    generalize TagM.tag key [1, a, t] = g at C C1 C2
    subst hm
    go_enter Tryd.func6, Tryd.ntmps6
    go_wp2_with fail
    refine (unhide C _).mono ?_
    rintro e w1 ⟨rfl, hb1⟩
    obtain ⟨hc1, hf1, hz1⟩ := lies hb1
    try simp at hz1
    have HB1 := hide hb1
    clear hb1
    have g10 : w.heap.size < w1.heap.size := by omega
    go_wp2_with fail
    refine (unhide C2 _).mono ?_
    rintro e w2 ⟨rfl, hb2⟩
    obtain ⟨hc2, hf2, hz2⟩ := lies hb2
    try simp at hz2
    have HB2 := hide hb2
    clear hb2
    have g20 : w.heap.size < w2.heap.size := by omega
    have g21 : w1.heap.size < w2.heap.size := by omega
    go_wp2_with fail
    refine (unhide C1 _).mono ?_
    rintro e w3 ⟨rfl, hb3⟩
    obtain ⟨hc3, hf3, hz3⟩ := lies hb3
    try simp at hz3
    have HB3 := hide hb3
    clear hb3
    have g30 : w.heap.size < w3.heap.size := by omega
    have g31 : w1.heap.size < w3.heap.size := by omega
    go_wp2_with fail
    refine (same_any _ _ _ ((unhide HG).later (by (repeat' (first | exact Below.refl _ _ | refine Below.alloc ?_ ?_ _ | refine Below.setCell ?_ ?_ _ | refine Below.drew ?_ | refine Below.trans ?_ (Below.mono (unhide HB3) ?_) | refine Below.trans ?_ (Below.mono (unhide HB2) ?_) | refine Below.trans ?_ (Below.mono (unhide HB1) ?_))); all_goals (first | exact Nat.le_refl _ | omega | (simp; done) | (simp; omega))))).mono ?_
    rintro e w4 ⟨rfl, hb4⟩
    obtain ⟨hc4, hf4, hz4⟩ := lies hb4
    try simp at hz4
    have HB4 := hide hb4
    clear hb4
    go_wp2
    go_ret
    exact ⟨rfl, (by (repeat' (first | exact Below.refl _ _ | refine Below.alloc ?_ ?_ _ | refine Below.setCell ?_ ?_ _ | refine Below.drew ?_ | refine Below.trans ?_ (Below.mono (unhide HB4) ?_) | refine Below.trans ?_ (Below.mono (unhide HB3) ?_) | refine Below.trans ?_ (Below.mono (unhide HB2) ?_) | refine Below.trans ?_ (Below.mono (unhide HB1) ?_))); all_goals (first | exact Nat.le_refl _ | omega | (simp; done) | (simp; omega)))⟩
  · have hm' : t < 100000 := by omega
    have hn : (t == 100000) = false := by simp [hm]
    rw [TokenM.check_made h ha ((TokenM.timeB_iff _).2 (by omega)) rfl, if_pos rfl, if_neg (by omega), if_pos (by omega)] at C2
    clear h ha ht hm
    generalize TagM.tag key [1, a, t] = g at C C1 C2
    go_enter Tryd.func6, Tryd.ntmps6
    go_wp2_with fail
    refine (unhide C _).mono ?_
    rintro e w1 ⟨rfl, hb1⟩
    obtain ⟨hc1, hf1, hz1⟩ := lies hb1
    try simp at hz1
    have HB1 := hide hb1
    clear hb1
    have g10 : w.heap.size < w1.heap.size := by omega
    go_wp2_with fail
    refine (unhide C2 _).mono ?_
    rintro e w2 ⟨rfl, hb2⟩
    obtain ⟨hc2, hf2, hz2⟩ := lies hb2
    try simp at hz2
    have HB2 := hide hb2
    clear hb2
    have g20 : w.heap.size < w2.heap.size := by omega
    have g21 : w1.heap.size < w2.heap.size := by omega
    go_wp2_with fail
    refine (unhide C1 _).mono ?_
    rintro e w3 ⟨rfl, hb3⟩
    obtain ⟨hc3, hf3, hz3⟩ := lies hb3
    try simp at hz3
    have HB3 := hide hb3
    clear hb3
    have g30 : w.heap.size < w3.heap.size := by omega
    have g31 : w1.heap.size < w3.heap.size := by omega
    go_wp2_with fail
    refine (same_any _ _ _ ((unhide HG).later (by (repeat' (first | exact Below.refl _ _ | refine Below.alloc ?_ ?_ _ | refine Below.setCell ?_ ?_ _ | refine Below.drew ?_ | refine Below.trans ?_ (Below.mono (unhide HB3) ?_) | refine Below.trans ?_ (Below.mono (unhide HB2) ?_) | refine Below.trans ?_ (Below.mono (unhide HB1) ?_))); all_goals (first | exact Nat.le_refl _ | omega | (simp; done) | (simp; omega))))).mono ?_
    rintro e w4 ⟨rfl, hb4⟩
    obtain ⟨hc4, hf4, hz4⟩ := lies hb4
    try simp at hz4
    have HB4 := hide hb4
    clear hb4
    go_wp2
    go_ret
    exact ⟨rfl, (by (repeat' (first | exact Below.refl _ _ | refine Below.alloc ?_ ?_ _ | refine Below.setCell ?_ ?_ _ | refine Below.drew ?_ | refine Below.trans ?_ (Below.mono (unhide HB4) ?_) | refine Below.trans ?_ (Below.mono (unhide HB3) ?_) | refine Below.trans ?_ (Below.mono (unhide HB2) ?_) | refine Below.trans ?_ (Below.mono (unhide HB1) ?_))); all_goals (first | exact Nat.le_refl _ | omega | (simp; done) | (simp; omega)))⟩

theorem walk (a0_0 a0_1 a0_2 : Int) (a1 a2 : Int) (w : World) (w0_0 : (Lit.int .i64 a0_0).wf = true) (w0_1 : (Lit.int .i64 a0_1).wf = true) (w0_2 : (Lit.int .i64 a0_2).wf = true) (w1 : (Lit.int .i64 a1).wf = true) (w2 : (Lit.int .i64 a2).wf = true) (hg : ErrType w) :
    Calls Tryd.prog 6 #[.agg #[.int .i64 a0_0, .int .i64 a0_1, .int .i64 a0_2], .int .i64 a1, .int .i64 a2] w fun e w' => e = .returned (.bool true) ∧ Below w.heap.size w w' := by
  by_cases h : TokenM.makeErr a0_0 a0_1 a0_2 a1 a2 = 0
  · exact walk_good w h hg
  · exact walk_bad w h


theorem gErr : Tryd.prog.globalNamed "errors.errorType" = some 0 := by kernel_rfl
theorem rtErr : (Tryd.prog.cutTypes.find? (·.1 == "internal/reflectlite.rtype")).map (·.2) = some 78 := by kernel_rfl
theorem oneRow : ((List.range 121).filter fun t => Tryd.prog.rowNamed t [101, 114, 114, 111, 114]) = [25] := by kernel_rfl
theorem sizeT : Tryd.prog.types.size = 121 := by kernel_rfl
theorem handle_of_laid {W : World} (h : laidMetH Tryd.prog Rows.tokenNowRow.laid W) : ErrType W := by
  have h' : laidMet Tryd.prog [] W ∧ handlesMet Tryd.prog Rows.tokenNowRow.laid W := h
  obtain ⟨name, u, ty, e1, e2, e3, e4, e5⟩ := h'.2 _ (List.mem_singleton.2 rfl)
  have en : name = [101, 114, 114, 111, 114] := (Option.some.inj e1).symm
  subst en
  obtain rfl := Option.some.inj (rtErr.symm.trans e2)
  have hm : ty ∈ (List.range 121).filter fun t => Tryd.prog.rowNamed t [101, 114, 114, 111, 114] := List.mem_filter.2 ⟨List.mem_range.2 (by rw [← sizeT]; exact e3), e4⟩
  rw [oneRow] at hm
  obtain rfl := List.mem_singleton.1 hm
  have hh : typeHandle Tryd.prog 25 = .pointer (some ⟨1, 25, none⟩) := by kernel_rfl
  rw [hh] at e5
  unfold ErrType
  simpa using World.var?_cell gErr e5 0
theorem door_met (os : Os) (args : Array Value) : laidMetH Tryd.prog Rows.tokenNowRow.laid ((World.doorLaid Tryd.prog 400 os).forCall (fun _ _ => 0) ⟨#[], args, []⟩).memory :=
  laidMetH_of_parts (laidMet_nil _ _) (by kernel_rfl)


set_option maxRecDepth 100000 in
theorem lifted (os : Os) (started : os.Started) (H : Type) (enc : TypeId × Value → H) :
    ReturnsInHanded {} Tryd.checked os 6 .any (fun w args => (Rows.tokenNowSpec.pre enc Tryd.prog Tryd.f6 [] false w args ∧ laidMetH Tryd.prog Rows.tokenNowRow.laid w) ∧ sizedMet enc Tryd.prog Tryd.f6 (OpenSpec.ofChange Rows.tokenNowSpec) false w args) (Rows.tokenNowSpec.post enc Tryd.prog Tryd.f6 false true false false) := by
  refine returnsInHanded_of_change_and (C := Tryd.checked) (X := fun w _ => laidMetH Tryd.prog Rows.tokenNowRow.laid w) (fun _ _ _ hh h => h.of_heap hh) own started (by kernel_rfl) Tryd.func6
    (ChangeSpec.witness_shaped (enc := enc) (C := Tryd.checked) (os := os) (X := fun w _ => laidMetH Tryd.prog Rows.tokenNowRow.laid w) false (World.doorLaid Tryd.prog 400 os) #[.agg #[.int .i64 0, .int .i64 0, .int .i64 0], .int .i64 0, .int .i64 0] 8 rfl (World.shaped_of_RefB (by kernel_rfl) (by kernel_rfl)) (by kernel_rfl) (by kernel_rfl) (by kernel_rfl) (door_met os _)) ?_
  intro W base args ds gs before hval0 hW _ hsz hL _
  have hg := handle_of_laid hL
  have hval : ∀ (j : Nat) t v, Tryd.f6.params[j]? = some t → args[j]? = some v → Value.okWide Tryd.prog W .any base t v := hval0
  have hW' := hW
  obtain ⟨p, q, hA0, hV, rfl, hfz, hnd⟩ := hW
  have hA : DataW.TrodAll enc Tryd.prog W 0 (fun _ => true) true Tryd.f6.params.toList args.toList ds p := hA0
  rw [Tryd.params6] at hA hval
  obtain ⟨v0, vs0, d0, ds0, p0, q0, hargs, rfl, rfl, h0, r0⟩ := trodAll_cons hA
  obtain ⟨v1, vs1, d1, ds1, p1, q1, rfl, rfl, rfl, h1, r1⟩ := trodAll_cons r0
  obtain ⟨v2, vs2, d2, ds2, p2, q2, rfl, rfl, rfl, h2, r2⟩ := trodAll_cons r1
  obtain ⟨rfl, rfl, rfl⟩ := trodAll_nil r2
  obtain rfl : args = #[v0, v1, v2] := by cases args; simp_all
  obtain ⟨rfl, rfl⟩ := trodVars_none hV
  have k0 := h0
  have lt0 : ∀ x ∈ p0, x.block < W.heap.size := by obtain ⟨m, hm⟩ := k0; exact DataW.trod_lt m _ _ _ hm
  obtain ⟨c0_0, c0_1, c0_2, y0_0, y0_1, y0_2, m0, rfl, rfl, rfl, g0_0, g0_1, g0_2⟩ := open_agg3 Tryd.underlying23 (by kernel_rfl) (by kernel_rfl) (hval 0 23 v0 rfl rfl) h0
  obtain ⟨a0_0, e0_0, rfl, w0_0⟩ := DataW.trod_int Tryd.underlying3 g0_0
  simp at e0_0; subst e0_0
  obtain ⟨a0_1, e0_1, rfl, w0_1⟩ := DataW.trod_int Tryd.underlying3 g0_1
  simp at e0_1; subst e0_1
  obtain ⟨a0_2, e0_2, rfl, w0_2⟩ := DataW.trod_int Tryd.underlying3 g0_2
  simp at e0_2; subst e0_2
  have k1 := h1
  have lt1 : ∀ x ∈ p1, x.block < W.heap.size := by obtain ⟨m, hm⟩ := k1; exact DataW.trod_lt m _ _ _ hm
  obtain ⟨a1, rfl, rfl, rfl, w1⟩ := open_int Tryd.underlying3 (hval 1 3 v1 rfl rfl) h1
  have k2 := h2
  have lt2 : ∀ x ∈ p2, x.block < W.heap.size := by obtain ⟨m, hm⟩ := k2; exact DataW.trod_lt m _ _ _ hm
  obtain ⟨a2, rfl, rfl, rfl, w2⟩ := open_int Tryd.underlying3 (hval 2 3 v2 rfl rfl) h2
  clear hA0 hval0
  refine (walk a0_0 a0_1 a0_2 a1 a2 W w0_0 w0_1 w0_2 w1 w2 hg).mono fun e W' ⟨he, bel⟩ => ?_
  subst he
  exact ⟨_, rfl, _, _, _, [], _, [], hW', trodAll_mk1 (shut_bool Tryd.underlying4 _), (trodAll_cons_mk (Below.trod laidOut (by kernel_rfl) (of_decide_eq_true (by kernel_rfl)) k0 bel lt0) (trodAll_cons_mk (Below.trod laidOut (by kernel_rfl) (of_decide_eq_true (by kernel_rfl)) k1 bel lt1) (trodAll_cons_mk (Below.trod laidOut (by kernel_rfl) (of_decide_eq_true (by kernel_rfl)) k2 bel lt2) trodAll_mk0))), rfl, bel.frame _, fun h => by cases h⟩

theorem over : Rows.tokenNowRow.holds Tryd.pinned (OpenSpec.ofChange Rows.tokenNowSpec) :=
  OpenClaim.holds_of_wide 6 Tryd.f6 rfl rfl rfl rfl rfl rfl rfl ⟨rfl, rfl, rfl, rfl, rfl⟩ rfl rfl rfl rfl rfl (by kernel_rfl) Tryd.func6 (by kernel_rfl)
    (of_decide_eq_true (by kernel_rfl)) (by unfold Func.isWrapper; first | (rw [if_pos (by decide +kernel)]; kernel_rfl) | (rw [if_neg (by decide +kernel)]; exact ⟨rfl, rfl⟩))
    (fun os started H enc _ => lifted os started H enc)

theorem card : Rows.TokenNowCardSaid :=
  Claim7.holds_tied_plain_at .later [] [.handle] true (true, "ae94f0243eb5a1da57b94b873cf515495c8440656b678c75f24e134e92a066a1") true
    over (fun _ h => by cases h) (by kernel_rfl) (fun _ h => by cases h) tokenNow_row_tie rfl ⟨rfl, rfl⟩ (by kernel_rfl) rfl
    (fun f fn hf hfn => by
      obtain rfl : f = 6 := Option.some.inj ((show Tryd.prog.funcNamed "tokenfold/foldlaw4.TokenNow" = some 6 by kernel_rfl).symm.trans hf) |>.symm
      obtain rfl : fn = Tryd.f6 := (Option.some.inj (Tryd.func6.symm.trans hfn)).symm
      exact ⟨by kernel_rfl, fun j t ht => by
        rw [Tryd.params6] at ht
        have hm : t ∈ [23, 3, 3] := by simpa using Array.mem_of_getElem? ht
        have hall : ([23, 3, 3].all fun u => !Tryd.prog.wantsStandIn u) = true := by kernel_rfl
        exact (show Tryd.prog.wantsStandIn t = false by simpa using List.all_eq_true.1 hall t hm)⟩)
    (by kernel_rfl)

end Go.Proofs.YtdbhkfanchjjbabDoor.tokenNow
namespace Go.Proofs.YtdbhkfanchjjbabDoor
theorem tokenNow_holds : Rows.TokenNowCardSaid := tokenNow.card
#print axioms tokenNow_holds
end Go.Proofs.YtdbhkfanchjjbabDoor

