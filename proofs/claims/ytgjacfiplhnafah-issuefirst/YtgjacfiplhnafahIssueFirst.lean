/-
  IssueFirst holds for every ring and every time: the first ticket bears number 0, the next number 1, and where the first is refused none was issued. No condition.
-/
import Derived.Test.YtgjacfiplhnafahIssueWalks
import Derived.ProofKit
import Derived.Lib.SmallJoins
namespace Go.Proofs.Ytgjacfiplhnafah.issueFirst
open Go.ChangeShapes Go.WideShapes Go.ChangeAt Go.RowKit Go.Joins
set_option linter.unusedVariables false

theorem own : ownKnob Try.prog.godebug = none := by kernel_rfl
theorem laidOut : laidOutB Try.prog = true := by kernel_rfl
def IsRow (k : IntKind) (w : World) (a : Option Addr) (len cap : Nat) (zs : List Int) : Prop :=
  (a = none ∧ len = 0 ∧ cap = 0 ∧ zs = []) ∨
  ∃ x, a = some x ∧ len ≤ cap ∧ cap ≤ maxLen ∧ zs.length = cap ∧ (∀ i, i < zs.length → w.cell? (x.add i) = some (.int k (zs.getD i 0))) ∧ ∀ n ∈ zs, (Lit.int k n).wf = true
def IsStrs (w : World) (a : Option Addr) (len cap : Nat) (zs : List ByteArray) : Prop :=
  (a = none ∧ len = 0 ∧ cap = 0 ∧ zs = []) ∨
  ∃ x, a = some x ∧ len ≤ cap ∧ cap ≤ maxLen ∧ zs.length = cap ∧ (∀ i, i < zs.length → w.cell? (x.add i) = some (.string (zs.getD i ByteArray.empty))) ∧ ∀ s ∈ zs, s.size ≤ maxLen
def IsPairs (w : World) (a : Option Addr) (len cap : Nat) (zs : List (Int × Int)) : Prop :=
  (a = none ∧ len = 0 ∧ cap = 0 ∧ zs = []) ∨
  ∃ x, a = some x ∧ len ≤ cap ∧ cap ≤ maxLen ∧ zs.length = cap ∧ ∀ i, i < cap → w.cell? (x.add (i * 2)) = some (.int .i64 (zs.getD i (0, 0)).1) ∧ w.cell? (x.add (i * 2 + 1)) = some (.int .i64 (zs.getD i (0, 0)).2)
def IsRows (w : World) (a : Option Addr) (len cap : Nat) (A : Nat → Option Addr) (L C : Nat → Nat) (Z : Nat → List Int) : Prop :=
  (a = none ∧ len = 0 ∧ cap = 0) ∨
  ∃ x, a = some x ∧ len ≤ cap ∧ cap ≤ maxLen ∧ ∀ r, r < cap → w.cell? (x.add r) = some (.slice (A r) (L r) (C r)) ∧ L r ≤ C r ∧ C r ≤ maxLen ∧ (Z r).length = C r ∧ (∀ n ∈ Z r, (Lit.int .i64 n).wf = true) ∧ (A r = none → C r = 0) ∧
    ∀ a', A r = some a' → ∀ c, c < C r → w.cell? (a'.add c) = some (.int .i64 ((Z r).getD c 0))


set_option maxHeartbeats 12800000 in
set_option maxRecDepth 8000 in
theorem walk (ep key old u : Int) (w : World) (w0_0 : (Lit.int .i64 ep).wf = true) (w0_1 : (Lit.int .i64 key).wf = true) (w0_2 : (Lit.int .i64 old).wf = true) (w1' : (Lit.int .i64 u).wf = true) :
    Calls Try.prog 6 #[.agg #[.int .i64 ep, .int .i64 key, .int .i64 old], .int .i64 u] w fun e w' => e = .returned (.bool true) ∧ Below w.heap.size w w' := by
  clear w0_0 w0_1 w0_2 w1'
  by_cases he : IssueM.err ep key old u 0 = 0
  · obtain ⟨hr, hu, -⟩ := IssueM.err_zero.1 he
    obtain ⟨u0, u1⟩ := (TokenM.timeB_iff u).1 hu
    have C1 : Hid (∀ (s b : Nat) (w : World), IAt w s b 0 0 0 → Calls Try.prog 10 #[.pointer (some ⟨s, 0, none⟩), .agg #[.int .i64 ep, .int .i64 key, .int .i64 old], .int .i64 u] w fun e w' => e = .returned (.tuple #[.agg #[.int .i64 ep, .int .i64 0, .int .i64 u, .int .i64 (TagM.tag key [2, 0, u])], .nilIface]) ∧ IAt w' s b 1 8 1 ∧ Kept [s, b] w w') := hide (fun s b w h => iissue_yes s b w h hr hu (by omega) (by omega) (by omega) (by omega) (by omega) (by omega) (by omega))
    have C2 : Hid (∀ (s b : Nat) (w : World), IAt w s b 1 8 1 → Calls Try.prog 10 #[.pointer (some ⟨s, 0, none⟩), .agg #[.int .i64 ep, .int .i64 key, .int .i64 old], .int .i64 u] w fun e w' => e = .returned (.tuple #[.agg #[.int .i64 ep, .int .i64 1, .int .i64 u, .int .i64 (TagM.tag key [2, 1, u])], .nilIface]) ∧ IAt w' s b 2 8 2 ∧ Kept [s, b] w w') := hide (fun s b w h => iissue_yes s b w h hr hu (by omega) (by omega) (by omega) (by omega) (by omega) (by omega) (by omega))
    have C3 := hide (fun w => kcheck_any ep key old ep 0 u (TagM.tag key [2, 0, u]) u w)
    rw [TicketM.check_made (TokenM.make_zero.2 ⟨hr, rfl, hu⟩) hu, if_neg (by omega), errV_zero rfl] at C3
    generalize TagM.tag key [2, 0, u] = g at C1 C3
    generalize TagM.tag key [2, 1, u] = g' at C2
    clear he hr hu u0 u1
    go_enter Try.func6, Try.ntmps6
    go_wp2_with fail
    refine (inew_any _).mono ?_
    rintro e w1 ⟨s, b, rfl, hi1, hs1, ht1, hb1⟩
    simp at hs1 ht1
    have HR1 : Hid (Held w1 w.heap.size (n3 ep key old)) := hide ((Held.fresh (w := w) (n3 ep key old) 30 rfl).later hb1)
    have HI1 := hide hi1
    have HB1 := hide (show Below w.heap.size w w1 from Below.trans (by (repeat' (first | exact Below.refl _ _ | refine Below.alloc ?_ ?_ _ | refine Below.setCell ?_ ?_ _ | refine Below.drew ?_)); all_goals (first | exact Nat.le_refl _ | omega | (simp; done) | (simp; omega))) (hb1.mono (by simp)))
    have hs : w.heap.size < s := by omega
    have hb : w.heap.size < b := by omega
    clear hi1 hb1 hs1 ht1
    obtain ⟨r0, r1, r2⟩ := (unhide HR1).c3.1
    have rl := (unhide HR1).2
    go_wp2_with fail
    refine (unhide C1 s b _ (unhide HI1)).mono ?_
    rintro e w2 ⟨rfl, hi2, k2⟩
    clear r0 r1 r2 rl
    have HR2 := hide (k2.held (unhide HR1) (by simp; omega))
    have HB2 := hide (iown k2 (unhide HB1) (by omega) (by omega))
    have HI2 := hide hi2
    clear hi2 k2
    obtain ⟨r0, r1, r2⟩ := (unhide HR2).c3.1
    have rl := (unhide HR2).2
    go_wp2_with fail
    refine (unhide C2 s b _ ((unhide HI2).alloc _)).mono ?_
    rintro e w3 ⟨rfl, hi3, k3⟩
    clear r0 r1 r2 rl
    have HT3 : Hid (Held w3 w2.heap.size (n4 ep 0 u g)) := hide (k3.held (Held.fresh (w := w2) (n4 ep 0 u g) 36 rfl) (by have := (unhide HI2).lt; simp; omega))
    have HR3 := hide (k3.held ((unhide HR2).later (Below.alloc (Below.refl _ _) (Nat.le_refl _) _)) (by simp; omega))
    have HB3 := hide (iown k3 (Below.alloc (unhide HB2) (unhide HB2).size _) (by omega) (by omega))
    have HI3 := hide hi3
    clear hi3 k3
    obtain ⟨r0, r1, r2⟩ := (unhide HR3).c3.1
    have rl := (unhide HR3).2
    obtain ⟨t0, t1, t2, t3⟩ := (unhide HT3).c4.1
    have tl := (unhide HT3).2
    go_wp2_with fail
    refine (imany_any s b 2 8 2 _ ((unhide HI3).alloc _)).mono ?_
    rintro e w' ⟨rfl, hw⟩
    obtain rfl := hw.symm
    clear hw
    go_wp2_with fail
    refine (unhide C3 _).mono ?_
    rintro e w4 ⟨rfl, hb4⟩
    have HB4 := hide (show Below w.heap.size w w4 from (by have := (unhide HB3).size; exact Below.trans (by (repeat' (first | exact Below.refl _ _ | refine Below.alloc ?_ ?_ _ | refine Below.setCell ?_ ?_ _ | refine Below.drew ?_ | refine Below.trans ?_ (Below.mono (unhide HB3) ?_))); all_goals (first | exact Nat.le_refl _ | omega | (simp; done) | (simp; omega))) (hb4.mono (by first | omega | (simp; done) | (simp; omega)))))
    clear hb4
    go_wp2
    go_ret
    exact ⟨rfl, unhide HB4⟩
  · have C := hide (fun (s b : Nat) (w : World) (h : IAt w s b 0 0 0) => iissue_no s b (ep := ep) (key := key) (old := old) (u := u) w h (by omega) (by omega) he)
    generalize IssueM.err ep key old u 0 = q at C
    clear he
    go_enter Try.func6, Try.ntmps6
    go_wp2_with fail
    refine (inew_any _).mono ?_
    rintro e w1 ⟨s, b, rfl, hi1, hs1, ht1, hb1⟩
    simp at hs1 ht1
    have HR1 : Hid (Held w1 w.heap.size (n3 ep key old)) := hide ((Held.fresh (w := w) (n3 ep key old) 30 rfl).later hb1)
    have HI1 := hide hi1
    have HB1 := hide (show Below w.heap.size w w1 from Below.trans (by (repeat' (first | exact Below.refl _ _ | refine Below.alloc ?_ ?_ _ | refine Below.setCell ?_ ?_ _ | refine Below.drew ?_)); all_goals (first | exact Nat.le_refl _ | omega | (simp; done) | (simp; omega))) (hb1.mono (by simp)))
    have hs : w.heap.size < s := by omega
    have hb : w.heap.size < b := by omega
    clear hi1 hb1 hs1 ht1
    obtain ⟨r0, r1, r2⟩ := (unhide HR1).c3.1
    have rl := (unhide HR1).2
    go_wp2_with fail
    refine (unhide C s b _ (unhide HI1)).mono ?_
    rintro e w2 ⟨rfl, hi2, k2⟩
    clear r0 r1 r2 rl
    have HR2 := hide (k2.held (unhide HR1) (by simp; omega))
    have HB2 := hide (iown k2 (unhide HB1) (by omega) (by omega))
    have HI2 := hide hi2
    clear hi2 k2
    go_wp2_with fail
    refine (imany_any s b 0 0 0 _ ((unhide HI2).alloc _)).mono ?_
    rintro e w' ⟨rfl, hw⟩
    obtain rfl := hw.symm
    clear hw
    go_wp2
    go_ret
    exact ⟨rfl, Below.alloc (unhide HB2) (unhide HB2).size _⟩


set_option maxRecDepth 100000 in
theorem lifted (os : Os) (started : os.Started) (H : Type) (enc : TypeId × Value → H) :
    ReturnsInHanded {} Try.checked os 6 .any (Rows.issueFirstSpec.pre6 enc Try.prog Try.f6 Rows.issueFirstRow.domain false) (Rows.issueFirstSpec.post enc Try.prog Try.f6 false true false false) := by
  refine returnsInHanded_of_change (C := Try.checked) own started (by kernel_rfl) Try.func6
    (ChangeSpec.witness6 (enc := enc) (C := Try.checked) false ⟨#[], #[.agg #[.int .i64 0, .int .i64 0, .int .i64 0], .int .i64 0], []⟩ 8 (by kernel_rfl) (by kernel_rfl) (by kernel_rfl) (by kernel_rfl)) ?_
  intro W base args ds gs before hval0 hW hcnd _
  have hval : ∀ (j : Nat) t v, Try.f6.params[j]? = some t → args[j]? = some v → Value.okWide Try.prog W .any base t v := hval0
  have hW' := hW
  obtain ⟨p, q, hA0, hV, rfl, hfz, hnd⟩ := hW
  have hA : DataW.TrodAll enc Try.prog W 0 (fun _ => true) true Try.f6.params.toList args.toList ds p := hA0
  rw [Try.params6] at hA hval
  obtain ⟨v0, vs0, d0, ds0, p0, q0, hargs, rfl, rfl, h0, r0⟩ := trodAll_cons hA
  obtain ⟨v1, vs1, d1, ds1, p1, q1, rfl, rfl, rfl, h1, r1⟩ := trodAll_cons r0
  obtain ⟨rfl, rfl, rfl⟩ := trodAll_nil r1
  obtain rfl : args = #[v0, v1] := by cases args; simp_all
  obtain ⟨rfl, rfl⟩ := trodVars_none hV
  have k0 := h0
  have lt0 : ∀ x ∈ p0, x.block < W.heap.size := by obtain ⟨m, hm⟩ := k0; exact DataW.trod_lt m _ _ _ hm
  obtain ⟨c0_0, c0_1, c0_2, y0_0, y0_1, y0_2, m0, rfl, rfl, rfl, g0_0, g0_1, g0_2⟩ := open_agg3 Try.underlying30 (by kernel_rfl) (by kernel_rfl) (hval 0 30 v0 rfl rfl) h0
  obtain ⟨a0_0, e0_0, rfl, w0_0⟩ := DataW.trod_int Try.underlying3 g0_0
  simp at e0_0; subst e0_0
  obtain ⟨a0_1, e0_1, rfl, w0_1⟩ := DataW.trod_int Try.underlying3 g0_1
  simp at e0_1; subst e0_1
  obtain ⟨a0_2, e0_2, rfl, w0_2⟩ := DataW.trod_int Try.underlying3 g0_2
  simp at e0_2; subst e0_2
  have k1 := h1
  have lt1 : ∀ x ∈ p1, x.block < W.heap.size := by obtain ⟨m, hm⟩ := k1; exact DataW.trod_lt m _ _ _ hm
  obtain ⟨a1, rfl, rfl, rfl, w1⟩ := open_int Try.underlying3 (hval 1 3 v1 rfl rfl) h1
  clear hA0 hval0
  refine (walk a0_0 a0_1 a0_2 a1 W w0_0 w0_1 w0_2 w1).mono fun e W' ⟨he, bel⟩ => ?_
  subst he
  exact ⟨_, rfl, _, _, _, [], _, [], hW', trodAll_mk1 (shut_bool Try.underlying4 _), (trodAll_cons_mk (Below.trod laidOut (by kernel_rfl) (of_decide_eq_true (by kernel_rfl)) k0 bel lt0) (trodAll_cons_mk (Below.trod laidOut (by kernel_rfl) (of_decide_eq_true (by kernel_rfl)) k1 bel lt1) trodAll_mk0)), rfl, bel.frame _, fun h => by cases h⟩

theorem over : Rows.issueFirstRow.holds Try.pinned (OpenSpec.ofChange Rows.issueFirstSpec) :=
  OpenClaim.holds_of_wide 6 Try.f6 rfl rfl rfl rfl rfl rfl rfl ⟨rfl, rfl, rfl, rfl, rfl⟩ rfl rfl rfl rfl rfl (by kernel_rfl) Try.func6 (by kernel_rfl)
    (of_decide_eq_true (by kernel_rfl)) (by unfold Func.isWrapper; first | (rw [if_pos (by decide +kernel)]; kernel_rfl) | (rw [if_neg (by decide +kernel)]; exact ⟨rfl, rfl⟩))
    (fun os started H enc _ => lifted os started H enc)

end Go.Proofs.Ytgjacfiplhnafah.issueFirst
namespace Go.Proofs.Ytgjacfiplhnafah
theorem issueFirst_holds : Rows.IssueFirstSaid := issueFirst.over
#print axioms issueFirst_holds
end Go.Proofs.Ytgjacfiplhnafah

