/-
  RunBegins: a beginning of a session is answered by a beginning of its answers.
-/
import Derived.Test.YthaicpepgianpakGreatDoorJoinedRunLaid
namespace Go.Proofs.YthaicpepgianpakGreatDoor.runBegins
open Go.ChangeShapes Go.WideShapes Go.ChangeAt Go.RowKit Go.Joins
set_option linter.unusedVariables false

theorem own : ownKnob Tryz.prog.godebug = none := by kernel_rfl
theorem laidOut : laidOutB Tryz.prog = true := by kernel_rfl
def IsRow (k : IntKind) (w : World) (a : Option Addr) (len cap : Nat) (zs : List Int) : Prop :=
  (a = none ∧ len = 0 ∧ cap = 0 ∧ zs = []) ∨
  ∃ x, a = some x ∧ len ≤ cap ∧ cap ≤ maxLen ∧ zs.length = cap ∧ (∀ i, i < zs.length → w.cell? (x.add i) = some (.int k (zs.getD i 0))) ∧ ∀ n ∈ zs, (Lit.int k n).wf = true
def IsStrs (w : World) (a : Option Addr) (len cap : Nat) (zs : List ByteArray) : Prop :=
  (a = none ∧ len = 0 ∧ cap = 0 ∧ zs = []) ∨
  ∃ x, a = some x ∧ len ≤ cap ∧ cap ≤ maxLen ∧ zs.length = cap ∧ (∀ i, i < zs.length → w.cell? (x.add i) = some (.string (zs.getD i ByteArray.empty))) ∧ ∀ s ∈ zs, s.size ≤ maxLen
def IsPairs (w : World) (a : Option Addr) (len cap : Nat) (zs : List (Int × Int)) : Prop :=
  (a = none ∧ len = 0 ∧ cap = 0 ∧ zs = []) ∨
  ∃ x, a = some x ∧ len ≤ cap ∧ cap ≤ maxLen ∧ zs.length = cap ∧ ∀ i, i < cap → w.cell? (x.add (i * 2)) = some (.int .i64 (zs.getD i (0, 0)).1) ∧ w.cell? (x.add (i * 2 + 1)) = some (.int .i64 (zs.getD i (0, 0)).2)
def IsRows (w : World) (a : Option Addr) (len cap : Nat) (A : Nat → Option Addr) (L C : Nat → Nat) (Z : Nat → List Int) : Prop :=
  (a = none ∧ len = 0 ∧ cap = 0) ∨
  ∃ x, a = some x ∧ len ≤ cap ∧ cap ≤ maxLen ∧ ∀ r, r < cap → w.cell? (x.add r) = some (.slice (A r) (L r) (C r)) ∧ L r ≤ C r ∧ C r ≤ maxLen ∧ (Z r).length = C r ∧ (∀ n ∈ Z r, (Lit.int .i64 n).wf = true) ∧ (A r = none → C r = 0) ∧
    ∀ a', A r = some a' → ∀ c, c < C r → w.cell? (a'.add c) = some (.int .i64 ((Z r).getD c 0))

open Go.PlainAid

def fact : ByteArray := ⟨#[104, 101, 108, 108, 111, 32, 51, 32, 53, 10, 119, 97, 105, 116, 105, 110, 103, 10, 112, 117, 108, 108, 10, 112, 117, 108, 108, 10, 102, 108, 121, 10, 116, 117, 114, 110, 10, 99, 114, 97, 115, 104, 10, 104, 101, 108, 108, 111, 32, 51, 10, 119, 97, 105, 116, 105, 110, 103, 10]⟩
theorem fact_run : RunM.bs (RunM.run fact.data.toList) = ⟨#[119, 101, 108, 99, 111, 109, 101, 32, 50, 49, 56, 52, 53, 10, 49, 10, 50, 49, 56, 52, 53, 10, 69, 114, 114, 78, 111, 110, 101, 10, 98, 97, 100, 10, 111, 107, 10, 111, 107, 10, 98, 97, 100, 10, 48, 10]⟩ := by kernel_rfl
theorem bt_ten {t : ByteArray} {k : Nat} (h : k < t.size) (e : bt t k = 10) : t.data.toList[k]? = some 10 := by
  unfold bt at e
  rw [dif_pos h] at e
  have h2 : k < t.data.toList.length := by rw [← Go.Lib.size_eq]; exact h
  rw [List.getElem?_eq_getElem h2]
  have h3 : (t[k]'h) = t.data.toList[k]'h2 := by simp [ByteArray.getElem_eq_getElem_data]
  rw [h3] at e
  exact congrArg some (UInt8.toNat_inj.1 (by have e10 : (10 : UInt8).toNat = 10 := rfl; omega))
set_option maxRecDepth 8000 in
theorem walk_long (t : ByteArray) (m : Int) (w : World) (ht : t.size ≤ maxLen) (hlong : 3000 < t.size) (hg : Laid w) :
    Calls Tryz.prog 4 #[.string t, .int .i64 m] w fun e w' => e = .returned (.bool true) ∧ Below w.heap.size w w' := by
  have HG := hide hg
  clear hg
  have hlt : ¬ (t.size : Int) ≤ 3000 := by omega
  have C1 := hide (fun W => run_any fact W (by decide))
  rw [fact_run] at C1
  go_enter Tryz.func4, Tryz.ntmps4
  go_wp2_with fail
  refine (unhide C1 _ (unhide HG)).mono ?_
  rintro e w1 ⟨rfl, hb1⟩
  have HB1 := hide hb1
  go_wp2_with fail
  have CL := run_long t w1 hlong ht
  rw [show RunM.bs RunM.tLong = ⟨#[116, 111, 111, 32, 108, 111, 110, 103, 10]⟩ from rfl] at CL
  refine CL.mono ?_
  rintro e w2 ⟨rfl, rfl⟩
  go_wp2
  go_ret
  exact ⟨rfl, unhide HB1⟩
set_option maxRecDepth 8000 in
set_option maxHeartbeats 1000000 in
theorem walk_short (t : ByteArray) (m : Int) (w : World) (hshort : t.size ≤ 3000) (hm : (Lit.int .i64 m).wf = true) (hg : Laid w) :
    Calls Tryz.prog 4 #[.string t, .int .i64 m] w fun e w' => e = .returned (.bool true) ∧ Below w.heap.size w w' := by
  have HG := hide hg
  clear hg
  have hlt : (t.size : Int) ≤ 3000 := by omega
  have C1 := hide (fun W => run_any fact W (by decide))
  rw [fact_run] at C1
  go_enter Tryz.func4, Tryz.ntmps4
  go_wp2_with fail
  refine (unhide C1 _ (unhide HG)).mono ?_
  rintro e w1 ⟨rfl, hb1⟩
  have HB1 := hide hb1
  have HL1 := hide ((unhide HG).later hb1)
  clear hb1 C1
  have hbt := get_bt t
  go_wp2
  go_loop [7, 8] (fun a b => ∃ k n : Nat, a = .int .i64 k ∧ b = .int .i64 n ∧ k ≤ t.size ∧ n ≤ k ∧ Hid ((n : Int) < m ∨ k = 0 ∨ (0 < k ∧ t.data.toList[k - 1]? = some 10))) (fun a _ => t.size - (intOf a).toNat)
  case atStart => exact ⟨0, 0, rfl, rfl, Nat.zero_le _, Nat.zero_le _, hide (.inr (.inl rfl))⟩
  case round =>
    obtain ⟨k, n, rfl, rfl, hk, hn, HK⟩ := hrel
    by_cases hend : k < t.size ∧ (n : Int) < m
    · obtain ⟨h1, h2⟩ := hend
      by_cases h10 : bt t k = 10
      · have HK2 := hide (show ((n + 1 : Nat) : Int) < m ∨ k + 1 = 0 ∨ (0 < k + 1 ∧ t.data.toList[k + 1 - 1]? = some 10) from .inr (.inr ⟨by omega, by rw [Nat.add_sub_cancel]; exact bt_ten h1 h10⟩))
        go_wp2
        go_round
        case rel => exact ⟨k + 1, n + 1, by simp, by simp, by omega, by omega, HK2⟩
        case measure => simp [intOf]; omega
      · have HK2 := hide (show (n : Int) < m ∨ k + 1 = 0 ∨ (0 < k + 1 ∧ t.data.toList[k + 1 - 1]? = some 10) from .inl h2)
        go_wp2
        go_round
        case rel => exact ⟨k + 1, n, by simp, rfl, by omega, by omega, HK2⟩
        case measure => simp [intOf]; omega
    · have HB := hide (show k = 0 ∨ (0 < k ∧ t.data.toList[k - 1]? = some 10) ∨ t.data.toList.length ≤ k by
        have hz := Go.Lib.size_eq t
        rcases unhide HK with h | h | h
        · exact .inr (.inr (by omega))
        · exact .inl h
        · exact .inr (.inl h))
      have hx : (t.extract 0 k).data.toList = t.data.toList.take k := Go.Lib.extract_from_zero t k
      obtain ⟨r, hr⟩ := RunM.run_begins t.data.toList k (by have := Go.Lib.size_eq t; omega) (unhide HB)
      have CA := hide (fun W => run_any (t.extract 0 k) W (by have h1 := Go.Lib.size_eq (t.extract 0 k); rw [hx, List.length_take] at h1; have h2 := Go.Lib.size_eq t; unfold maxLen; omega))
      have CB := hide (fun W => run_any t W (by unfold maxLen; omega))
      rw [hx] at CA
      have hsa := RunM.run_size (t.data.toList.take k)
      have hsb := RunM.run_size t.data.toList
      have hab : RunM.bs (RunM.run t.data.toList) = RunM.bs (RunM.run (t.data.toList.take k)) ++ RunM.bs r := by rw [hr, RunM.bs_append]
      have hle : (RunM.bs (RunM.run (t.data.toList.take k))).size ≤ (RunM.bs (RunM.run t.data.toList)).size := by rw [hab, ByteArray.size_append]; omega
      have hcut : (RunM.bs (RunM.run t.data.toList)).extract 0 (RunM.bs (RunM.run (t.data.toList.take k))).size = RunM.bs (RunM.run (t.data.toList.take k)) := by
        rw [hab]
        apply ByteArray.ext
        rw [← Array.toList_inj, Go.Lib.extract_from_zero, ByteArray.data_append, Array.toList_append]
        exact List.take_left' (Go.Lib.size_eq _).symm
      rw [← RunM.bs_size] at hsa hsb
      clear hab hr hx HK HB
      generalize RunM.bs (RunM.run t.data.toList) = b at *
      generalize RunM.bs (RunM.run (t.data.toList.take k)) = a at *
      have hle' : (a.size : Int) ≤ (b.size : Int) := by omega
      have hslice : (0 : Int) ≤ (k : Int) ∧ (k : Int) ≤ (t.size : Int) := by omega
      have HCUT := hide hcut
      clear hcut
      by_cases hkt : k < t.size
      · have hnm : m ≤ (n : Int) := by omega
        have hnm' : ¬ (n : Int) < m := by omega
        clear hend
        go_wp2_with fail
        refine (unhide CA _ (unhide HL1)).mono ?_
        rintro e w2 ⟨rfl, hb2⟩
        have HB2 := hide ((unhide HB1).trans (hb2.mono (unhide HB1).size))
        have HL2 := hide ((unhide HL1).later hb2)
        clear hb2
        go_wp2_with fail
        refine (unhide CB _ (unhide HL2)).mono ?_
        rintro e w3 ⟨rfl, hb3⟩
        have HB3 := hide ((unhide HB2).trans (hb3.mono (unhide HB2).size))
        clear hb3
        have hcut := unhide HCUT
        go_wp2
        go_ret
        exact ⟨rfl, unhide HB3⟩
      · have hkt' : ¬ (k : Int) < (t.size : Int) := by omega
        have hkt2 : (t.size : Int) ≤ (k : Int) := by omega
        clear hend
        go_wp2_with fail
        refine (unhide CA _ (unhide HL1)).mono ?_
        rintro e w2 ⟨rfl, hb2⟩
        have HB2 := hide ((unhide HB1).trans (hb2.mono (unhide HB1).size))
        have HL2 := hide ((unhide HL1).later hb2)
        clear hb2
        go_wp2_with fail
        refine (unhide CB _ (unhide HL2)).mono ?_
        rintro e w3 ⟨rfl, hb3⟩
        have HB3 := hide ((unhide HB2).trans (hb3.mono (unhide HB2).size))
        clear hb3
        have hcut := unhide HCUT
        go_wp2
        go_ret
        exact ⟨rfl, unhide HB3⟩
theorem walk (a0 : ByteArray) (a1 : Int) (w : World) (w0 : a0.size ≤ maxLen) (w1 : (Lit.int .i64 a1).wf = true) (hg : Laid w) :
    Calls Tryz.prog 4 #[.string a0, .int .i64 a1] w fun e w' => e = .returned (.bool true) ∧ Below w.heap.size w w' := by
  by_cases h : 3000 < a0.size
  · exact walk_long a0 a1 w w0 h hg
  · exact walk_short a0 a1 w (by omega) w1 hg

set_option maxRecDepth 100000 in
theorem lifted (os : Os) (started : os.Started) (H : Type) (enc : TypeId × Value → H) :
    ReturnsInHanded {} Tryz.checked os 4 .any (fun w args => (Rows.runBeginsSpec.pre enc Tryz.prog Tryz.f4 [] false w args ∧ laidMetH Tryz.prog Rows.runBeginsRow.laid w) ∧ sizedMet enc Tryz.prog Tryz.f4 (OpenSpec.ofChange Rows.runBeginsSpec) false w args) (Rows.runBeginsSpec.post enc Tryz.prog Tryz.f4 false true false false) := by
  refine returnsInHanded_of_change_and (C := Tryz.checked) (X := fun w _ => laidMetH Tryz.prog Rows.runBeginsRow.laid w) (fun _ _ _ hh h => h.of_heap hh) own started (by kernel_rfl) Tryz.func4
    (ChangeSpec.witness_shaped (enc := enc) (C := Tryz.checked) (os := os) (X := fun w _ => laidMetH Tryz.prog Rows.runBeginsRow.laid w) false ((((World.holding Tryz.prog os ⟨#[], #[], []⟩).setCell ⟨0, 0, none⟩ (.iface 161 (.agg #[.pointer (some ⟨9, 36, none⟩)]))).layVars Tryz.prog laid7)) #[.string ByteArray.empty, .int .i64 0] 8 (wit_os os) (wit_shaped os) (by kernel_rfl) (by kernel_rfl) (by kernel_rfl) (wit_met os _)) ?_
  intro W base args ds gs before hval0 hW _ hsz hL _
  have hg := laid_of hL
  have hval : ∀ (j : Nat) t v, Tryz.f4.params[j]? = some t → args[j]? = some v → Value.okWide Tryz.prog W .any base t v := hval0
  have hW' := hW
  obtain ⟨p, q, hA0, hV, rfl, hfz, hnd⟩ := hW
  have hA : DataW.TrodAll enc Tryz.prog W 0 (fun _ => true) true Tryz.f4.params.toList args.toList ds p := hA0
  rw [Tryz.params4] at hA hval
  obtain ⟨v0, vs0, d0, ds0, p0, q0, hargs, rfl, rfl, h0, r0⟩ := trodAll_cons hA
  obtain ⟨v1, vs1, d1, ds1, p1, q1, rfl, rfl, rfl, h1, r1⟩ := trodAll_cons r0
  obtain ⟨rfl, rfl, rfl⟩ := trodAll_nil r1
  obtain rfl : args = #[v0, v1] := by cases args; simp_all
  obtain ⟨rfl, rfl⟩ := trodVars_none hV
  have k0 := h0
  have lt0 : ∀ x ∈ p0, x.block < W.heap.size := by obtain ⟨m, hm⟩ := k0; exact DataW.trod_lt m _ _ _ hm
  obtain ⟨a0, rfl, rfl, rfl, w0⟩ := Go.ChangeMaps.open_string Tryz.underlying9 (hval 0 9 v0 rfl rfl) h0
  have k1 := h1
  have lt1 : ∀ x ∈ p1, x.block < W.heap.size := by obtain ⟨m, hm⟩ := k1; exact DataW.trod_lt m _ _ _ hm
  obtain ⟨a1, rfl, rfl, rfl, w1⟩ := open_int Tryz.underlying3 (hval 1 3 v1 rfl rfl) h1
  clear hA0 hval0
  refine (walk a0 a1 W w0 w1 hg).mono fun e W' ⟨he, bel⟩ => ?_
  subst he
  exact ⟨_, rfl, _, _, _, [], _, [], hW', trodAll_mk1 (shut_bool Tryz.underlying4 _), (trodAll_cons_mk (Below.trod laidOut (by kernel_rfl) (of_decide_eq_true (by kernel_rfl)) k0 bel lt0) (trodAll_cons_mk (Below.trod laidOut (by kernel_rfl) (of_decide_eq_true (by kernel_rfl)) k1 bel lt1) trodAll_mk0)), rfl, bel.frame _, fun h => by cases h⟩

theorem over : Rows.runBeginsRow.holds Tryz.pinned (OpenSpec.ofChange Rows.runBeginsSpec) :=
  OpenClaim.holds_of_wide 4 Tryz.f4 rfl rfl rfl rfl rfl rfl rfl ⟨rfl, rfl, rfl, rfl, rfl⟩ rfl rfl rfl rfl rfl (by kernel_rfl) Tryz.func4 (by kernel_rfl)
    (of_decide_eq_true (by kernel_rfl)) (by unfold Func.isWrapper; first | (rw [if_pos (by decide +kernel)]; kernel_rfl) | (rw [if_neg (by decide +kernel)]; exact ⟨rfl, rfl⟩))
    (fun os started H enc _ => lifted os started H enc)

theorem card : Rows.RunBeginsCardSaid :=
  Claim7.holds_tied_plain_at .later [] [.data, .data, .data, .data, .handle, .sentinel, .sentinel, .pinned] true (true, "32b8a9a2f0776cf7a650711f97011914424dc793326f1df7f7c205b30c1ecdfd") true
    over (fun _ h => by cases h) (by kernel_rfl) (fun _ h => by cases h) runBegins_row_tie rfl ⟨rfl, rfl⟩ (by kernel_rfl) rfl
    (fun f fn hf hfn => by
      obtain rfl : f = 4 := Option.some.inj ((show Tryz.prog.funcNamed "tokenfold/foldlaw3.RunBegins" = some 4 by kernel_rfl).symm.trans hf) |>.symm
      obtain rfl : fn = Tryz.f4 := (Option.some.inj (Tryz.func4.symm.trans hfn)).symm
      exact ⟨by kernel_rfl, fun j t ht => by
        rw [Tryz.params4] at ht
        have hm : t ∈ [9, 3] := by simpa using Array.mem_of_getElem? ht
        have hall : ([9, 3].all fun u => !Tryz.prog.wantsStandIn u) = true := by kernel_rfl
        exact (show Tryz.prog.wantsStandIn t = false by simpa using List.all_eq_true.1 hall t hm)⟩)
    (by kernel_rfl)

end Go.Proofs.YthaicpepgianpakGreatDoor.runBegins
namespace Go.Proofs.YthaicpepgianpakGreatDoor
theorem runBegins_holds : Rows.RunBeginsCardSaid := runBegins.card
#print axioms runBegins_holds
end Go.Proofs.YthaicpepgianpakGreatDoor

