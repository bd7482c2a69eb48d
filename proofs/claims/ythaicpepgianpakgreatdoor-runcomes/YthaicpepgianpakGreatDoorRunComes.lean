/-
  RunComes: a session comes again.
-/
import Derived.Test.YthaicpepgianpakGreatDoorJoinedComes
namespace Go.Proofs.YthaicpepgianpakGreatDoor.runComes
open Go.ChangeShapes Go.WideShapes Go.ChangeAt Go.RowKit Go.Joins
set_option linter.unusedVariables false

theorem own : ownKnob Tryz.prog.godebug = none := by kernel_rfl
theorem laidOut : laidOutB Tryz.prog = true := by kernel_rfl
def IsRow (k : IntKind) (w : World) (a : Option Addr) (len cap : Nat) (zs : List Int) : Prop :=
  (a = none ∧ len = 0 ∧ cap = 0 ∧ zs = []) ∨
  ∃ x, a = some x ∧ len ≤ cap ∧ cap ≤ maxLen ∧ zs.length = cap ∧ (∀ i, i < zs.length → w.cell? (x.add i) = some (.int k (zs.getD i 0))) ∧ ∀ n ∈ zs, (Lit.int k n).wf = true
def IsStrs (w : World) (a : Option Addr) (len cap : Nat) (zs : List ByteArray) : Prop :=
  (a = none ∧ len = 0 ∧ cap = 0 ∧ zs = []) ∨
  ∃ x, a = some x ∧ len ≤ cap ∧ cap ≤ maxLen ∧ zs.length = cap ∧ (∀ i, i < zs.length → w.cell? (x.add i) = some (.string (zs.getD i ByteArray.empty))) ∧ ∀ s ∈ zs, s.size ≤ maxLen
def IsPairs (w : World) (a : Option Addr) (len cap : Nat) (zs : List (Int × Int)) : Prop :=
  (a = none ∧ len = 0 ∧ cap = 0 ∧ zs = []) ∨
  ∃ x, a = some x ∧ len ≤ cap ∧ cap ≤ maxLen ∧ zs.length = cap ∧ ∀ i, i < cap → w.cell? (x.add (i * 2)) = some (.int .i64 (zs.getD i (0, 0)).1) ∧ w.cell? (x.add (i * 2 + 1)) = some (.int .i64 (zs.getD i (0, 0)).2)
def IsRows (w : World) (a : Option Addr) (len cap : Nat) (A : Nat → Option Addr) (L C : Nat → Nat) (Z : Nat → List Int) : Prop :=
  (a = none ∧ len = 0 ∧ cap = 0) ∨
  ∃ x, a = some x ∧ len ≤ cap ∧ cap ≤ maxLen ∧ ∀ r, r < cap → w.cell? (x.add r) = some (.slice (A r) (L r) (C r)) ∧ L r ≤ C r ∧ C r ≤ maxLen ∧ (Z r).length = C r ∧ (∀ n ∈ Z r, (Lit.int .i64 n).wf = true) ∧ (A r = none → C r = 0) ∧
    ∀ a', A r = some a' → ∀ c, c < C r → w.cell? (a'.add c) = some (.int .i64 ((Z r).getD c 0))

open Go.PlainAid

def far : ByteArray := ⟨#[104, 101, 108, 108, 111, 32, 51, 32, 57, 57, 57, 57, 57, 57, 10]⟩
theorem far_run : RunM.bs (RunM.run far.data.toList) = ⟨#[69, 114, 114, 82, 97, 110, 103, 101, 10]⟩ := by kernel_rfl
set_option maxRecDepth 8000 in
theorem walk_far (a b c : Int) (w : World) (h : a < 0 ∨ 900000 < a ∨ b < 0 ∨ 90000 < b ∨ c < 0 ∨ 50 < c) (hg : Laid w) :
    Calls Tryz.prog 5 #[.int .i64 a, .int .i64 b, .int .i64 c] w fun e w' => e = .returned (.bool true) ∧ Below w.heap.size w w' := by
  have C1 := hide (run_any far w (by decide) hg)
  clear hg
  rw [far_run] at C1
  have h6 : a < 0 ∨ (0 ≤ a ∧ 900000 < a) ∨ (0 ≤ a ∧ a ≤ 900000 ∧ b < 0) ∨ (0 ≤ a ∧ a ≤ 900000 ∧ 0 ≤ b ∧ 90000 < b) ∨ (0 ≤ a ∧ a ≤ 900000 ∧ 0 ≤ b ∧ b ≤ 90000 ∧ c < 0) ∨ (0 ≤ a ∧ a ≤ 900000 ∧ 0 ≤ b ∧ b ≤ 90000 ∧ 0 ≤ c ∧ 50 < c) := by omega
  clear h
  rcases h6 with h1 | ⟨h1, h2⟩ | ⟨h1, h2, h3⟩ | ⟨h1, h2, h3, h4⟩ | ⟨h1, h2, h3, h4, h5⟩ | ⟨h1, h2, h3, h4, h5, h6⟩ <;>
  · go_enter Tryz.func5, Tryz.ntmps5
    go_wp2_with fail
    refine (unhide C1).mono ?_
    rintro e w1 ⟨rfl, hb1⟩
    have HB1 := hide hb1
    clear hb1
    go_wp2
    go_ret
    exact ⟨rfl, unhide HB1⟩
theorem first_run {a b : Nat} (ha : a ≤ 900000) (hb : b ≤ 90000) (W : World) (hg : Laid W) :
    Calls Tryz.prog 6 #[.string (RunM.bs (RunM.sess a b))] W fun e w' => e = .returned (.string (RunM.bs (RunM.run (RunM.sess a b)))) ∧ Below W.heap.size W w' :=
  run_any _ W (by rw [RunM.bs_size]; have := RunM.sess_len ha hb; unfold maxLen; omega) hg
theorem first_cut {a b : Nat} (ha : a ≤ 900000) (hb : b ≤ 90000) (W : World) :
    Calls Tryz.prog 7 #[.string (RunM.bs (RunM.run (RunM.sess a b))), .int .u8 10] W fun e w' => ∃ g cap, e = .returned (.slice (some ⟨g, 0, none⟩) 6 cap) ∧ 6 ≤ cap ∧ w'.cell? ⟨g, 4, none⟩ = some (.string (RunM.bs (RunM.ret a b))) ∧ Below W.heap.size W w' := by
  have h := rcut10 (RunM.bs (RunM.run (RunM.sess a b))) W (by rw [RunM.bs_size]; have := RunM.run_size (RunM.sess a b); omega)
  rw [RunM.bs_list, RunM.comes_first ha hb] at h
  refine h.mono ?_
  rintro e w' ⟨g, cap, rfl, h1, h2, h3, h4, h5⟩
  exact ⟨g, cap, rfl, h1, h4 4 _ rfl, h5⟩
theorem again_run {a b c : Nat} (ha : a ≤ 900000) (hb : b ≤ 90000) (hc : c ≤ 50) (W : World) (hg : Laid W) :
    Calls Tryz.prog 6 #[.string (RunM.bs (RunM.sess a b ++ (RunM.aLine a 0 a b (RunM.tg a b) (b + c) ++ [10])))] W fun e w' => e = .returned (.string (RunM.bs (RunM.run (RunM.sess a b ++ (RunM.aLine a 0 a b (RunM.tg a b) (b + c) ++ [10]))))) ∧ Below W.heap.size W w' :=
  run_any _ W (by rw [RunM.bs_size]; have := RunM.sess_len ha hb; have := RunM.aLine_len ha hb hc; unfold maxLen; simp; omega) hg
theorem again_cut {a b c : Nat} (ha : a ≤ 900000) (hb : b ≤ 90000) (hc : c ≤ 50) (W : World) :
    Calls Tryz.prog 7 #[.string (RunM.bs (RunM.run (RunM.sess a b ++ (RunM.aLine a 0 a b (RunM.tg a b) (b + c) ++ [10])))), .int .u8 10] W fun e w' => ∃ g cap, e = .returned (.slice (some ⟨g, 0, none⟩) 7 cap) ∧ 7 ≤ cap ∧ w'.cell? ⟨g, 5, none⟩ = some (.string (RunM.bs (RunM.wel 4))) ∧ Below W.heap.size W w' := by
  have h := rcut10 (RunM.bs (RunM.run (RunM.sess a b ++ (RunM.aLine a 0 a b (RunM.tg a b) (b + c) ++ [10])))) W (by rw [RunM.bs_size]; have := RunM.run_size (RunM.sess a b ++ (RunM.aLine a 0 a b (RunM.tg a b) (b + c) ++ [10])); omega)
  rw [RunM.bs_list, RunM.comes_again ha hb hc] at h
  refine h.mono ?_
  rintro e w' ⟨g, cap, rfl, h1, h2, h3, h4, h5⟩
  exact ⟨g, cap, rfl, h1, h4 5 _ rfl, h5⟩
theorem head_cut (l r : List UInt8) (n : Nat) (hn : l.length = n) : (RunM.bs (l ++ r)).extract 0 n = RunM.bs l := by
  subst hn
  apply ByteArray.ext
  rw [← Array.toList_inj, Go.Lib.extract_from_zero]
  exact List.take_left' rfl
theorem tail_cut (l r : List UInt8) (n : Nat) (hn : l.length = n) : (RunM.bs (l ++ r)).extract n (RunM.bs (l ++ r)).size = RunM.bs r := by
  subst hn
  rw [mid_bs _ _ _ (Nat.le_refl _), Go.Lib.size_eq, List.take_length, RunM.bs_list, List.drop_left' rfl]
theorem ret_facts {a b : Nat} (ha : a ≤ 900000) (hb : b ≤ 90000) : 7 ≤ (RunM.bs (RunM.ret a b)).size ∧ (RunM.bs (RunM.ret a b)).size ≤ 40 ∧ (RunM.bs (RunM.ret a b)).extract 0 6 = ⟨#[114, 101, 116, 114, 121, 32]⟩ ∧ (RunM.bs (RunM.ret a b)).extract 6 (RunM.bs (RunM.ret a b)).size = RunM.bs (RunM.four 0 a b (RunM.tg a b)) ∧ (RunM.bs (RunM.four 0 a b (RunM.tg a b))).size ≤ 27 := by
  have h3 := RunM.four_len (a := 0) (b := a) (c := b) (d := RunM.tg a b) (by omega) (by omega) (by omega) (RunM.tg_lt a b)
  have h4 : 1 ≤ (RunM.four 0 a b (RunM.tg a b)).length := by simp [RunM.four]; omega
  have l6 : RunM.tRetry.length = 6 := rfl
  have hz : (RunM.bs (RunM.ret a b)).size = 6 + (RunM.four 0 a b (RunM.tg a b)).length := by rw [RunM.bs_size, RunM.ret, List.length_append, l6]
  exact ⟨by omega, by omega, head_cut RunM.tRetry _ 6 rfl, tail_cut RunM.tRetry _ 6 rfl, by rw [RunM.bs_size]; exact h3⟩
theorem wel_facts : 9 ≤ (RunM.bs (RunM.wel 4)).size ∧ (RunM.bs (RunM.wel 4)).size ≤ 40 ∧ (RunM.bs (RunM.wel 4)).extract 0 8 = ⟨#[119, 101, 108, 99, 111, 109, 101, 32]⟩ := by
  have h1 := RunM.digits_some (RunM.turn_small (k := 4) (by omega))
  have h2 := RunM.digits_len (RunM.turn_small (k := 4) (by omega))
  have h3 := List.length_pos_iff.2 h1
  have l8 : RunM.tWelcome.length = 8 := rfl
  have hz : (RunM.bs (RunM.wel 4)).size = 8 + (RunM.digits (ConnM.turn ((4 : Nat) : Int)).toNat).length := by rw [RunM.bs_size, RunM.wel, List.length_append, l8]
  exact ⟨by omega, by omega, head_cut RunM.tWelcome _ 8 rfl⟩
set_option maxHeartbeats 1600000 in
set_option maxRecDepth 8000 in
theorem walk_near (a b c : Nat) (w : World) (ha : a ≤ 900000) (hb : b ≤ 90000) (hc : c ≤ 50) (hg : Laid w) :
    Calls Tryz.prog 5 #[.int .i64 a, .int .i64 b, .int .i64 c] w fun e w' => e = .returned (.bool true) ∧ Below w.heap.size w w' := by
  have HG := hide hg
  clear hg
  have CA := hide (fun W => rdigits_any a (by omega) W)
  have CB := hide (fun W => rdigits_any b (by omega) W)
  have CC := hide (fun W => rdigits_any (b + c) (by omega) W)
  rw [show (((b + c : Nat)) : Int) = (b : Int) + (c : Int) from by omega] at CC
  have sa : (RunM.bs (RunM.digits a)).size ≤ 6 := by rw [RunM.bs_size]; exact RunM.digits_len (by omega)
  have sb : (RunM.bs (RunM.digits b)).size ≤ 6 := by rw [RunM.bs_size]; exact RunM.digits_len (by omega)
  have sc : (RunM.bs (RunM.digits (b + c))).size ≤ 6 := by rw [RunM.bs_size]; exact RunM.digits_len (by omega)
  have ha1 : (a : Int) ≤ 900000 := by omega
  have hb1 : (b : Int) ≤ 90000 := by omega
  have hc1 : (c : Int) ≤ 50 := by omega
  obtain ⟨A, hA⟩ : ∃ A, RunM.bs (RunM.digits a) = A := ⟨_, rfl⟩
  obtain ⟨B, hB⟩ : ∃ B, RunM.bs (RunM.digits b) = B := ⟨_, rfl⟩
  obtain ⟨C, hC⟩ : ∃ C, RunM.bs (RunM.digits (b + c)) = C := ⟨_, rfl⟩
  rw [hA] at CA sa
  rw [hB] at CB sb
  rw [hC] at CC sc
  have HA := hide hA
  have HBb := hide hB
  have HC := hide hC
  clear hA hB hC
  go_enter Tryz.func5, Tryz.ntmps5
  go_wp2_with fail
  refine (unhide CA _).mono ?_
  rintro e w' ⟨rfl, rfl⟩
  go_wp2_with fail
  refine (unhide CB _).mono ?_
  rintro e w' ⟨rfl, rfl⟩
  go_wp2_with fail
  refine (unhide CC _).mono ?_
  rintro e w' ⟨rfl, rfl⟩
  go_wp2
  go_loop [11, 12] (fun v i => ∃ (k : Nat) (T : ByteArray), k ≤ 4 ∧ i = .int .i64 k ∧ v = .string T ∧ T.size ≤ 15 * k ∧ Hid (T = RunM.bs (RunM.pre b k))) (fun _ i => 4 - (intOf i).toNat)
  case atStart => exact ⟨0, _, by omega, rfl, rfl, Nat.le_refl 0, hide rfl⟩
  case round =>
    obtain ⟨k, T, hk, rfl, rfl, hT, HT⟩ := hrel
    by_cases hlt : k < 4
    · have hz1 : (⟨#[104, 101, 108, 108, 111, 32, 49, 32]⟩ : ByteArray).size = 8 := rfl
      have hz2 : (⟨#[10]⟩ : ByteArray).size = 1 := rfl
      have HT2 := hide (show T ++ (⟨#[104, 101, 108, 108, 111, 32, 49, 32]⟩ : ByteArray) ++ B ++ (⟨#[10]⟩ : ByteArray) = RunM.bs (RunM.pre b (k + 1)) by rw [unhide HT, ← unhide HBb]; exact RunM.pre_bs b k)
      go_wp2
      go_round
      case rel => exact ⟨k + 1, _, by omega, by go_num, rfl, by simp only [ByteArray.size_append, hz1, hz2]; omega, HT2⟩
      case measure => simp [intOf]; omega
    · obtain rfl : k = 4 := by omega
      have hz1 : (⟨#[104, 101, 108, 108, 111, 32]⟩ : ByteArray).size = 6 := rfl
      have hz2 : (⟨#[10]⟩ : ByteArray).size = 1 := rfl
      have hz3 : (⟨#[32]⟩ : ByteArray).size = 1 := rfl
      have hz4 : (⟨#[97, 103, 97, 105, 110, 32]⟩ : ByteArray).size = 6 := rfl
      have hS : T ++ (⟨#[104, 101, 108, 108, 111, 32]⟩ : ByteArray) ++ A ++ (⟨#[32]⟩ : ByteArray) ++ B ++ (⟨#[10]⟩ : ByteArray) = RunM.bs (RunM.sess a b) := by rw [unhide HT, ← unhide HBb, ← unhide HA]; exact RunM.sess_bs a b
      have hU := RunM.again_bs a b c
      have sS : (RunM.bs (RunM.sess a b)).size ≤ 100 := by rw [RunM.bs_size]; exact RunM.sess_len ha hb
      have C1 := hide (fun W h => first_run ha hb W h)
      have C2 := hide (fun W => first_cut ha hb W)
      have C3 := hide (fun W h => again_run ha hb hc W h)
      have C4 := hide (fun W => again_cut ha hb hc W)
      obtain ⟨r1, r2, r3, r4, r5⟩ := ret_facts ha hb
      obtain ⟨v1, v2, v3⟩ := wel_facts
      rw [unhide HA, unhide HC] at hU
      generalize RunM.bs (RunM.run (RunM.sess a b)) = O1 at *
      generalize RunM.bs (RunM.run (RunM.sess a b ++ (RunM.aLine a 0 a b (RunM.tg a b) (b + c) ++ [10]))) = O2 at *
      generalize RunM.bs (RunM.sess a b ++ (RunM.aLine a 0 a b (RunM.tg a b) (b + c) ++ [10])) = U at *
      generalize RunM.bs (RunM.sess a b) = S at *
      generalize RunM.bs (RunM.ret a b) = R at *
      generalize RunM.bs (RunM.four 0 a b (RunM.tg a b)) = Q at *
      generalize RunM.bs (RunM.wel 4) = V at *
      clear HT HA HBb HC
      go_wp2_with fail
      refine (unhide C1 _ (unhide HG)).mono ?_
      rintro e w1 ⟨rfl, hb1⟩
      have HB1 := hide hb1
      have HL1 := hide ((unhide HG).later hb1)
      clear hb1
      go_wp2_with fail
      refine (unhide C2 _).mono ?_
      rintro e w2 ⟨g, cap, rfl, h6, hc4, hb2⟩
      have HB2 := hide ((unhide HB1).trans (hb2.mono (unhide HB1).size))
      have HL2 := hide ((unhide HL1).later hb2)
      clear hb2
      go_wp2_with fail
      refine (unhide C3 _ (unhide HL2)).mono ?_
      rintro e w3 ⟨rfl, hb3⟩
      have HB3 := hide ((unhide HB2).trans (hb3.mono (unhide HB2).size))
      clear hb3
      go_wp2_with fail
      refine (unhide C4 _).mono ?_
      rintro e w4 ⟨g5, cap5, rfl, h7, hc5, hb4⟩
      have HB4 := hide ((unhide HB3).trans (hb4.mono (unhide HB3).size))
      clear hb4 hc4
      go_wp2
      go_ret
      exact ⟨rfl, unhide HB4⟩
theorem walk (a0 a1 a2 : Int) (w : World) (w0 : (Lit.int .i64 a0).wf = true) (w1 : (Lit.int .i64 a1).wf = true) (w2 : (Lit.int .i64 a2).wf = true) (hg : Laid w) :
    Calls Tryz.prog 5 #[.int .i64 a0, .int .i64 a1, .int .i64 a2] w fun e w' => e = .returned (.bool true) ∧ Below w.heap.size w w' := by
  by_cases h : a0 < 0 ∨ 900000 < a0 ∨ a1 < 0 ∨ 90000 < a1 ∨ a2 < 0 ∨ 50 < a2
  · exact walk_far a0 a1 a2 w h hg
  · obtain ⟨a, rfl⟩ := Int.eq_ofNat_of_zero_le (show 0 ≤ a0 by omega)
    obtain ⟨b, rfl⟩ := Int.eq_ofNat_of_zero_le (show 0 ≤ a1 by omega)
    obtain ⟨c, rfl⟩ := Int.eq_ofNat_of_zero_le (show 0 ≤ a2 by omega)
    exact walk_near a b c w (by omega) (by omega) (by omega) hg

set_option maxRecDepth 100000 in
theorem lifted (os : Os) (started : os.Started) (H : Type) (enc : TypeId × Value → H) :
    ReturnsInHanded {} Tryz.checked os 5 .any (fun w args => (Rows.runComesSpec.pre enc Tryz.prog Tryz.f5 [] false w args ∧ laidMetH Tryz.prog Rows.runComesRow.laid w) ∧ sizedMet enc Tryz.prog Tryz.f5 (OpenSpec.ofChange Rows.runComesSpec) false w args) (Rows.runComesSpec.post enc Tryz.prog Tryz.f5 false true false false) := by
  refine returnsInHanded_of_change_and (C := Tryz.checked) (X := fun w _ => laidMetH Tryz.prog Rows.runComesRow.laid w) (fun _ _ _ hh h => h.of_heap hh) own started (by kernel_rfl) Tryz.func5
    (ChangeSpec.witness_shaped (enc := enc) (C := Tryz.checked) (os := os) (X := fun w _ => laidMetH Tryz.prog Rows.runComesRow.laid w) false ((((World.holding Tryz.prog os ⟨#[], #[], []⟩).setCell ⟨0, 0, none⟩ (.iface 161 (.agg #[.pointer (some ⟨9, 36, none⟩)]))).layVars Tryz.prog laid7)) #[.int .i64 0, .int .i64 0, .int .i64 0] 8 (wit_os os) (wit_shaped os) (by kernel_rfl) (by kernel_rfl) (by kernel_rfl) (wit_met os _)) ?_
  intro W base args ds gs before hval0 hW _ hsz hL _
  have hg := laid_of hL
  have hval : ∀ (j : Nat) t v, Tryz.f5.params[j]? = some t → args[j]? = some v → Value.okWide Tryz.prog W .any base t v := hval0
  have hW' := hW
  obtain ⟨p, q, hA0, hV, rfl, hfz, hnd⟩ := hW
  have hA : DataW.TrodAll enc Tryz.prog W 0 (fun _ => true) true Tryz.f5.params.toList args.toList ds p := hA0
  rw [Tryz.params5] at hA hval
  obtain ⟨v0, vs0, d0, ds0, p0, q0, hargs, rfl, rfl, h0, r0⟩ := trodAll_cons hA
  obtain ⟨v1, vs1, d1, ds1, p1, q1, rfl, rfl, rfl, h1, r1⟩ := trodAll_cons r0
  obtain ⟨v2, vs2, d2, ds2, p2, q2, rfl, rfl, rfl, h2, r2⟩ := trodAll_cons r1
  obtain ⟨rfl, rfl, rfl⟩ := trodAll_nil r2
  obtain rfl : args = #[v0, v1, v2] := by cases args; simp_all
  obtain ⟨rfl, rfl⟩ := trodVars_none hV
  have k0 := h0
  have lt0 : ∀ x ∈ p0, x.block < W.heap.size := by obtain ⟨m, hm⟩ := k0; exact DataW.trod_lt m _ _ _ hm
  obtain ⟨a0, rfl, rfl, rfl, w0⟩ := open_int Tryz.underlying3 (hval 0 3 v0 rfl rfl) h0
  have k1 := h1
  have lt1 : ∀ x ∈ p1, x.block < W.heap.size := by obtain ⟨m, hm⟩ := k1; exact DataW.trod_lt m _ _ _ hm
  obtain ⟨a1, rfl, rfl, rfl, w1⟩ := open_int Tryz.underlying3 (hval 1 3 v1 rfl rfl) h1
  have k2 := h2
  have lt2 : ∀ x ∈ p2, x.block < W.heap.size := by obtain ⟨m, hm⟩ := k2; exact DataW.trod_lt m _ _ _ hm
  obtain ⟨a2, rfl, rfl, rfl, w2⟩ := open_int Tryz.underlying3 (hval 2 3 v2 rfl rfl) h2
  clear hA0 hval0
  refine (walk a0 a1 a2 W w0 w1 w2 hg).mono fun e W' ⟨he, bel⟩ => ?_
  subst he
  exact ⟨_, rfl, _, _, _, [], _, [], hW', trodAll_mk1 (shut_bool Tryz.underlying4 _), (trodAll_cons_mk (Below.trod laidOut (by kernel_rfl) (of_decide_eq_true (by kernel_rfl)) k0 bel lt0) (trodAll_cons_mk (Below.trod laidOut (by kernel_rfl) (of_decide_eq_true (by kernel_rfl)) k1 bel lt1) (trodAll_cons_mk (Below.trod laidOut (by kernel_rfl) (of_decide_eq_true (by kernel_rfl)) k2 bel lt2) trodAll_mk0))), rfl, bel.frame _, fun h => by cases h⟩

theorem over : Rows.runComesRow.holds Tryz.pinned (OpenSpec.ofChange Rows.runComesSpec) :=
  OpenClaim.holds_of_wide 5 Tryz.f5 rfl rfl rfl rfl rfl rfl rfl ⟨rfl, rfl, rfl, rfl, rfl⟩ rfl rfl rfl rfl rfl (by kernel_rfl) Tryz.func5 (by kernel_rfl)
    (of_decide_eq_true (by kernel_rfl)) (by unfold Func.isWrapper; first | (rw [if_pos (by decide +kernel)]; kernel_rfl) | (rw [if_neg (by decide +kernel)]; exact ⟨rfl, rfl⟩))
    (fun os started H enc _ => lifted os started H enc)

theorem card : Rows.RunComesCardSaid :=
  Claim7.holds_tied_plain_at .later [] [.data, .data, .data, .data, .handle, .sentinel, .sentinel, .pinned] true (true, "32b8a9a2f0776cf7a650711f97011914424dc793326f1df7f7c205b30c1ecdfd") true
    over (fun _ h => by cases h) (by kernel_rfl) (fun _ h => by cases h) runComes_row_tie rfl ⟨rfl, rfl⟩ (by kernel_rfl) rfl
    (fun f fn hf hfn => by
      obtain rfl : f = 5 := Option.some.inj ((show Tryz.prog.funcNamed "tokenfold/foldlaw3.RunComes" = some 5 by kernel_rfl).symm.trans hf) |>.symm
      obtain rfl : fn = Tryz.f5 := (Option.some.inj (Tryz.func5.symm.trans hfn)).symm
      exact ⟨by kernel_rfl, fun j t ht => by
        rw [Tryz.params5] at ht
        have hm : t ∈ [3, 3, 3] := by simpa using Array.mem_of_getElem? ht
        have hall : ([3, 3, 3].all fun u => !Tryz.prog.wantsStandIn u) = true := by kernel_rfl
        exact (show Tryz.prog.wantsStandIn t = false by simpa using List.all_eq_true.1 hall t hm)⟩)
    (by kernel_rfl)

end Go.Proofs.YthaicpepgianpakGreatDoor.runComes
namespace Go.Proofs.YthaicpepgianpakGreatDoor
theorem runComes_holds : Rows.RunComesCardSaid := runComes.card
#print axioms runComes_holds
end Go.Proofs.YthaicpepgianpakGreatDoor

