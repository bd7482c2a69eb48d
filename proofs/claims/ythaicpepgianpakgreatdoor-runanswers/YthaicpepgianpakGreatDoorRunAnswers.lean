/-
  RunAnswers: any session is answered line by line.
-/
import Derived.Test.YthaicpepgianpakGreatDoorJoinedAnswers
import Derived.Test.YthaicpepgianpakGreatDoorJoinedRunLaid
namespace Go.Proofs.YthaicpepgianpakGreatDoor.runAnswers
open Go.ChangeShapes Go.WideShapes Go.ChangeAt Go.RowKit Go.Joins
set_option linter.unusedVariables false

theorem own : ownKnob Tryz.prog.godebug = none := by kernel_rfl
theorem laidOut : laidOutB Tryz.prog = true := by kernel_rfl
def IsRow (k : IntKind) (w : World) (a : Option Addr) (len cap : Nat) (zs : List Int) : Prop :=
  (a = none ∧ len = 0 ∧ cap = 0 ∧ zs = []) ∨
  ∃ x, a = some x ∧ len ≤ cap ∧ cap ≤ maxLen ∧ zs.length = cap ∧ (∀ i, i < zs.length → w.cell? (x.add i) = some (.int k (zs.getD i 0))) ∧ ∀ n ∈ zs, (Lit.int k n).wf = true
def IsStrs (w : World) (a : Option Addr) (len cap : Nat) (zs : List ByteArray) : Prop :=
  (a = none ∧ len = 0 ∧ cap = 0 ∧ zs = []) ∨
  ∃ x, a = some x ∧ len ≤ cap ∧ cap ≤ maxLen ∧ zs.length = cap ∧ (∀ i, i < zs.length → w.cell? (x.add i) = some (.string (zs.getD i ByteArray.empty))) ∧ ∀ s ∈ zs, s.size ≤ maxLen
def IsPairs (w : World) (a : Option Addr) (len cap : Nat) (zs : List (Int × Int)) : Prop :=
  (a = none ∧ len = 0 ∧ cap = 0 ∧ zs = []) ∨
  ∃ x, a = some x ∧ len ≤ cap ∧ cap ≤ maxLen ∧ zs.length = cap ∧ ∀ i, i < cap → w.cell? (x.add (i * 2)) = some (.int .i64 (zs.getD i (0, 0)).1) ∧ w.cell? (x.add (i * 2 + 1)) = some (.int .i64 (zs.getD i (0, 0)).2)
def IsRows (w : World) (a : Option Addr) (len cap : Nat) (A : Nat → Option Addr) (L C : Nat → Nat) (Z : Nat → List Int) : Prop :=
  (a = none ∧ len = 0 ∧ cap = 0) ∨
  ∃ x, a = some x ∧ len ≤ cap ∧ cap ≤ maxLen ∧ ∀ r, r < cap → w.cell? (x.add r) = some (.slice (A r) (L r) (C r)) ∧ L r ≤ C r ∧ C r ≤ maxLen ∧ (Z r).length = C r ∧ (∀ n ∈ Z r, (Lit.int .i64 n).wf = true) ∧ (A r = none → C r = 0) ∧
    ∀ a', A r = some a' → ∀ c, c < C r → w.cell? (a'.add c) = some (.int .i64 ((Z r).getD c 0))


set_option maxRecDepth 8000 in
theorem walk_long (t : ByteArray) (w : World) (ht : t.size ≤ maxLen) (hlong : 3000 < t.size) :
    Calls Tryz.prog 3 #[.string t] w fun e w' => e = .returned (.bool true) ∧ Below w.heap.size w w' := by
  have hlt : ¬ (t.size : Int) ≤ 3000 := by omega
  go_enter Tryz.func3, Tryz.ntmps3
  go_wp2_with fail
  have CL := run_long t w hlong ht
  rw [show RunM.bs RunM.tLong = ⟨#[116, 111, 111, 32, 108, 111, 110, 103, 10]⟩ from rfl] at CL
  refine CL.mono ?_
  rintro e w2 ⟨rfl, rfl⟩
  go_wp2
  go_ret
  exact ⟨rfl, Below.refl _ _⟩
/-- The pieces of a text, the last one told apart. -/
theorem last_piece (s : List UInt8) : ∃ F L, RunM.cut 10 s = F ++ [L] ∧ (L = [] → RunM.lines s = F) ∧ (¬ L = [] → RunM.lines s = F ++ [L]) := by
  have hne := RunM.cut_ne 10 s
  refine ⟨(RunM.cut 10 s).dropLast, (RunM.cut 10 s).getLast hne, (List.dropLast_concat_getLast hne).symm, fun h => ?_, fun h => ?_⟩
  · unfold RunM.lines
    rw [if_pos (by rw [List.getLast?_eq_some_getLast hne, h])]
  · unfold RunM.lines
    rw [if_neg (by rw [List.getLast?_eq_some_getLast hne]; exact fun e => h (Option.some.inj e))]
    exact (List.dropLast_concat_getLast hne).symm
theorem law_cut {t : ByteArray} {F : List (List UInt8)} {L : List UInt8} {J : Nat} (w : World) (hs : t.size ≤ 3000) (hc : RunM.cut 10 t.data.toList = F ++ [L]) (hJ : F.length = J) :
    Calls Tryz.prog 7 #[.string t, .int .u8 10] w fun e w' => ∃ g cap, e = .returned (.slice (some ⟨g, 0, none⟩) (J + 1) cap) ∧ J + 1 ≤ cap ∧ g < w'.heap.size ∧ w'.cell? ⟨g, J, none⟩ = some (.string (RunM.bs L)) ∧ (∀ j q, (F ++ [L])[j]? = some q → w'.cell? ⟨g, j, none⟩ = some (.string (RunM.bs q))) ∧ Below w.heap.size w w' := by
  have h := rcut10 t w (by omega)
  rw [hc] at h
  refine h.mono ?_
  rintro e w' ⟨g, cap, rfl, h1, h2, h3, h4, h5⟩
  subst hJ
  exact ⟨g, cap, by simp, by simpa using h1, h3, h4 _ L (by simp), h4, h5⟩
set_option maxHeartbeats 3200000 in
set_option maxRecDepth 8000 in
theorem walk_short (t : ByteArray) (w : World) (hshort : t.size ≤ 3000) (hg : Laid w) :
    Calls Tryz.prog 3 #[.string t] w fun e w' => e = .returned (.bool true) ∧ Below w.heap.size w w' := by
  have hlt : (t.size : Int) ≤ 3000 := by omega
  have C1 := hide (run_short t w hshort hg)
  obtain ⟨F, L, hc, hl1, hl2⟩ := last_piece t.data.toList
  obtain ⟨J, hJ⟩ : ∃ J, F.length = J := ⟨_, rfl⟩
  have CC := hide (fun W => law_cut W hshort hc hJ)
  have hlen := RunM.lines_len t.data.toList.length t.data.toList (Nat.le_refl _)
  rw [← Go.Lib.size_eq] at hlen
  have hJ2 : J ≤ 3000 := by
    have := cut_len 10 t.data.toList
    rw [hc, ← Go.Lib.size_eq, List.length_append, hJ] at this
    simp at this; omega
  generalize hLS : RunM.lines t.data.toList = LS at C1 hl1 hl2 hlen
  obtain ⟨G, hG⟩ : ∃ G, RunM.bs (RunM.out RunM.new LS) = G := ⟨_, rfl⟩
  have HG := hide hG
  rw [hG] at C1
  obtain ⟨hlen1, hlen2⟩ := hlen
  have HSZ := hide hlen2
  clear hG hg hlen2
  by_cases hL : L = []
  · have hLSF := hl1 hL
    subst hLSF
    have hK : LS.length = J := hJ
    subst hL
    have HLEN := hide hK
    have hcell : ∀ j q, LS[j]? = some q → (LS ++ [[]])[j]? = some q := fun j q hj => by
      rw [List.getElem?_append_left (List.getElem?_eq_some_iff.1 hj).1]; exact hj
    have HC := hide hcell
    clear hl1 hl2 hc hLS hcell hK hJ
    go_enter Tryz.func3, Tryz.ntmps3
    go_wp2_with fail
    refine (unhide C1).mono ?_
    rintro e w1 ⟨rfl, hb1⟩
    have HB1 := hide hb1
    clear hb1
    go_wp2_with fail
    refine (unhide CC _).mono ?_
    rintro e w2 ⟨g, cap, rfl, hcap, hgl, cl, hcs, hb2⟩
    have HCS := hide (fun j q hj => hcs j q (unhide HC j q hj))
    have HB2 := hide ((unhide HB1).trans (hb2.mono (unhide HB1).size))
    have cl' : w2.cell? ⟨g, J, none⟩ = some (.string ⟨#[]⟩) := cl
    have CM := hide (fun W => mnew_any (seed := 7) 50 W (by omega) (by omega))
    clear hcs hb2 cl
    go_wp2_with fail
    refine (unhide CM _).mono ?_
    rintro e w3 ⟨m, rfl, hm, hb3⟩
    have HM := hide hm
    have HB3 := hide hb3
    clear hm hb3 cl' CM
    go_wp2
    go_loopw [6, 7] (fun v i wr => ∃ (k : Nat) (T : ByteArray) (o : Option Nat) (R : List Nat), k ≤ J ∧ v = .string T ∧ i = .int .i64 k ∧ T.size ≤ 61 * k ∧ Hid (T = RunM.bs (RunM.out RunM.new (LS.take k))) ∧ Hid (MAt w2.heap.size wr m o R (RunM.left RunM.new (LS.take k))) ∧ Hid (Below w2.heap.size w2 wr)) (fun _ i _ => J - (intOf i).toNat)
    case atStart => exact ⟨0, _, none, [], by omega, rfl, rfl, Nat.le_refl 0, hide rfl, HM, HB3⟩
    case round =>
      obtain ⟨k, T, o, R, hk, rfl, rfl, hT, HT, HMA, HB⟩ := hrel
      have HBW := hide ((unhide HB2).trans ((unhide HB).mono (unhide HB2).size))
      by_cases hltk : k < J
      · obtain ⟨q, hq⟩ : ∃ q, LS[k]? = some q := ⟨_, List.getElem?_eq_getElem (by rw [unhide HLEN]; exact hltk)⟩
        have c0 : wr.cell? ⟨g, k, none⟩ = some (.string (RunM.bs q)) := cell_later (unhide HB) (unhide HCS k q hq)
        have hqs := unhide HSZ q (List.mem_of_getElem? hq)
        have htk : LS.take (k + 1) = LS.take k ++ [q] := by rw [List.take_add_one, hq]; rfl
        have gd := RunM.left_good RunM.new_good (LS.take k)
        have hCL := fline_any (l := RunM.bs q) wr gd (unhide HMA) (by rw [RunM.bs_size]; omega)
        rw [RunM.bs_list] at hCL
        have CL := hide hCL
        have hX : (RunM.bs (RunM.line (RunM.left RunM.new (LS.take k)) q).2).size ≤ 60 := RunM.line_len gd q
        have HT2 := hide (show T ++ RunM.bs (RunM.line (RunM.left RunM.new (LS.take k)) q).2 ++ (⟨#[10]⟩ : ByteArray) = RunM.bs (RunM.out RunM.new (LS.take (k + 1))) by
          rw [unhide HT, htk, RunM.out_snoc]
          show RunM.bs (RunM.out RunM.new (LS.take k)) ++ RunM.bs (RunM.line (RunM.left RunM.new (LS.take k)) q).2 ++ RunM.bs [10] = _
          rw [RunM.bs_append, RunM.bs_append, List.append_assoc])
        have HY := hide (show (RunM.line (RunM.left RunM.new (LS.take k)) q).1 = RunM.left RunM.new (LS.take (k + 1)) by rw [htk, RunM.left_snoc])
        clear hCL htk gd hqs hq
        generalize RunM.bs (RunM.line (RunM.left RunM.new (LS.take k)) q).2 = X at CL HT2 hX
        generalize (RunM.line (RunM.left RunM.new (LS.take k)) q).1 = y at CL HY
        generalize RunM.bs q = qb at c0 CL
        have hz1 : (⟨#[10]⟩ : ByteArray).size = 1 := rfl
        have hT2 : T.size ≤ 200000 := by omega
        go_wp2_with fail
        refine (unhide CL).mono ?_
        rintro e w4 ⟨rfl, hs⟩
        have HB4 := hide (hs.below (unhide HMA) (unhide HB) (unhide HB).size)
        obtain ⟨o2, R2, hm2, -, -, -⟩ := hs
        rw [unhide HY] at hm2
        have HM2 := hide hm2
        clear hm2 c0
        go_wp2
        go_roundw
        case rel => exact ⟨k + 1, _, o2, R2, by omega, rfl, by go_num, by simp only [ByteArray.size_append, hz1]; omega, HT2, HM2, HB4⟩
        case measure => simp [intOf]; omega
      · obtain rfl : k = J := by omega
        have hTG : T = G := by rw [unhide HT, List.take_of_length_le (by rw [unhide HLEN]; exact Nat.le_refl _)]; exact unhide HG
        subst hTG
        go_wp2
        go_ret
        exact ⟨rfl, unhide HBW⟩
  · have hLSF := hl2 hL
    have hK : LS.length = J + 1 := by rw [hLSF, List.length_append, hJ]; rfl
    have HLEN := hide hK
    rw [← hLSF] at CC
    have k0 : ((RunM.bs L).toList == []) = false := (word_eq L []).trans (decide_eq_false hL)
    clear hl1 hl2 hc hLS hLSF hK hJ hL
    generalize RunM.bs L = Lb at CC k0
    go_enter Tryz.func3, Tryz.ntmps3
    go_wp2_with fail
    refine (unhide C1).mono ?_
    rintro e w1 ⟨rfl, hb1⟩
    have HB1 := hide hb1
    clear hb1
    go_wp2_with fail
    refine (unhide CC _).mono ?_
    rintro e w2 ⟨g, cap, rfl, hcap, hgl, cl, hcs, hb2⟩
    have HCS := hide hcs
    have HB2 := hide ((unhide HB1).trans (hb2.mono (unhide HB1).size))
    have CM := hide (fun W => mnew_any (seed := 7) 50 W (by omega) (by omega))
    clear hcs hb2
    go_wp2_with fail
    refine (unhide CM _).mono ?_
    rintro e w3 ⟨m, rfl, hm, hb3⟩
    have HM := hide hm
    have HB3 := hide hb3
    clear hm hb3 cl CM
    go_wp2
    go_loopw [6, 7] (fun v i wr => ∃ (k : Nat) (T : ByteArray) (o : Option Nat) (R : List Nat), k ≤ (J + 1) ∧ v = .string T ∧ i = .int .i64 k ∧ T.size ≤ 61 * k ∧ Hid (T = RunM.bs (RunM.out RunM.new (LS.take k))) ∧ Hid (MAt w2.heap.size wr m o R (RunM.left RunM.new (LS.take k))) ∧ Hid (Below w2.heap.size w2 wr)) (fun _ i _ => (J + 1) - (intOf i).toNat)
    case atStart => exact ⟨0, _, none, [], by omega, rfl, rfl, Nat.le_refl 0, hide rfl, HM, HB3⟩
    case round =>
      obtain ⟨k, T, o, R, hk, rfl, rfl, hT, HT, HMA, HB⟩ := hrel
      have HBW := hide ((unhide HB2).trans ((unhide HB).mono (unhide HB2).size))
      by_cases hltk : k < (J + 1)
      · obtain ⟨q, hq⟩ : ∃ q, LS[k]? = some q := ⟨_, List.getElem?_eq_getElem (by rw [unhide HLEN]; exact hltk)⟩
        have c0 : wr.cell? ⟨g, k, none⟩ = some (.string (RunM.bs q)) := cell_later (unhide HB) (unhide HCS k q hq)
        have hqs := unhide HSZ q (List.mem_of_getElem? hq)
        have htk : LS.take (k + 1) = LS.take k ++ [q] := by rw [List.take_add_one, hq]; rfl
        have gd := RunM.left_good RunM.new_good (LS.take k)
        have hCL := fline_any (l := RunM.bs q) wr gd (unhide HMA) (by rw [RunM.bs_size]; omega)
        rw [RunM.bs_list] at hCL
        have CL := hide hCL
        have hX : (RunM.bs (RunM.line (RunM.left RunM.new (LS.take k)) q).2).size ≤ 60 := RunM.line_len gd q
        have HT2 := hide (show T ++ RunM.bs (RunM.line (RunM.left RunM.new (LS.take k)) q).2 ++ (⟨#[10]⟩ : ByteArray) = RunM.bs (RunM.out RunM.new (LS.take (k + 1))) by
          rw [unhide HT, htk, RunM.out_snoc]
          show RunM.bs (RunM.out RunM.new (LS.take k)) ++ RunM.bs (RunM.line (RunM.left RunM.new (LS.take k)) q).2 ++ RunM.bs [10] = _
          rw [RunM.bs_append, RunM.bs_append, List.append_assoc])
        have HY := hide (show (RunM.line (RunM.left RunM.new (LS.take k)) q).1 = RunM.left RunM.new (LS.take (k + 1)) by rw [htk, RunM.left_snoc])
        clear hCL htk gd hqs hq
        generalize RunM.bs (RunM.line (RunM.left RunM.new (LS.take k)) q).2 = X at CL HT2 hX
        generalize (RunM.line (RunM.left RunM.new (LS.take k)) q).1 = y at CL HY
        generalize RunM.bs q = qb at c0 CL
        have hz1 : (⟨#[10]⟩ : ByteArray).size = 1 := rfl
        have hT2 : T.size ≤ 200000 := by omega
        go_wp2_with fail
        refine (unhide CL).mono ?_
        rintro e w4 ⟨rfl, hs⟩
        have HB4 := hide (hs.below (unhide HMA) (unhide HB) (unhide HB).size)
        obtain ⟨o2, R2, hm2, -, -, -⟩ := hs
        rw [unhide HY] at hm2
        have HM2 := hide hm2
        clear hm2 c0
        go_wp2
        go_roundw
        case rel => exact ⟨k + 1, _, o2, R2, by omega, rfl, by go_num, by simp only [ByteArray.size_append, hz1]; omega, HT2, HM2, HB4⟩
        case measure => simp [intOf]; omega
      · obtain rfl : k = (J + 1) := by omega
        have hTG : T = G := by rw [unhide HT, List.take_of_length_le (by rw [unhide HLEN]; exact Nat.le_refl _)]; exact unhide HG
        subst hTG
        go_wp2
        go_ret
        exact ⟨rfl, unhide HBW⟩
theorem walk (a0 : ByteArray) (w : World) (w0 : a0.size ≤ maxLen) (hg : Laid w) :
    Calls Tryz.prog 3 #[.string a0] w fun e w' => e = .returned (.bool true) ∧ Below w.heap.size w w' := by
  by_cases h : 3000 < a0.size
  · exact walk_long a0 w w0 h
  · exact walk_short a0 w (by omega) hg

set_option maxRecDepth 100000 in
theorem lifted (os : Os) (started : os.Started) (H : Type) (enc : TypeId × Value → H) :
    ReturnsInHanded {} Tryz.checked os 3 .any (fun w args => (Rows.runAnswersSpec.pre enc Tryz.prog Tryz.f3 [] false w args ∧ laidMetH Tryz.prog Rows.runAnswersRow.laid w) ∧ sizedMet enc Tryz.prog Tryz.f3 (OpenSpec.ofChange Rows.runAnswersSpec) false w args) (Rows.runAnswersSpec.post enc Tryz.prog Tryz.f3 false true false false) := by
  refine returnsInHanded_of_change_and (C := Tryz.checked) (X := fun w _ => laidMetH Tryz.prog Rows.runAnswersRow.laid w) (fun _ _ _ hh h => h.of_heap hh) own started (by kernel_rfl) Tryz.func3
    (ChangeSpec.witness_shaped (enc := enc) (C := Tryz.checked) (os := os) (X := fun w _ => laidMetH Tryz.prog Rows.runAnswersRow.laid w) false ((((World.holding Tryz.prog os ⟨#[], #[], []⟩).setCell ⟨0, 0, none⟩ (.iface 161 (.agg #[.pointer (some ⟨9, 36, none⟩)]))).layVars Tryz.prog laid7)) #[.string ByteArray.empty] 8 (wit_os os) (wit_shaped os) (by kernel_rfl) (by kernel_rfl) (by kernel_rfl) (wit_met os _)) ?_
  intro W base args ds gs before hval0 hW _ hsz hL _
  have hg := laid_of hL
  have hval : ∀ (j : Nat) t v, Tryz.f3.params[j]? = some t → args[j]? = some v → Value.okWide Tryz.prog W .any base t v := hval0
  have hW' := hW
  obtain ⟨p, q, hA0, hV, rfl, hfz, hnd⟩ := hW
  have hA : DataW.TrodAll enc Tryz.prog W 0 (fun _ => true) true Tryz.f3.params.toList args.toList ds p := hA0
  rw [Tryz.params3] at hA hval
  obtain ⟨v0, vs0, d0, ds0, p0, q0, hargs, rfl, rfl, h0, r0⟩ := trodAll_cons hA
  obtain ⟨rfl, rfl, rfl⟩ := trodAll_nil r0
  obtain rfl : args = #[v0] := by cases args; simp_all
  obtain ⟨rfl, rfl⟩ := trodVars_none hV
  have k0 := h0
  have lt0 : ∀ x ∈ p0, x.block < W.heap.size := by obtain ⟨m, hm⟩ := k0; exact DataW.trod_lt m _ _ _ hm
  obtain ⟨a0, rfl, rfl, rfl, w0⟩ := Go.ChangeMaps.open_string Tryz.underlying9 (hval 0 9 v0 rfl rfl) h0
  clear hA0 hval0
  refine (walk a0 W w0 hg).mono fun e W' ⟨he, bel⟩ => ?_
  subst he
  exact ⟨_, rfl, _, _, _, [], _, [], hW', trodAll_mk1 (shut_bool Tryz.underlying4 _), (trodAll_cons_mk (Below.trod laidOut (by kernel_rfl) (of_decide_eq_true (by kernel_rfl)) k0 bel lt0) trodAll_mk0), rfl, bel.frame _, fun h => by cases h⟩

theorem over : Rows.runAnswersRow.holds Tryz.pinned (OpenSpec.ofChange Rows.runAnswersSpec) :=
  OpenClaim.holds_of_wide 3 Tryz.f3 rfl rfl rfl rfl rfl rfl rfl ⟨rfl, rfl, rfl, rfl, rfl⟩ rfl rfl rfl rfl rfl (by kernel_rfl) Tryz.func3 (by kernel_rfl)
    (of_decide_eq_true (by kernel_rfl)) (by unfold Func.isWrapper; first | (rw [if_pos (by decide +kernel)]; kernel_rfl) | (rw [if_neg (by decide +kernel)]; exact ⟨rfl, rfl⟩))
    (fun os started H enc _ => lifted os started H enc)

theorem card : Rows.RunAnswersCardSaid :=
  Claim7.holds_tied_plain_at .later [] [.data, .data, .data, .data, .handle, .sentinel, .sentinel, .pinned] true (true, "32b8a9a2f0776cf7a650711f97011914424dc793326f1df7f7c205b30c1ecdfd") true
    over (fun _ h => by cases h) (by kernel_rfl) (fun _ h => by cases h) runAnswers_row_tie rfl ⟨rfl, rfl⟩ (by kernel_rfl) rfl
    (fun f fn hf hfn => by
      obtain rfl : f = 3 := Option.some.inj ((show Tryz.prog.funcNamed "tokenfold/foldlaw3.RunAnswers" = some 3 by kernel_rfl).symm.trans hf) |>.symm
      obtain rfl : fn = Tryz.f3 := (Option.some.inj (Tryz.func3.symm.trans hfn)).symm
      exact ⟨by kernel_rfl, fun j t ht => by
        rw [Tryz.params3] at ht
        have hm : t ∈ [9] := by simpa using Array.mem_of_getElem? ht
        have hall : ([9].all fun u => !Tryz.prog.wantsStandIn u) = true := by kernel_rfl
        exact (show Tryz.prog.wantsStandIn t = false by simpa using List.all_eq_true.1 hall t hm)⟩)
    (by kernel_rfl)

end Go.Proofs.YthaicpepgianpakGreatDoor.runAnswers
namespace Go.Proofs.YthaicpepgianpakGreatDoor
theorem runAnswers_holds : Rows.RunAnswersCardSaid := runAnswers.card
#print axioms runAnswers_holds
end Go.Proofs.YthaicpepgianpakGreatDoor

