/-
  A whole session: run.Run answers a text as its lines come to.
-/
import Derived.Test.YthaicpepgianpakGreatDoorJoinedRunState
import Derived.Shelf.Strings.BuilderK
namespace Go.Proofs.YthaicpepgianpakGreatDoor
open Go.RowKit Go.Shelf
attribute [local go_sem] Oper.semAt_some
set_option linter.unusedVariables false

theorem RunAt.put {B s mb db bb : Nat} {x : ServM.St} {out : List UInt8} {w : World} (h : RunAt B s mb db bb x out w) (a : List UInt8) (hl : out.length + a.length ≤ 1000000) :
    Calls Tryz.prog 15 #[.pointer (some ⟨bb, 0, none⟩), .string (RunM.bs a)] w fun e w' => e = .returned (.tuple #[.int .i64 (RunM.bs a).size, .nilIface]) ∧ RunAt B s mb db bb x (out ++ a) w' ∧ KeepsOthers w w' ∧ Below B w w' :=
  h.write (fun o ho => write_string (RunM.bs a) ho (by rw [RunM.bs_size]; omega) h.env.size)
theorem RunAt.nl {B s mb db bb : Nat} {x : ServM.St} {out : List UInt8} {w : World} (h : RunAt B s mb db bb x out w) (hl : out.length ≤ 1000000) :
    Calls Tryz.prog 16 #[.pointer (some ⟨bb, 0, none⟩), .int .u8 10] w fun e w' => e = .returned .nilIface ∧ RunAt B s mb db bb x (out ++ [10]) w' ∧ KeepsOthers w w' ∧ Below B w w' :=
  h.write (fun o ho => write_byte ho (by omega) h.env.size)
theorem below_others {w w' : World} (h : Below w.heap.size w w') : KeepsOthers w w' := ⟨h.size, fun k o ho _ => (h.block k (Array.getElem?_eq_some_iff.1 ho).1).trans ho⟩
theorem RunAt.cells {B s mb db bb : Nat} {x : ServM.St} {out : List UInt8} {w : World} (h : RunAt B s mb db bb x out w) : w.cell? ⟨db, 0, none⟩ = some (.pointer (some ⟨s, 0, none⟩)) ∧ w.cell? ⟨db, 1, none⟩ = some (.map (some mb)) := by
  obtain ⟨F, o, h⟩ := h
  have hd : w.heap[db]? = some (.cells #[.pointer (some ⟨s, 0, none⟩), .map (some mb)] 34 (0, 0)) := h.desk
  exact ⟨by rw [Go.Lib.cell_of_heap hd]; rfl, by rw [Go.Lib.cell_of_heap hd]; rfl⟩
theorem run_long (t : ByteArray) (w : World) (h : 3000 < t.size) (hm : t.size ≤ maxLen) : Calls Tryz.prog 6 #[.string t] w fun e w' => e = .returned (.string (RunM.bs RunM.tLong)) ∧ w' = w := by
  unfold maxLen at hm
  have h2 : ¬ (t.size : Int) ≤ 3000 := by omega
  go_enter Tryz.func6, Tryz.ntmps6
  go_wp2
  go_ret
  exact ⟨rfl, rfl⟩
set_option maxRecDepth 100000 in
set_option maxHeartbeats 6400000 in
theorem run_short (t : ByteArray) (w : World) (ht : t.size ≤ 3000) (hL : Laid w) :
    Calls Tryz.prog 6 #[.string t] w fun e w' => e = .returned (.string (RunM.bs (RunM.out RunM.new (RunM.lines t.data.toList)))) ∧ Below w.heap.size w w' := by
  have HL := hide hL
  clear hL
  have ht2 : (t.size : Int) ≤ 3000 := by omega
  have ht3 : decide ((3000 : Int) < (t.size : Int)) = false := by simp; omega
  refine (callsIn_wide (n := 6)).1 ?_
  refine callsIn_of_wp_marks Tryz.func6 rfl trivial ?_ rfl
  simp only [Tryz.ntmps6, List.size_toArray, List.length_cons, List.length_nil, Nat.reduceAdd, Nat.reduceSub, Array.replicate_succ, Array.replicate_zero, List.push_toArray, List.append_toArray, List.nil_append, List.cons_append]
  gi_wp2_with (first | (refine ⟨trivial, ?_⟩; gi_at_call 11; refine (callsIn_wide.2 (ropen_any _)).mono ?_; rintro e w1 ⟨s, mb, F, rfl, h1, h2, h3, h4, h5⟩; have HS := hide h1; have HM := hide h2; have HX := hide (And.intro h3 (And.intro h4 h5)); clear h1 h2 h3 h4 h5) | (refine ⟨trivial, ?_⟩; gi_at_call 13; refine (callsIn_wide.2 (rlines_any _ _)).mono ?_; rintro e w2 ⟨rfl, rfl⟩))
  have hdk : ∃ db, w1.heap.size = db := ⟨_, rfl⟩
  obtain ⟨hx1, hx2, hx3⟩ := unhide HX
  have hB1 : Below w.heap.size w (((w1.alloc (.cells #[.pointer (some ⟨s, 0, none⟩), .map (some mb)] 34)).alloc (.cells #[.pointer none, .slice none 0 0] 43)).alloc (.cells #[.string t] 9)) := below_alloc (below_alloc (below_alloc hx3 _) _) _
  have hz := hx3.size
  have hcN : (((w1.alloc (.cells #[.pointer (some ⟨s, 0, none⟩), .map (some mb)] 34)).alloc (.cells #[.pointer none, .slice none 0 0] 43)).alloc (.cells #[.string t] 9)).cell? ⟨w1.heap.size + 1 + 1, 0, none⟩ = some (.string t) := by rw [World.cell?_alloc_at _ _ _ _ (by simp)]; rfl
  have hml := (unhide HM).lt
  have hstart : RunAt w.heap.size s mb w1.heap.size (w1.heap.size + 1) RunM.new [] (((w1.alloc (.cells #[.pointer (some ⟨s, 0, none⟩), .map (some mb)] 34)).alloc (.cells #[.pointer none, .slice none 0 0] 43)).alloc (.cells #[.string t] 9)) := by
    have b0 : Below w1.heap.size w1 (w1.alloc (.cells #[.pointer (some ⟨s, 0, none⟩), .map (some mb)] 34)) := below_alloc (Below.refl _ _) _
    have b1 := below_alloc b0 (.cells #[.pointer none, .slice none 0 0] 43)
    have b2 := below_alloc b1 (.cells #[.string t] 9)
    have e1 := heap_alloc_new w1 (.cells #[.pointer (some ⟨s, 0, none⟩), .map (some mb)] 34)
    have own := BOwn.fresh (B := w.heap.size) (w := w1.alloc (.cells #[.pointer (some ⟨s, 0, none⟩), .map (some mb)] 34)) (Nat.le_trans hz b0.size)
    have own2 := own.later (below_alloc (Below.refl _ _) (.cells #[.string t] 9))
    refine ⟨F, none, ⟨(unhide HS).later b2, by simpa using own2, ?_, (unhide HM).later b2, (Env.start (unhide HL)).step hB1, hx1, fun hm => ?_, fun hm => ?_, by simp⟩⟩
    · rw [Below.heap_alloc _ _ _ (by simp; omega), Below.heap_alloc _ _ _ (by simp)]
      exact e1
    · have := ((unhide HS).all _ hm).2; omega
    · have := ((unhide HS).all _ hm).2; omega
  have HST := hide hstart
  have HB1 := hide hB1
  clear hstart hB1 HS HM HX hx1 hx2 hx3 hdk
  refine wpIn_rangeFunc_ownH rfl (by omega) (gf := 31) (lb := #[.pointer (some ⟨w1.heap.size + 1 + 1, 0, none⟩)]) rfl trivial (enters_of Tryz.func31 (by kernel_rfl) rfl)
    (lines_stops (6 - 1) (by omega) (w1.heap.size + 1 + 1) t ht _ (by simp) hcN) (fun _ _ => trivial) (fun _ _ _ _ _ _ _ _ => trivial) (Below.refl _ _) (fun _ => rfl)
    (fun pre W => RunAt w.heap.size s mb w1.heap.size (w1.heap.size + 1) (RunM.left RunM.new (lns pre)) (RunM.out RunM.new (lns pre)) W ∧ Below w.heap.size w W)
    (fun _ _ _ => False)
    (OwnFrom.and (fun pre A C row hs hg hr => hs.own hg (by simp; omega) (by simp; omega) hr) (ownFrom_below (Nat.le_refl _) (by simp; omega)))
    (fun _ _ _ _ _ hs _ _ => hs)
    ⟨unhide HST, unhide HB1⟩
    (fun x a' _ => a' = { tmps := #[.string t, undef, .string ⟨#[]⟩, .pointer (some ⟨w1.heap.size, 0, none⟩), .nilIface, .pointer (some ⟨w1.heap.size + 1, 0, none⟩), .string x.1, undef, undef, .string t, .int .i64 t.size, .bool false,
      .tuple #[.agg #[.pointer (some ⟨s, 0, none⟩), .map (some mb)], .nilIface], .tuple #[.agg #[.pointer (some ⟨s, 0, none⟩), .map (some mb)], .nilIface], .agg #[.pointer (some ⟨s, 0, none⟩), .map (some mb)], .nilIface, .nilIface, .bool false, undef, undef, undef, .string t,
      .func (.func 31) #[] #[.pointer (some ⟨w1.heap.size + 1 + 1, 0, none⟩)], .string x.1, undef, undef, undef, undef, undef, undef, undef, undef, undef, undef, undef, undef, undef, undef], defers := [] })
    (fun x a' => ownFrom_pure _ (fun _ => _)) ?assign ?body ?done ?stop
  case assign =>
    rintro l pre x W K hi hK
    dsimp only [lineVs]
    gi_wp2
    exact hK _ _ (KeepsFrom.refl _ _) trivial hi rfl
  case body =>
    rintro l pre x a' W hl ⟨r, hr⟩ ⟨hat, hB⟩ rfl hlt
    have hat0 := hat
    have g := RunM.left_good RunM.new_good (lns pre)
    have hol := RunM.out_len RunM.new_good (lns pre)
    have hlen := (RunM.lines_len t.data.toList.length t.data.toList (Nat.le_refl _)).1
    rw [← Go.Lib.size_eq] at hlen
    rw [lns_len] at hol
    have hll := RunM.line_len g x.1.data.toList
    have CA := hide (hat.call (fun F h0 hm hE => ranswer_any W g h0 hE hm x.2))
    have HO := hide (show (RunM.out RunM.new (lns pre) ++ (RunM.line (RunM.left RunM.new (lns pre)) x.1.data.toList).2) ++ [10] = RunM.out RunM.new (lns (pre ++ [x])) by rw [lns_snoc, RunM.out_snoc, List.append_assoc])
    have HLX := hide (show (RunM.line (RunM.left RunM.new (lns pre)) x.1.data.toList).1 = RunM.left RunM.new (lns (pre ++ [x])) by rw [lns_snoc, RunM.left_snoc])
    obtain ⟨d0, d1⟩ := hat.cells
    have HB := hide hB
    generalize (RunM.line (RunM.left RunM.new (lns pre)) x.1.data.toList).2 = ans at CA HO hll
    generalize (RunM.line (RunM.left RunM.new (lns pre)) x.1.data.toList).1 = y at CA HLX
    generalize RunM.out RunM.new (lns pre) = o0 at CA HO hol
    have hsz : o0.length + ans.length ≤ 200000 := by omega
    clear hat hat0 g hlen hol hll hB hcN hr HST HB1
    gi_wp2_with fail
    refine ⟨trivial, ?_⟩
    refine (CallsIn.inRound l (callsIn_wide.2 (unhide CA))).mono ?_
    rintro e W1 ⟨hA, h1, k1, b1⟩
    have H1 := hide h1
    have HK1 := hide k1
    have HB1 := hide b1
    clear h1 k1 b1 d0 d1 CA
    rcases hA with rfl | ⟨tt, E, rfl, hn⟩ | ⟨tt, rfl, hn⟩
    · have H2 := H1
      have HK2 := hide (KeepsOthers.refl W1)
      have HB2 := hide (Below.refl w.heap.size W1)
      gi_wp2_with fail
      refine ⟨trivial, ?_⟩
      refine (CallsIn.inRound l (callsIn_wide.2 (RunAt.put (unhide H2) ans (by omega)))).mono ?_
      rintro e W3 ⟨rfl, h3, k3, b3⟩
      have H3 := hide h3
      have HK3 := hide k3
      have HB3 := hide b3
      clear h3 k3 b3
      gi_wp2_with fail
      refine ⟨trivial, ?_⟩
      refine (CallsIn.inRound l (callsIn_wide.2 (RunAt.nl (unhide H3) (by rw [List.length_append]; omega)))).mono ?_
      rintro e W4 ⟨rfl, h4, k4, b4⟩
      rw [unhide HO, unhide HLX] at h4
      have H4 := hide h4
      have HK4 := hide k4
      have HB4 := hide b4
      clear h4 k4 b4
      gi_wp2
      exact ⟨((((unhide HK1).trans (unhide HK2)).trans (unhide HK3)).trans (unhide HK4)).from _, trivial, unhide H4, ((((unhide HB).trans (unhide HB1)).trans (unhide HB2)).trans (unhide HB3)).trans (unhide HB4)⟩
    · gi_wp2_with fail
      refine ⟨trivial, ?_⟩
      refine (CallsIn.inRound l (callsIn_wide.2 (rtold_errno E W1 (unhide H1).env.laid.err))).mono ?_
      rintro e W2 ⟨rfl, hb2⟩
      rw [hn]
      have H2 := hide ((unhide H1).later hb2)
      have HK2 := hide (below_others hb2)
      have HB2 := hide (hb2.mono (unhide H1).env.size)
      clear hb2 hn
      gi_wp2_with fail
      refine ⟨trivial, ?_⟩
      refine (CallsIn.inRound l (callsIn_wide.2 (RunAt.put (unhide H2) ans (by omega)))).mono ?_
      rintro e W3 ⟨rfl, h3, k3, b3⟩
      have H3 := hide h3
      have HK3 := hide k3
      have HB3 := hide b3
      clear h3 k3 b3
      gi_wp2_with fail
      refine ⟨trivial, ?_⟩
      refine (CallsIn.inRound l (callsIn_wide.2 (RunAt.nl (unhide H3) (by rw [List.length_append]; omega)))).mono ?_
      rintro e W4 ⟨rfl, h4, k4, b4⟩
      rw [unhide HO, unhide HLX] at h4
      have H4 := hide h4
      have HK4 := hide k4
      have HB4 := hide b4
      clear h4 k4 b4
      gi_wp2
      exact ⟨((((unhide HK1).trans (unhide HK2)).trans (unhide HK3)).trans (unhide HK4)).from _, trivial, unhide H4, ((((unhide HB).trans (unhide HB1)).trans (unhide HB2)).trans (unhide HB3)).trans (unhide HB4)⟩
    · gi_wp2_with fail
      refine ⟨trivial, ?_⟩
      refine (CallsIn.inRound l (callsIn_wide.2 (rtold_bad _ W1 (unhide H1).env.laid.err))).mono ?_
      rintro e W2 ⟨rfl, hb2⟩
      rw [← hn]
      have H2 := hide ((unhide H1).later hb2)
      have HK2 := hide (below_others hb2)
      have HB2 := hide (hb2.mono (unhide H1).env.size)
      clear hb2 hn
      gi_wp2_with fail
      refine ⟨trivial, ?_⟩
      refine (CallsIn.inRound l (callsIn_wide.2 (RunAt.put (unhide H2) ans (by omega)))).mono ?_
      rintro e W3 ⟨rfl, h3, k3, b3⟩
      have H3 := hide h3
      have HK3 := hide k3
      have HB3 := hide b3
      clear h3 k3 b3
      gi_wp2_with fail
      refine ⟨trivial, ?_⟩
      refine (CallsIn.inRound l (callsIn_wide.2 (RunAt.nl (unhide H3) (by rw [List.length_append]; omega)))).mono ?_
      rintro e W4 ⟨rfl, h4, k4, b4⟩
      rw [unhide HO, unhide HLX] at h4
      have H4 := hide h4
      have HK4 := hide k4
      have HB4 := hide b4
      clear h4 k4 b4
      gi_wp2
      exact ⟨((((unhide HK1).trans (unhide HK2)).trans (unhide HK3)).trans (unhide HK4)).from _, trivial, unhide H4, ((((unhide HB).trans (unhide HB1)).trans (unhide HB2)).trans (unhide HB3)).trans (unhide HB4)⟩
  case done =>
    rintro D ys W hD hys ⟨hat, hB⟩ hK
    have hdl : D < W.heap.size := (Array.getElem?_eq_some_iff.1 hK).1
    have HE := hide hat.env
    have HX : Hid (∃ o, BOwn w.heap.size W (w1.heap.size + 1) o (RunM.out RunM.new (lns ys))) := by
      obtain ⟨F, o, h⟩ := hat
      exact hide ⟨o, h.bld⟩
    obtain ⟨o, hb⟩ := unhide HX
    rw [hys] at hb
    have CS := hide (Any.Builder_String_any_k sh_lays169 sh_Builder_Extra_169 w.heap.size (w1.heap.size + 1) (RunM.out RunM.new (RunM.lines t.data.toList)) W (Go.Lib.IsBuilderF.of hb.is) hat.env.size)
    have HB := hide hB
    have HK := hide hK
    have hdn : ¬ D = w1.heap.size + 1 := by simp at hD; omega
    clear hb hat hB HX hys hK
    generalize hout : RunM.out RunM.new (RunM.lines t.data.toList) = out at CS
    have HOUT := hide hout
    clear hout
    gi_wp2_with fail
    refine ⟨trivial, ?_⟩
    refine (callsIn_wide.2 (unhide CS)).mono ?_
    rintro e W2 ⟨rfl, -, hb2, hk2⟩
    have hK2 : W2.heap[D]? = some (.deferred (some [])) := hk2 D _ (unhide HK) (by simp; omega) (by simp)
    gi_wp2
    refine ⟨by simp, .inl ⟨_, _, rfl, run_takeDeferred hK2, ?_⟩⟩
    exact ⟨_, results_tmp rfl _ _ _, by rw [unhide HOUT]; rfl, ((unhide HB).trans hb2).trans (belowK_b (w := w) (Nat.le_refl _) W2 D _ _ (by simp at hD; omega) hK2 rfl rfl)⟩
  case stop =>
    rintro D c pre W _ _ h _
    exact h.elim
end Go.Proofs.YthaicpepgianpakGreatDoor
