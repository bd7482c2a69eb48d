/-
  TagUnlike holds for every key, list, place, number and other number: numbers that are the same but for one have the same tag just if that one is the same, and just one number is the tag. No condition.
-/
import Derived.Test.YtkfijiklmmdmfaaRows
import Derived.WalkKit
import Derived.ProofKit
import Derived.OpenShut
import Derived.ShutString
import Derived.ChangeOld
import Derived.Below
import Derived.Test.YtkfijiklmmdmfaaTagWalks
namespace Go.Proofs.Ytkfijiklmmdmfaa.tagUnlike
open Go.ChangeShapes Go.WideShapes Go.ChangeAt Go.RowKit
open Go.ChangeMaps (open_string shut_string)
set_option linter.unusedVariables false

theorem own : ownKnob Try.prog.godebug = none := by kernel_rfl
theorem laidOut : laidOutB Try.prog = true := by kernel_rfl

/-- WHAT THE WALK IS TOLD OF A SLICE OF INTEGERS THAT CAME IN: it is nil; or it leads to a row of 'cap' cells, the numbers 'zs' (the first 'len' are its elements, the rest its spare room), each fitting its kind. -/
def IsRow (k : IntKind) (w : World) (a : Option Addr) (len cap : Nat) (zs : List Int) : Prop :=
  (a = none ∧ len = 0 ∧ cap = 0 ∧ zs = []) ∨
  ∃ x, a = some x ∧ len ≤ cap ∧ cap ≤ maxLen ∧ zs.length = cap ∧ (∀ i, i < zs.length → w.cell? (x.add i) = some (.int k (zs.getD i 0))) ∧ ∀ n ∈ zs, (Lit.int k n).wf = true

theorem Try.infoInt : (Try.prog.info? 3).map (fun i => (i.zero, i.size, i.bytes)) = some (some (.int .i64 0), 1, 8) := by kernel_rfl

theorem two_ints (w : World) : Ints (w.alloc (.cells #[.int .i64 2] 3)) (some ⟨w.heap.size, 0, none⟩) [2] := by
  refine ⟨by simp, fun k hk => ⟨w.heap.size, 0, rfl, ?_⟩⟩
  obtain rfl : k = 0 := by simpa using hk
  rw [World.cell?_alloc_at _ _ _ _ rfl]; rfl
theorem below_two (w : World) : Below w.heap.size w (w.alloc (.cells #[.int .i64 2] 3)) := (Below.refl _ _).alloc (Nat.le_refl _) _

theorem tag_set {key : Int} {zs : List Int} {i : Nat} {n : Int} (hi : i < zs.length) (he : TagM.err key zs = 0) (he' : TagM.err key (zs.set i n) = 0) :
    (TagM.tag key zs = TagM.tag key (zs.set i n)) ↔ n = zs.getD i 0 := by
  obtain ⟨hk, _, hall⟩ := TagM.err_zero.1 he
  obtain ⟨_, _, hall'⟩ := TagM.err_zero.1 he'
  have hk' := (TagM.inB_iff _).1 hk
  have e1 : zs = zs.take i ++ zs.getD i 0 :: zs.drop (i + 1) := by
    simp [List.getD, hi]
  have e2 : zs.set i n = zs.take i ++ n :: zs.drop (i + 1) := by
    rw [List.set_eq_take_append_cons_drop, if_pos hi]
  have h1 := all_getD hall i hi
  have h2 := all_getD hall' i (by simpa using hi)
  have h2' : 0 ≤ n ∧ n < 999983 := by simpa [List.getD, hi] using h2
  have := TagM.tag_one (a := zs.take i) (c := zs.drop (i + 1)) hk' h1 h2'
  rw [← e1, ← e2] at this
  rw [this]
  exact eq_comm

theorem beq_same (a b c d : Int) (h : a = b ↔ c = d) : ((a == b) == (c == d)) = true := by
  by_cases hc : c = d
  · have := h.2 hc; subst this; subst hc; simp
  · have h1 : ¬ a = b := fun x => hc (h.1 x)
    rw [beq_eq_false_iff_ne.2 h1, beq_eq_false_iff_ne.2 hc]; rfl

theorem check_same (key : Int) (a : Option Addr) (cap : Nat) (zs : List Int) (w : World) (hi : Ints w a zs) (he : TagM.err key zs = 0) :
    Calls Try.prog 8 #[.int .i64 key, .slice a zs.length cap, .int .i64 (TagM.tag key zs)] w fun e w' => e = .returned (.tuple #[.bool true, .nilIface]) ∧ w' = w := by
  have h := check_yes key a cap zs (TagM.tag key zs) w hi he (TagM.tag_bd _ _).1 (TagM.tag_bd _ _).2
  rw [beq_self_eq_true] at h
  exact h

theorem check_other (key : Int) (a : Option Addr) (cap : Nat) (zs : List Int) (n : Int) (w : World) (hi : Ints w a zs) (he : TagM.err key zs = 0) :
    ∃ b3 e3, Hid (Calls Try.prog 8 #[.int .i64 key, .slice a zs.length cap, .int .i64 n] w fun e w' => e = .returned (.tuple #[.bool b3, e3]) ∧ w' = w) ∧
      ((b3 = (n == TagM.tag key zs) ∧ e3 = .nilIface) ∨ (b3 = false ∧ e3 = .iface 23 (.int .i64 1))) := by
  by_cases h : 0 ≤ n ∧ n < 999983
  · exact ⟨_, _, check_yes key a cap zs n w hi he h.1 h.2, .inl ⟨rfl, rfl⟩⟩
  · exact ⟨_, _, check_out key a cap zs n w hi he (by omega), .inr ⟨rfl, rfl⟩⟩

theorem make_other (key : Int) (zs : List Int) :
    ∃ (v5 : Int) (e5 : Value), Hid (∀ (a : Option Addr) (cap : Nat) (w : World), Ints w a zs → Calls Try.prog 7 #[.int .i64 key, .slice a zs.length cap] w fun e w' => e = .returned (.tuple #[.int .i64 v5, e5]) ∧ w' = w) ∧
      (e5 = .nilIface ∨ ∃ x, e5 = .iface 23 (.int .i64 x)) ∧ (e5 = .nilIface → TagM.err key zs = 0 ∧ v5 = TagM.tag key zs) := by
  by_cases he : TagM.err key zs = 0
  · exact ⟨_, _, fun a cap w hi => make_yes key a cap zs w hi he, .inl rfl, fun _ => ⟨he, rfl⟩⟩
  · exact ⟨_, _, fun a cap w hi => make_no key a cap zs w hi he, .inr ⟨_, rfl⟩, fun h => by cases h⟩

theorem after {w w6 : World} {v6 : Value} {o : Obj} {len k : Nat} {zs : List Int} {n zk : Int} {b off : Nat} (hown : w6.ownsRow (w.heap.size + 1) 3 1 v6 len (zs.map (Value.int .i64)))
    (hgrow : (w.alloc o).grownBy w6 (Value.slice none 0 0).ownBlock) (hk : k < len) (hle : len ≤ 12) (hlen : zs.length = len) (hck : w.cell? ⟨b, off + k, none⟩ = some (.int .i64 zk)) :
    ∃ g cap old, v6 = .slice (some ⟨g, 0, none⟩) len cap ∧ w6.cell? ⟨g, k, none⟩ = some (.int .i64 old) ∧ w6.frozen? ⟨g, k, none⟩ = false ∧
      Ints (w6.setCell ⟨g, k, none⟩ (.int .i64 n)) (some ⟨g, 0, none⟩) (zs.set k n) ∧ (w6.setCell ⟨g, k, none⟩ (.int .i64 n)).cell? ⟨b, off + k, none⟩ = some (.int .i64 zk) ∧
      Below w.heap.size w (w6.setCell ⟨g, k, none⟩ (.int .i64 n)) := by
  obtain ⟨g, cap, rfl, hg, hm⟩ := own_shape hown (by omega)
  have hbel : Below w.heap.size w w6 := ((Below.refl _ _).alloc (Nat.le_refl _) o).grown hgrow (by simp) (fun k hk => by cases hk)
  have hbel' : Below w.heap.size w (w6.setCell ⟨g, k, none⟩ (.int .i64 n)) := hbel.setCell (by simp; omega) _
  have hst := (hown.stored k (.int .i64 n)).1
  have hset : (zs.map (Value.int .i64)).set k (.int .i64 n) = (zs.set k n).map (Value.int .i64) := by rw [List.map_set]
  rw [hset] at hst
  refine ⟨g, cap, zs.getD k 0, rfl, ?_, hown.frozenAt k, (own_ints hst hm).2, cell_later hbel' hck, hbel'⟩
  rw [hown.cellAt k (by omega)]
  simp [hlen, hk, List.getD]

set_option maxHeartbeats 1600000 in
theorem walk (a0 : Int) (a1 : Option Addr) (len1 cap1 : Nat) (z1 : List Int) (a2 : Int) (a3 : Int) (a4 : Int) (w : World) (w0 : (Lit.int .i64 a0).wf = true) (w1 : IsRow .i64 w a1 len1 cap1 z1) (w2 : (Lit.int .i64 a2).wf = true) (w3 : (Lit.int .i64 a3).wf = true) (w4 : (Lit.int .i64 a4).wf = true) :
    Calls Try.prog 4 #[.int .i64 a0, .slice a1 len1 cap1, .int .i64 a2, .int .i64 a3, .int .i64 a4] w fun e w' => e = .returned (.bool true) ∧ Below w.heap.size w w' := by
  obtain ⟨zs, rfl, hI, hwf, hsome⟩ := row_ints rfl w1
  clear w0 w1 w2 w3 w4 hwf
  have hI1 := hI.later (below_two w)
  have h12 : TagM.err 1 [2] = 0 := by decide
  have t12 : TagM.tag 1 [2] = 814371 := by decide
  have C0 := hide (make_yes 1 (some ⟨w.heap.size, 0, none⟩) 1 [2] _ (two_ints w) h12)
  have T12 := hide t12
  clear h12 t12
  by_cases he : TagM.err a0 zs = 0
  · have C1 := hide (make_yes a0 a1 cap1 zs _ hI1 he)
    have C2 := hide (check_same a0 a1 cap1 zs _ hI1 he)
    obtain ⟨b3, e3, C3, hb3⟩ := check_other a0 a1 cap1 zs a4 _ hI1 he
    by_cases hi : 0 ≤ a2 ∧ a2 < zs.length
    · obtain ⟨k, rfl⟩ := Int.eq_ofNat_of_zero_le hi.1
      have hk : k < zs.length := by omega
      obtain ⟨b, off, rfl, hcz⟩ := hI.row (by omega)
      have hle : zs.length ≤ 12 := (TagM.err_zero.1 he).2.1
      obtain ⟨v5, e5, C5, hor, h5⟩ := make_other a0 (zs.set k a3)
      have hfin : e5 = .nilIface → ((TagM.tag a0 zs == v5) == (a3 == zs.getD k 0)) = true := by
        intro h
        obtain ⟨he', hv⟩ := h5 h
        rw [hv]
        exact beq_same _ _ _ _ (tag_set hk he he')
      have hc1 := hI1.cells
      have hck := hcz k hk
      have HFin := hide hfin
      have HI := hide hI
      have HC1 := hide hc1
      simp only [List.length_set] at C5
      have HL := hide (rfl : zs.length = zs.length)
      have hck' := hck
      generalize zs.getD k 0 = zk at hck HFin
      clear hck'
      have hB := World.block_lt_of_cell? _ _ hck
      have HB := hide hB
      have HCK := hide hck
      clear hfin hI hI1 hsome hcz he hc1 h5 hi hck hB
      obtain ⟨i0, ii, iz0, iz1, iz2⟩ := info_parts Try.infoInt
      generalize TagM.tag a0 zs = t at C1 C2 hb3 HFin
      generalize hlen : zs.length = len at C1 C2 C3 C5 hk hle HL ⊢
      clear HL
      have HLen := hide hlen
      clear hlen
      rcases hb3 with ⟨rfl, rfl⟩ | ⟨rfl, rfl⟩
      all_goals
        go_enter Try.func4, Try.ntmps4
        go_wp2_with fail
        refine (unhide C0).mono ?_
        rw [unhide T12]
        rintro e w' ⟨rfl, rfl⟩
        go_wp2_with fail
        refine (unhide C1).mono ?_
        rintro e w' ⟨rfl, rfl⟩
        go_wp2_with fail
        refine (unhide C2).mono ?_
        rintro e w' ⟨rfl, rfl⟩
        go_wp2_with fail
        refine (unhide C3).mono ?_
        rintro e w' ⟨rfl, rfl⟩
        go_wp2_with (at_builtin; refine wpList_append_own _ rfl (.tmp 76) (.tmp 77) 26 rfl (w.heap.size + 1) 3 i0 (.int .i64 0) 1 8 Try.underlying26 ii iz0 iz1 iz2 rfl (by decide) _ _ _ rfl (World.ownsRow_nil _ _ _ _) ⟨b, off, none⟩ len cap1 (zs.map (Value.int .i64)) rfl ?c0 (unhide HC1) (ints_one _) ?c3 ?c4 ?c5 ?_)
        case c0 => rw [List.length_map, unhide HLen, Nat.mul_one]
        case c3 => unfold maxLen; omega
        case c4 => omega
        case c5 => simp
        intro v6 w6 hown hgrow _
        obtain ⟨g, cap6, old, hv6, hc6, hf6, hI6, hk6, hb6⟩ := after (n := a3) hown hgrow hk hle (unhide HLen) (unhide HCK)
        rw [hv6]
        have HI6 := hide hI6
        have HB6 := hide hb6
        clear hown hgrow hv6 hI6 hb6
        rcases hor with rfl | ⟨x5, rfl⟩
        · have hfin := unhide HFin rfl
          go_wp2_with fail
          refine (unhide C5 _ _ _ (unhide HI6)).mono ?_
          rintro e w' ⟨rfl, rfl⟩
          go_wp2
          go_ret
          exact ⟨rfl, unhide HB6⟩
        · go_wp2_with fail
          refine (unhide C5 _ _ _ (unhide HI6)).mono ?_
          rintro e w' ⟨rfl, rfl⟩
          go_wp2
          go_ret
          exact ⟨rfl, unhide HB6⟩
    · clear hI hsome he hI1
      generalize TagM.tag a0 zs = t at C1 C2 hb3
      generalize zs.length = len at C1 C2 C3 hi ⊢
      rcases hb3 with ⟨rfl, rfl⟩ | ⟨rfl, rfl⟩
      all_goals
        by_cases hi0 : a2 < 0
        all_goals
          go_enter Try.func4, Try.ntmps4
          go_wp2_with fail
          refine (unhide C0).mono ?_
          rw [unhide T12]
          rintro e w' ⟨rfl, rfl⟩
          go_wp2_with fail
          refine (unhide C1).mono ?_
          rintro e w' ⟨rfl, rfl⟩
          go_wp2_with fail
          refine (unhide C2).mono ?_
          rintro e w' ⟨rfl, rfl⟩
          go_wp2_with fail
          refine (unhide C3).mono ?_
          rintro e w' ⟨rfl, rfl⟩
          go_wp2
          go_ret
          exact ⟨rfl, below_two w⟩
  · have C1 := hide (make_no a0 a1 cap1 zs _ hI1 he)
    generalize TagM.err a0 zs = e0 at C1
    clear he hI1 hI hsome
    generalize zs.length = len at C1 ⊢
    go_enter Try.func4, Try.ntmps4
    go_wp2_with fail
    refine (unhide C0).mono ?_
    rw [unhide T12]
    rintro e w' ⟨rfl, rfl⟩
    go_wp2_with fail
    refine (unhide C1).mono ?_
    rintro e w' ⟨rfl, rfl⟩
    go_wp2
    go_ret
    exact ⟨rfl, below_two w⟩

/-! ### THE ROW's STEP: WRITTEN OUT: LEAVE IT -/
set_option maxRecDepth 100000 in
theorem lifted (os : Os) (started : os.Started) (H : Type) (enc : TypeId × Value → H) :
    ReturnsInHanded {} Try.checked os 4 .any (Rows.tagUnlikeSpec.pre6 enc Try.prog Try.f4 Rows.tagUnlikeRow.domain false) (Rows.tagUnlikeSpec.post enc Try.prog Try.f4 false true false false) := by
  refine returnsInHanded_of_change (C := Try.checked) own started (by kernel_rfl) Try.func4
    (ChangeSpec.witness6 (enc := enc) (C := Try.checked) false ⟨#[], #[.int .i64 0, .slice none 0 0, .int .i64 0, .int .i64 0, .int .i64 0], []⟩ 8 (by kernel_rfl) (by kernel_rfl) (by kernel_rfl) (by kernel_rfl)) ?_
  intro W base args ds gs before hval0 hW hcnd _
  have hval : ∀ (j : Nat) t v, Try.f4.params[j]? = some t → args[j]? = some v → Value.okWide Try.prog W .any base t v := hval0
  have hW' := hW
  obtain ⟨p, q, hA0, hV, rfl, hfz, hnd⟩ := hW
  have hA : DataW.TrodAll enc Try.prog W 0 (fun _ => true) true Try.f4.params.toList args.toList ds p := hA0
  rw [Try.params4] at hA hval
  obtain ⟨v0, vs0, d0, ds0, p0, q0, hargs, rfl, rfl, h0, r0⟩ := trodAll_cons hA
  obtain ⟨v1, vs1, d1, ds1, p1, q1, rfl, rfl, rfl, h1, r1⟩ := trodAll_cons r0
  obtain ⟨v2, vs2, d2, ds2, p2, q2, rfl, rfl, rfl, h2, r2⟩ := trodAll_cons r1
  obtain ⟨v3, vs3, d3, ds3, p3, q3, rfl, rfl, rfl, h3, r3⟩ := trodAll_cons r2
  obtain ⟨v4, vs4, d4, ds4, p4, q4, rfl, rfl, rfl, h4, r4⟩ := trodAll_cons r3
  obtain ⟨rfl, rfl, rfl⟩ := trodAll_nil r4
  obtain rfl : args = #[v0, v1, v2, v3, v4] := by cases args; simp_all
  obtain ⟨rfl, rfl⟩ := trodVars_none hV
  obtain ⟨a0, rfl, rfl, rfl, w0⟩ := open_int Try.underlying3 (hval 0 3 v0 rfl rfl) h0
  obtain ⟨a1, len1, cap1, rfl⟩ := okWide_slice Try.underlying26 (hval 1 26 v1 rfl rfl)
  have k1 := h1
  have lt1 : ∀ x ∈ p1, x.block < W.heap.size := by obtain ⟨m, hm⟩ := k1; exact DataW.trod_lt m _ _ _ hm
  obtain ⟨z1, w1⟩ : ∃ zs, IsRow .i64 W a1 len1 cap1 zs := by
    obtain ⟨fuel, hf⟩ := h1
    rcases open_ints Try.underlying26 Try.underlying3 (by kernel_rfl) hf with ⟨hcs, _⟩ | ⟨x, l, c, zs, hcs, _, hl, hm, hz, _, hcell, hwz⟩
    · simp [Value.cells] at hcs
      obtain ⟨rfl, rfl, rfl⟩ := hcs
      exact ⟨[], .inl ⟨rfl, rfl, rfl, rfl⟩⟩
    · simp [Value.cells] at hcs
      obtain ⟨rfl, rfl, rfl⟩ := hcs
      exact ⟨zs, .inr ⟨_, rfl, hl, hm, by simpa using hz, hcell, hwz⟩⟩
  obtain ⟨a2, rfl, rfl, rfl, w2⟩ := open_int Try.underlying3 (hval 2 3 v2 rfl rfl) h2
  obtain ⟨a3, rfl, rfl, rfl, w3⟩ := open_int Try.underlying3 (hval 3 3 v3 rfl rfl) h3
  obtain ⟨a4, rfl, rfl, rfl, w4⟩ := open_int Try.underlying3 (hval 4 3 v4 rfl rfl) h4
  clear hA0 hval0
  refine (walk a0 a1 len1 cap1 z1 a2 a3 a4 W w0 w1 w2 w3 w4).mono fun e W' ⟨he, bel⟩ => ?_
  subst he
  exact ⟨_, rfl, _, _, _, [], _, [], hW', trodAll_mk1 (shut_bool Try.underlying4 _), (trodAll_cons_mk (shut_int Try.underlying3 w0) (trodAll_cons_mk (Below.trod laidOut (by kernel_rfl) (of_decide_eq_true (by kernel_rfl)) k1 bel lt1) (trodAll_cons_mk (shut_int Try.underlying3 w2) (trodAll_cons_mk (shut_int Try.underlying3 w3) (trodAll_cons_mk (shut_int Try.underlying3 w4) trodAll_mk0))))), rfl, bel.frame _, fun h => by cases h⟩

theorem over : Rows.tagUnlikeRow.holds Try.pinned (OpenSpec.ofChange Rows.tagUnlikeSpec) :=
  OpenClaim.holds_of_wide 4 Try.f4 rfl rfl rfl rfl rfl rfl rfl ⟨rfl, rfl, rfl, rfl, rfl⟩ rfl rfl rfl rfl rfl (by kernel_rfl) Try.func4 (by kernel_rfl)
    (of_decide_eq_true (by kernel_rfl)) (by unfold Func.isWrapper; first | (rw [if_pos (by decide +kernel)]; kernel_rfl) | (rw [if_neg (by decide +kernel)]; exact ⟨rfl, rfl⟩))
    (fun os started H enc _ => lifted os started H enc)

end Go.Proofs.Ytkfijiklmmdmfaa.tagUnlike
namespace Go.Proofs.Ytkfijiklmmdmfaa
theorem tagUnlike_holds : Rows.TagUnlikeSaid := tagUnlike.over
#print axioms tagUnlike_holds
end Go.Proofs.Ytkfijiklmmdmfaa
