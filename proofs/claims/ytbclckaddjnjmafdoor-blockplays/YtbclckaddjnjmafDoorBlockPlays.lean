/-
  BlockPlays holds for every list of deeds: what is refused, which are told, and up to where they are kept, are the document's. The listed variable errors.errorType starts as the program's text lays it (the card's tie). No other condition.
-/
import Derived.Test.YtbclckaddjnjmafDoorBlockWalks
import Derived.Test.YtbclckaddjnjmafDoorTie
import Derived.Test.YtbclckaddjnjmafDoorCards
import Derived.ProofKit
import Derived.Lib.SmallJoins
import Derived.LaidMore
import Derived.LaidHandle
import Derived.LaidLaws
import Derived.Stop.Joined
import Derived.SevenTiedAt
import Derived.Deep.Cut
namespace Go.Proofs.YtbclckaddjnjmafDoor.blockPlays
open Go.ChangeShapes Go.WideShapes Go.ChangeAt Go.RowKit Go.Joins
set_option linter.unusedVariables false

theorem own : ownKnob Tryd.prog.godebug = none := by kernel_rfl
theorem laidOut : laidOutB Tryd.prog = true := by kernel_rfl
def IsRow (k : IntKind) (w : World) (a : Option Addr) (len cap : Nat) (zs : List Int) : Prop :=
  (a = none ∧ len = 0 ∧ cap = 0 ∧ zs = []) ∨
  ∃ x, a = some x ∧ len ≤ cap ∧ cap ≤ maxLen ∧ zs.length = cap ∧ (∀ i, i < zs.length → w.cell? (x.add i) = some (.int k (zs.getD i 0))) ∧ ∀ n ∈ zs, (Lit.int k n).wf = true
def IsStrs (w : World) (a : Option Addr) (len cap : Nat) (zs : List ByteArray) : Prop :=
  (a = none ∧ len = 0 ∧ cap = 0 ∧ zs = []) ∨
  ∃ x, a = some x ∧ len ≤ cap ∧ cap ≤ maxLen ∧ zs.length = cap ∧ (∀ i, i < zs.length → w.cell? (x.add i) = some (.string (zs.getD i ByteArray.empty))) ∧ ∀ s ∈ zs, s.size ≤ maxLen
def IsPairs (w : World) (a : Option Addr) (len cap : Nat) (zs : List (Int × Int)) : Prop :=
  (a = none ∧ len = 0 ∧ cap = 0 ∧ zs = []) ∨
  ∃ x, a = some x ∧ len ≤ cap ∧ cap ≤ maxLen ∧ zs.length = cap ∧ ∀ i, i < cap → w.cell? (x.add (i * 2)) = some (.int .i64 (zs.getD i (0, 0)).1) ∧ w.cell? (x.add (i * 2 + 1)) = some (.int .i64 (zs.getD i (0, 0)).2)
def IsRows (w : World) (a : Option Addr) (len cap : Nat) (A : Nat → Option Addr) (L C : Nat → Nat) (Z : Nat → List Int) : Prop :=
  (a = none ∧ len = 0 ∧ cap = 0) ∨
  ∃ x, a = some x ∧ len ≤ cap ∧ cap ≤ maxLen ∧ ∀ r, r < cap → w.cell? (x.add r) = some (.slice (A r) (L r) (C r)) ∧ L r ≤ C r ∧ C r ≤ maxLen ∧ (Z r).length = C r ∧ (∀ n ∈ Z r, (Lit.int .i64 n).wf = true) ∧ (A r = none → C r = 0) ∧
    ∀ a', A r = some a' → ∀ c, c < C r → w.cell? (a'.add c) = some (.int .i64 ((Z r).getD c 0))


set_option maxHeartbeats 6400000 in
set_option maxRecDepth 8000 in
theorem walk1 (a : Option Addr) (len cap : Nat) (l : List Int) (w : World) (hlen : l.length = len) (hI : Ints w a l) (hg : ErrType w) :
    Calls Tryd.prog 5 #[.slice a len cap] w fun e w' => e = .returned (.bool true) ∧ Below w.heap.size w w' := by
  have HG := hide hg
  have HLEN := hide hlen
  have HI := hide hI
  clear hlen hI hg
  go_enter Tryd.func5, Tryd.ntmps5
  go_wp2_with fail
  refine (bnew_any _).mono ?_
  rintro e w1 ⟨rfl, h1, hb1⟩
  have HL1 := hide h1
  have HB1 := hide hb1
  clear h1 hb1
  have hlb : w.heap.size < w1.heap.size := (unhide HL1).2
  go_wp2
  have HM2 := hide (Held.fresh (w := w1) (n2 0 0) 38 rfl)
  have HL2 := hide ((unhide HL1).later (show Below w1.heap.size w1 (w1.alloc (.cells (n2 0 0).toArray 38)) from (by (repeat' (first | exact Below.refl _ _ | refine Below.alloc ?_ ?_ _ | refine Below.setCell ?_ ?_ _ | refine Below.drew ?_)); all_goals (first | exact Nat.le_refl _ | omega | (simp; done) | (simp; omega)))))
  have HB2 := hide (show Below w.heap.size w (w1.alloc (.cells (n2 0 0).toArray 38)) from (by (repeat' (first | exact Below.refl _ _ | refine Below.alloc ?_ ?_ _ | refine Below.setCell ?_ ?_ _ | refine Below.drew ?_ | refine Below.trans ?_ (Below.mono (unhide HB1) ?_))); all_goals (first | exact Nat.le_refl _ | omega | (simp; done) | (simp; omega))))
  clear HL1 HB1
  go_loopw [5] (fun i wr => ∃ (k : Nat) (n m : Int), k ≤ 200 ∧ i = .int .i64 k ∧ 0 ≤ n ∧ n ≤ m ∧ m ≤ 1000 ∧ m % 8 = 0 ∧ Hid (Held wr w.heap.size (n2 n m)) ∧ Hid (Held wr w1.heap.size (n2 n m)) ∧ Hid (Below w.heap.size w wr)) (fun i _ => 200 - (intOf i).toNat)
  case atStart => exact ⟨0, 0, 0, by omega, rfl, by omega, by omega, by omega, by omega, HL2, HM2, HB2⟩
  case round =>
    clear HL2 HM2 HB2
    obtain ⟨k, n, m, hk, rfl, hr0, hr1, hr2, hr3, HL, HM, HB⟩ := hrel
    by_cases hkl : (k : Int) < (len : Int)
    · by_cases hk1 : (k : Int) < 200
      · obtain ⟨b, off, rfl, hc'⟩ := (unhide HI).2 k (by rw [unhide HLEN]; omega)
        have hc := cell_later (unhide HB) hc'
        have hk0 : (0 : Int) ≤ (k : Int) := by omega
        have hbl : b < wr.heap.size := World.block_lt_of_cell? _ _ hc
        generalize l.getD k 0 = d at hc
        clear hc'
        by_cases hd : d = 0
        · subst hd
          go_wp2_with fail
          refine (bcrash_any _ n m _ (unhide HL)).mono ?_
          rintro e w6 ⟨rfl, h6, k6⟩
          have HL6 := hide h6
          have HM6 := hide (k6.held (unhide HM) (by simp; omega))
          have HB6 := hide (bown k6 (unhide HB) (Nat.le_refl _))
          clear h6 k6
          obtain ⟨⟨m0, m1⟩, g0, g1⟩ := (unhide HM6).c2
          have ml := (unhide HM6).2
          go_upto_region 14 with fail
          have HM7 := hide ((unhide HM6).put 0 (.int .i64 m))
          have HL7 := hide ((unhide HL6).far (c := w1.heap.size) (by omega) 0 (.int .i64 m))
          have HB7 := hide (Below.setCell (unhide HB6) (p := ⟨w1.heap.size, 0, none⟩) (show w.heap.size ≤ w1.heap.size by omega) (.int .i64 m))
          generalize w6.setCell ⟨w1.heap.size, 0, none⟩ (.int .i64 m) = w7 at HM7 HL7 HB7 ⊢
          clear m0 m1 g0 g1 ml HM6 HL6 HB6
          obtain ⟨⟨m0, m1⟩, g0, g1⟩ := (unhide HM7).c2
          have ml := (unhide HM7).2
          go_wp2
          go_quiet ((go_at_call 14; exact Calls.quiet_of_same (bbound_any _ m m _ ((unhide HL7).drewN _))))
          go_wp2
          go_roundw
          case rel => exact ⟨k + 1, m, m, by omega, by go_num, by omega, by omega, by omega, by omega, hide ((unhide HL7).drewN _), hide ((unhide HM7).drewN _), hide (below_drewN (unhide HB7) _)⟩
          case measure => simp [intOf]; omega
        · have hd2 : (d == 0) = false := by simp [hd]
          by_cases hnm : n = m
          · subst hnm
            by_cases hf : 1000 < n + 8
            · obtain rfl : n = 1000 := by omega
              go_wp2_with fail
              refine (rbnext_full _ 1000 _ (unhide HM) (by omega) (by omega)).mono ?_
              rintro e w5 ⟨rfl, h5, k5⟩
              have HM5 := hide h5
              have HL5 := hide (k5.held (unhide HL) (by simp; omega))
              have HB5 := hide (bown k5 (unhide HB) (by omega))
              clear h5 k5
              go_wp2_with fail
              refine (bnext_full _ 1000 _ (unhide HL5) (by omega) (by omega)).mono ?_
              rintro e w6 ⟨rfl, h6, k6⟩
              have HL6 := hide h6
              have HM6 := hide (k6.held (unhide HM5) (by simp; omega))
              have HB6 := hide (bown k6 (unhide HB5) (Nat.le_refl _))
              clear h6 k6
              go_wp2_with fail
              refine (same_errno _ _ _ ((unhide HG).later (unhide HB6))).mono ?_
              rintro e w7 ⟨rfl, hb7⟩
              have HL7 := hide ((unhide HL6).later hb7)
              have HM7 := hide ((unhide HM6).later hb7)
              have HB7 := hide (bel3 (unhide HB6) (Below.refl _ _) hb7)
              clear hb7
              obtain ⟨⟨m0, m1⟩, g0, g1⟩ := (unhide HM7).c2
              have ml := (unhide HM7).2
              go_wp2
              go_quiet ((go_at_call 14; exact Calls.quiet_of_same (bbound_any _ 1000 1000 _ ((unhide HL7).drewN _))))
              go_wp2
              go_roundw
              case rel => exact ⟨k + 1, 1000, 1000, by omega, by go_num, by omega, by omega, by omega, by omega, hide ((unhide HL7).drewN _), hide ((unhide HM7).drewN _), hide (below_drewN (unhide HB7) _)⟩
              case measure => simp [intOf]; omega
            · have hf1 : n + 8 ≤ 1000 := by omega
              have e9 : (n == n) = true := by simp
              go_wp2_with fail
              refine (rbnext_more _ n _ (unhide HM) (by omega) hf1).mono ?_
              rintro e w5 ⟨rfl, h5, k5⟩
              have HM5 := hide h5
              have HL5 := hide (k5.held (unhide HL) (by simp; omega))
              have HB5 := hide (bown k5 (unhide HB) (by omega))
              clear h5 k5
              go_wp2_with fail
              refine (bnext_more _ n _ (unhide HL5) (by omega) hf1).mono ?_
              rintro e w6 ⟨rfl, h6, k6⟩
              have HL6 := hide h6
              have HM6 := hide (k6.held (unhide HM5) (by simp; omega))
              have HB6 := hide (bown k6 (unhide HB5) (Nat.le_refl _))
              clear h6 k6
              go_wp2_with fail
              refine (same_nil _ _).mono ?_
              rintro e w7 ⟨rfl, hb7⟩
              have HL7 := hide ((unhide HL6).later hb7)
              have HM7 := hide ((unhide HM6).later hb7)
              have HB7 := hide (bel3 (unhide HB6) (Below.refl _ _) hb7)
              clear hb7
              obtain ⟨⟨m0, m1⟩, g0, g1⟩ := (unhide HM7).c2
              have ml := (unhide HM7).2
              go_wp2
              go_quiet ((go_at_call 14; exact Calls.quiet_of_same (bbound_any _ (n + 1) (n + 8) _ ((unhide HL7).drewN _))))
              go_wp2
              go_roundw
              case rel => exact ⟨k + 1, (n + 1), (n + 8), by omega, by go_num, by omega, by omega, by omega, by omega, hide ((unhide HL7).drewN _), hide ((unhide HM7).drewN _), hide (below_drewN (unhide HB7) _)⟩
              case measure => simp [intOf]; omega
          · have hn1 : n < m := by omega
            have e9 : (n == n) = true := by simp
            go_wp2_with fail
            refine (rbnext_yes _ n m _ (unhide HM) (by omega) hn1 (by omega)).mono ?_
            rintro e w5 ⟨rfl, h5, k5⟩
            have HM5 := hide h5
            have HL5 := hide (k5.held (unhide HL) (by simp; omega))
            have HB5 := hide (bown k5 (unhide HB) (by omega))
            clear h5 k5
            go_wp2_with fail
            refine (bnext_yes _ n m _ (unhide HL5) (by omega) hn1 (by omega)).mono ?_
            rintro e w6 ⟨rfl, h6, k6⟩
            have HL6 := hide h6
            have HM6 := hide (k6.held (unhide HM5) (by simp; omega))
            have HB6 := hide (bown k6 (unhide HB5) (Nat.le_refl _))
            clear h6 k6
            go_wp2_with fail
            refine (same_nil _ _).mono ?_
            rintro e w7 ⟨rfl, hb7⟩
            have HL7 := hide ((unhide HL6).later hb7)
            have HM7 := hide ((unhide HM6).later hb7)
            have HB7 := hide (bel3 (unhide HB6) (Below.refl _ _) hb7)
            clear hb7
            obtain ⟨⟨m0, m1⟩, g0, g1⟩ := (unhide HM7).c2
            have ml := (unhide HM7).2
            go_wp2
            go_quiet ((go_at_call 14; exact Calls.quiet_of_same (bbound_any _ (n + 1) m _ ((unhide HL7).drewN _))))
            go_wp2
            go_roundw
            case rel => exact ⟨k + 1, (n + 1), m, by omega, by go_num, by omega, by omega, by omega, by omega, hide ((unhide HL7).drewN _), hide ((unhide HM7).drewN _), hide (below_drewN (unhide HB7) _)⟩
            case measure => simp [intOf]; omega
      · go_wp2
        go_ret
        exact ⟨rfl, unhide HB⟩
    · go_wp2
      go_ret
      exact ⟨rfl, unhide HB⟩

theorem walk (a0 : Option Addr) (len0 cap0 : Nat) (z0 : List Int) (w : World) (w0 : IsRow .i64 w a0 len0 cap0 z0) (hg : ErrType w) :
    Calls Tryd.prog 5 #[.slice a0 len0 cap0] w fun e w' => e = .returned (.bool true) ∧ Below w.heap.size w w' := by
  obtain ⟨zs, hlen, hI, _, _⟩ := row_ints rfl w0
  exact walk1 a0 len0 cap0 zs w hlen hI hg


theorem gErr : Tryd.prog.globalNamed "errors.errorType" = some 0 := by kernel_rfl
theorem rtErr : (Tryd.prog.cutTypes.find? (·.1 == "internal/reflectlite.rtype")).map (·.2) = some 63 := by kernel_rfl
theorem oneRow : ((List.range 105).filter fun t => Tryd.prog.rowNamed t [101, 114, 114, 111, 114]) = [26] := by kernel_rfl
theorem sizeT : Tryd.prog.types.size = 105 := by kernel_rfl
theorem handle_of_laid {W : World} (h : laidMetH Tryd.prog Rows.blockPlaysRow.laid W) : ErrType W := by
  have h' : laidMet Tryd.prog [] W ∧ handlesMet Tryd.prog Rows.blockPlaysRow.laid W := h
  obtain ⟨name, u, ty, e1, e2, e3, e4, e5⟩ := h'.2 _ (List.mem_singleton.2 rfl)
  have en : name = [101, 114, 114, 111, 114] := (Option.some.inj e1).symm
  subst en
  obtain rfl := Option.some.inj (rtErr.symm.trans e2)
  have hm : ty ∈ (List.range 105).filter fun t => Tryd.prog.rowNamed t [101, 114, 114, 111, 114] := List.mem_filter.2 ⟨List.mem_range.2 (by rw [← sizeT]; exact e3), e4⟩
  rw [oneRow] at hm
  obtain rfl := List.mem_singleton.1 hm
  have hh : typeHandle Tryd.prog 26 = .pointer (some ⟨1, 26, none⟩) := by kernel_rfl
  rw [hh] at e5
  unfold ErrType
  simpa using World.var?_cell gErr e5 0
theorem door_met (os : Os) (args : Array Value) : laidMetH Tryd.prog Rows.blockPlaysRow.laid ((World.doorLaid Tryd.prog 400 os).forCall (fun _ _ => 0) ⟨#[], args, []⟩).memory :=
  laidMetH_of_parts (laidMet_nil _ _) (by kernel_rfl)


set_option maxRecDepth 100000 in
theorem lifted (os : Os) (started : os.Started) (H : Type) (enc : TypeId × Value → H) :
    ReturnsInHanded {} Tryd.checked os 5 .any (fun w args => (Rows.blockPlaysSpec.pre enc Tryd.prog Tryd.f5 [] false w args ∧ laidMetH Tryd.prog Rows.blockPlaysRow.laid w) ∧ sizedMet enc Tryd.prog Tryd.f5 (OpenSpec.ofChange Rows.blockPlaysSpec) false w args) (Rows.blockPlaysSpec.post enc Tryd.prog Tryd.f5 false true false false) := by
  refine returnsInHanded_of_change_and (C := Tryd.checked) (X := fun w _ => laidMetH Tryd.prog Rows.blockPlaysRow.laid w) (fun _ _ _ hh h => h.of_heap hh) own started (by kernel_rfl) Tryd.func5
    (ChangeSpec.witness_shaped (enc := enc) (C := Tryd.checked) (os := os) (X := fun w _ => laidMetH Tryd.prog Rows.blockPlaysRow.laid w) false (World.doorLaid Tryd.prog 400 os) #[.slice none 0 0] 8 rfl (World.shaped_of_RefB (by kernel_rfl) (by kernel_rfl)) (by kernel_rfl) (by kernel_rfl) (by kernel_rfl) (door_met os _)) ?_
  intro W base args ds gs before hval0 hW _ hsz hL _
  have hg := handle_of_laid hL
  have hval : ∀ (j : Nat) t v, Tryd.f5.params[j]? = some t → args[j]? = some v → Value.okWide Tryd.prog W .any base t v := hval0
  have hW' := hW
  obtain ⟨p, q, hA0, hV, rfl, hfz, hnd⟩ := hW
  have hA : DataW.TrodAll enc Tryd.prog W 0 (fun _ => true) true Tryd.f5.params.toList args.toList ds p := hA0
  rw [Tryd.params5] at hA hval
  obtain ⟨v0, vs0, d0, ds0, p0, q0, hargs, rfl, rfl, h0, r0⟩ := trodAll_cons hA
  obtain ⟨rfl, rfl, rfl⟩ := trodAll_nil r0
  obtain rfl : args = #[v0] := by cases args; simp_all
  obtain ⟨rfl, rfl⟩ := trodVars_none hV
  have k0 := h0
  have lt0 : ∀ x ∈ p0, x.block < W.heap.size := by obtain ⟨m, hm⟩ := k0; exact DataW.trod_lt m _ _ _ hm
  obtain ⟨a0, len0, cap0, rfl⟩ := okWide_slice Tryd.underlying22 (hval 0 22 v0 rfl rfl)
  obtain ⟨z0, w0⟩ : ∃ zs, IsRow .i64 W a0 len0 cap0 zs := by
    obtain ⟨fuel, hf⟩ := h0
    rcases open_ints Tryd.underlying22 Tryd.underlying3 (by kernel_rfl) hf with ⟨hcs, _⟩ | ⟨x, l, c, zs, hcs, _, hl, hm, hz, _, hcell, hwz⟩
    · simp [Value.cells] at hcs
      obtain ⟨rfl, rfl, rfl⟩ := hcs
      exact ⟨[], .inl ⟨rfl, rfl, rfl, rfl⟩⟩
    · simp [Value.cells] at hcs
      obtain ⟨rfl, rfl, rfl⟩ := hcs
      exact ⟨zs, .inr ⟨_, rfl, hl, hm, by simpa using hz, hcell, hwz⟩⟩
  clear hA0 hval0
  refine (walk a0 len0 cap0 z0 W w0 hg).mono fun e W' ⟨he, bel⟩ => ?_
  subst he
  exact ⟨_, rfl, _, _, _, [], _, [], hW', trodAll_mk1 (shut_bool Tryd.underlying4 _), (trodAll_cons_mk (Below.trod laidOut (by kernel_rfl) (of_decide_eq_true (by kernel_rfl)) k0 bel lt0) trodAll_mk0), rfl, bel.frame _, fun h => by cases h⟩

theorem over : Rows.blockPlaysRow.holds Tryd.pinned (OpenSpec.ofChange Rows.blockPlaysSpec) :=
  OpenClaim.holds_of_wide 5 Tryd.f5 rfl rfl rfl rfl rfl rfl rfl ⟨rfl, rfl, rfl, rfl, rfl⟩ rfl rfl rfl rfl rfl (by kernel_rfl) Tryd.func5 (by kernel_rfl)
    (of_decide_eq_true (by kernel_rfl)) (by unfold Func.isWrapper; first | (rw [if_pos (by decide +kernel)]; kernel_rfl) | (rw [if_neg (by decide +kernel)]; exact ⟨rfl, rfl⟩))
    (fun os started H enc _ => lifted os started H enc)

theorem card : Rows.BlockPlaysCardSaid :=
  Claim7.holds_tied_plain_at .later [] [.handle] true (true, "54333396a1983810f2099a564edcca84dee2963ca570816be32cf45fa3b2f6e8") true
    over (fun _ h => by cases h) (by kernel_rfl) (fun _ h => by cases h) blockPlays_row_tie rfl ⟨rfl, rfl⟩ (by kernel_rfl) rfl
    (fun f fn hf hfn => by
      obtain rfl : f = 5 := Option.some.inj ((show Tryd.prog.funcNamed "tokenfold/foldlaw2.BlockPlays" = some 5 by kernel_rfl).symm.trans hf) |>.symm
      obtain rfl : fn = Tryd.f5 := (Option.some.inj (Tryd.func5.symm.trans hfn)).symm
      exact ⟨by kernel_rfl, fun j t ht => by
        rw [Tryd.params5] at ht
        have hm : t ∈ [22] := by simpa using Array.mem_of_getElem? ht
        have hall : ([22].all fun u => !Tryd.prog.wantsStandIn u) = true := by kernel_rfl
        exact (show Tryd.prog.wantsStandIn t = false by simpa using List.all_eq_true.1 hall t hm)⟩)
    (by kernel_rfl)

end Go.Proofs.YtbclckaddjnjmafDoor.blockPlays
namespace Go.Proofs.YtbclckaddjnjmafDoor
theorem blockPlays_holds : Rows.BlockPlaysCardSaid := blockPlays.card
#print axioms blockPlays_holds
end Go.Proofs.YtbclckaddjnjmafDoor

