/-
  EarlyPlays holds for every limit, every list of strings and every list of numbers: what is refused, what is told, and how many may come, are the document's. The listed variable errors.errorType starts as the program's text lays it (the card's tie). No other condition.
-/
import Derived.Test.YtibnjlndfoleoagDoorEarlyWalks
import Derived.Test.YtibnjlndfoleoagDoorTie
import Derived.Test.YtibnjlndfoleoagDoorCards
import Derived.ProofKit
import Derived.Lib.SmallJoins
import Derived.LaidMore
import Derived.LaidHandle
import Derived.LaidLaws
import Derived.Stop.Joined
import Derived.SevenTiedAt
namespace Go.Proofs.YtibnjlndfoleoagDoor.earlyPlays
open Go.ChangeShapes Go.WideShapes Go.ChangeAt Go.RowKit Go.Joins
set_option linter.unusedVariables false

theorem own : ownKnob Tryd.prog.godebug = none := by kernel_rfl
theorem laidOut : laidOutB Tryd.prog = true := by kernel_rfl
def IsRow (k : IntKind) (w : World) (a : Option Addr) (len cap : Nat) (zs : List Int) : Prop :=
  (a = none ∧ len = 0 ∧ cap = 0 ∧ zs = []) ∨
  ∃ x, a = some x ∧ len ≤ cap ∧ cap ≤ maxLen ∧ zs.length = cap ∧ (∀ i, i < zs.length → w.cell? (x.add i) = some (.int k (zs.getD i 0))) ∧ ∀ n ∈ zs, (Lit.int k n).wf = true
def IsStrs (w : World) (a : Option Addr) (len cap : Nat) (zs : List ByteArray) : Prop :=
  (a = none ∧ len = 0 ∧ cap = 0 ∧ zs = []) ∨
  ∃ x, a = some x ∧ len ≤ cap ∧ cap ≤ maxLen ∧ zs.length = cap ∧ (∀ i, i < zs.length → w.cell? (x.add i) = some (.string (zs.getD i ByteArray.empty))) ∧ ∀ s ∈ zs, s.size ≤ maxLen
def IsPairs (w : World) (a : Option Addr) (len cap : Nat) (zs : List (Int × Int)) : Prop :=
  (a = none ∧ len = 0 ∧ cap = 0 ∧ zs = []) ∨
  ∃ x, a = some x ∧ len ≤ cap ∧ cap ≤ maxLen ∧ zs.length = cap ∧ ∀ i, i < cap → w.cell? (x.add (i * 2)) = some (.int .i64 (zs.getD i (0, 0)).1) ∧ w.cell? (x.add (i * 2 + 1)) = some (.int .i64 (zs.getD i (0, 0)).2)
def IsRows (w : World) (a : Option Addr) (len cap : Nat) (A : Nat → Option Addr) (L C : Nat → Nat) (Z : Nat → List Int) : Prop :=
  (a = none ∧ len = 0 ∧ cap = 0) ∨
  ∃ x, a = some x ∧ len ≤ cap ∧ cap ≤ maxLen ∧ ∀ r, r < cap → w.cell? (x.add r) = some (.slice (A r) (L r) (C r)) ∧ L r ≤ C r ∧ C r ≤ maxLen ∧ (Z r).length = C r ∧ (∀ n ∈ Z r, (Lit.int .i64 n).wf = true) ∧ (A r = none → C r = 0) ∧
    ∀ a', A r = some a' → ∀ c, c < C r → w.cell? (a'.add c) = some (.int .i64 ((Z r).getD c 0))


set_option maxHeartbeats 6400000 in
set_option maxRecDepth 8000 in
theorem walk1 (lim : Int) (a : Option Addr) (len cap : Nat) (l : List ByteArray) (ta : Option Addr) (tlen tcap : Nat) (tz : List Int) (w : World) (hlen : l.length = len) (hI : Strs w a l) (htl : tz.length = tlen) (hT : Ints w ta tz) (hg : ErrType w) :
    Calls Tryd.prog 3 #[.int .i64 lim, .slice a len cap, .slice ta tlen tcap] w fun e w' => e = .returned (.bool true) ∧ Below w.heap.size w w' := by
  have HG := hide hg
  have HLEN := hide hlen
  have HI := hide hI
  have HTL := hide htl
  have HT := hide hT
  clear hlen hI hg htl hT
  by_cases h0 : lim < 0
  · go_enter Tryd.func3, Tryd.ntmps3
    go_wp2_with fail
    refine (enew_no lim _ (.inl h0)).mono ?_
    rintro e w' ⟨rfl, hw⟩
    obtain rfl := hw.symm
    clear hw
    go_wp2_with fail
    refine (same_errno _ _ _ (unhide HG)).mono ?_
    rintro e w1 ⟨rfl, hb1⟩
    have HB1 := hide hb1
    clear hb1
    go_wp2
    go_ret
    exact ⟨rfl, unhide HB1⟩
  · have h0' : 0 ≤ lim := by omega
    by_cases h1 : 40 < lim
    · go_enter Tryd.func3, Tryd.ntmps3
      go_wp2_with fail
      refine (enew_no lim _ (.inr h1)).mono ?_
      rintro e w' ⟨rfl, hw⟩
      obtain rfl := hw.symm
      clear hw
      go_wp2_with fail
      refine (same_errno _ _ _ (unhide HG)).mono ?_
      rintro e w1 ⟨rfl, hb1⟩
      have HB1 := hide hb1
      clear hb1
      go_wp2
      go_ret
      exact ⟨rfl, unhide HB1⟩
    · have h1' : lim ≤ 40 := by omega
      go_enter Tryd.func3, Tryd.ntmps3
      go_wp2_with fail
      refine (enew_yes lim _ (by omega) (by omega)).mono ?_
      rintro e w1 ⟨rfl, h1, hb1⟩
      have HL1 := hide h1
      have HB1 := hide hb1
      clear h1 hb1
      go_wp2_with fail
      refine (same_nil _ _).mono ?_
      rintro e w2 ⟨rfl, hb2⟩
      have HL2 := hide ((unhide HL1).later hb2)
      have HB2 := hide (bel3 (unhide HB1) (Below.refl _ _) hb2)
      clear hb2
      clear HL1 HB1
      go_wp2
      go_loopw [7, 10, 11, 12, 13] (fun e0 q0 n0 d0 i wr => ∃ (k : Nat) (n : Int) (d : ByteArray) (er : Int), k ≤ 40 ∧ i = .int .i64 k ∧ e0 = .int .i64 er ∧ q0 = .bool true ∧ n0 = .int .i64 n ∧ d0 = .string d ∧ 0 ≤ n ∧ n ≤ 40 ∧ (d.size : Int) + n ≤ 40 ∧ Hid (EarlyAt w.heap.size wr w.heap.size n d) ∧ Hid (Below w.heap.size w wr)) (fun _ _ _ _ i _ => 40 - (intOf i).toNat)
      case atStart => exact ⟨0, lim, ⟨#[]⟩, 0, by omega, rfl, rfl, rfl, rfl, rfl, by omega, by omega, by (have q0 : ((⟨#[]⟩ : ByteArray).size : Int) = 0 := rfl; omega), HL2, HB2⟩
      case round =>
        clear HL2 HB2
        obtain ⟨k, n, d, er, hk, rfl, rfl, rfl, rfl, rfl, hr0, hr1, hr2, HL, HB⟩ := hrel
        by_cases hkl : (k : Int) < (len : Int)
        · by_cases hk1 : (k : Int) < 40
          · obtain ⟨hsz, b, off, rfl, hc'⟩ := (unhide HI).2 k (by rw [unhide HLEN]; omega)
            have hc := cell_later (unhide HB) hc'
            have hk0 : (0 : Int) ≤ (k : Int) := by omega
            have hbl : b < wr.heap.size := World.block_lt_of_cell? _ _ hc
            have zr : w.heap.size ≤ wr.heap.size := (unhide HB).size
            have HC0 := hide hc'
            clear hc'
            generalize l.getD k ByteArray.empty = s at hc hsz HC0
            by_cases hf : n < (s.size : Int)
            · have hf1 : n < (s.size : Int) := hf
              go_wp2_with fail
              refine (eput_full w.heap.size w.heap.size n d s _ (unhide HL) (by omega)).mono ?_
              rintro e w' ⟨rfl, hw⟩
              obtain rfl := hw.symm
              clear hw
              go_wp2_with fail
              refine (same_errno _ _ _ ((unhide HG).later (unhide HB))).mono ?_
              rintro e w7 ⟨rfl, hb7⟩
              have HL7 := hide ((unhide HL).later hb7)
              have HB7 := hide (bel3 (unhide HB) (Below.refl _ _) hb7)
              clear hb7
              have zz : (n == n) = true := by simp
              by_cases hkt : (k : Int) < (tlen : Int)
              · obtain ⟨tb, toff, rfl, tc'⟩ := (unhide HT).2 k (by rw [unhide HTL]; omega)
                have tc := cell_later (unhide HB7) tc'
                have tbl : tb < w7.heap.size := World.block_lt_of_cell? _ _ tc
                generalize tz.getD k 0 = t at tc
                clear tc'
                by_cases ht : t = 1
                · subst ht
                  go_wp2_with fail
                  refine (etake_any w.heap.size w.heap.size n d _ w (unhide HL7) (unhide HB7)).mono ?_
                  rintro e w8 ⟨rfl, h8, hb8⟩
                  have HL8 := hide h8
                  have HB8 := hide hb8
                  clear h8 hb8
                  go_wp2_with fail
                  refine (eleft_any w.heap.size w.heap.size n ⟨#[]⟩ _ (unhide HL8)).mono ?_
                  rintro e w' ⟨rfl, hw⟩
                  obtain rfl := hw.symm
                  clear hw
                  go_wp2
                  go_roundw
                  case rel => exact ⟨k + 1, n, ⟨#[]⟩, 4, by omega, by go_num, rfl, rfl, rfl, rfl, by omega, by omega, by first | omega | (have q0 : ((⟨#[]⟩ : ByteArray).size : Int) = 0 := rfl; omega) | (simp; omega), HL8, HB8⟩
                  case measure => simp [intOf]; omega
                · have ht2 : (t == 1) = false := by simp [ht]
                  go_wp2_with fail
                  refine (eleft_any w.heap.size w.heap.size n d _ (unhide HL7)).mono ?_
                  rintro e w' ⟨rfl, hw⟩
                  obtain rfl := hw.symm
                  clear hw
                  go_wp2
                  go_roundw
                  case rel => exact ⟨k + 1, n, d, 4, by omega, by go_num, rfl, rfl, rfl, rfl, by omega, by omega, by first | omega | (have q0 : ((⟨#[]⟩ : ByteArray).size : Int) = 0 := rfl; omega) | (simp; omega), HL7, HB7⟩
                  case measure => simp [intOf]; omega
              · go_wp2_with fail
                refine (eleft_any w.heap.size w.heap.size n d _ (unhide HL7)).mono ?_
                rintro e w' ⟨rfl, hw⟩
                obtain rfl := hw.symm
                clear hw
                go_wp2
                go_roundw
                case rel => exact ⟨k + 1, n, d, 4, by omega, by go_num, rfl, rfl, rfl, rfl, by omega, by omega, by first | omega | (have q0 : ((⟨#[]⟩ : ByteArray).size : Int) = 0 := rfl; omega) | (simp; omega), HL7, HB7⟩
                case measure => simp [intOf]; omega
            · have hf1 : ¬ n < (s.size : Int) := hf
              have hf2 : ¬ d.size + s.size > 9223372036854775807 := by omega
              go_wp2_with fail
              refine (eput_yes w.heap.size w.heap.size n d s _ w (unhide HL) (by omega) (by omega) (by omega) (unhide HB) zr).mono ?_
              rintro e w6 ⟨rfl, h6, hb6⟩
              have HL6 := hide h6
              have HB6 := hide hb6
              clear h6 hb6
              go_wp2_with fail
              refine (same_nil _ _).mono ?_
              rintro e w7 ⟨rfl, hb7⟩
              have HL7 := hide ((unhide HL6).later hb7)
              have HB7 := hide (bel3 (unhide HB6) (Below.refl _ _) hb7)
              clear hb7
              have zz : ((n - (s.size : Int)) == (n - (s.size : Int))) = true := by simp
              by_cases hkt : (k : Int) < (tlen : Int)
              · obtain ⟨tb, toff, rfl, tc'⟩ := (unhide HT).2 k (by rw [unhide HTL]; omega)
                have tc := cell_later (unhide HB7) tc'
                have tbl : tb < w7.heap.size := World.block_lt_of_cell? _ _ tc
                generalize tz.getD k 0 = t at tc
                clear tc'
                by_cases ht : t = 1
                · subst ht
                  go_wp2_with fail
                  refine (etake_any w.heap.size w.heap.size (n - (s.size : Int)) (d ++ s) _ w (unhide HL7) (unhide HB7)).mono ?_
                  rintro e w8 ⟨rfl, h8, hb8⟩
                  have HL8 := hide h8
                  have HB8 := hide hb8
                  clear h8 hb8
                  go_wp2_with fail
                  refine (eleft_any w.heap.size w.heap.size (n - (s.size : Int)) ⟨#[]⟩ _ (unhide HL8)).mono ?_
                  rintro e w' ⟨rfl, hw⟩
                  obtain rfl := hw.symm
                  clear hw
                  go_wp2
                  go_roundw
                  case rel => exact ⟨k + 1, (n - (s.size : Int)), ⟨#[]⟩, 0, by omega, by go_num, rfl, rfl, rfl, rfl, by omega, by omega, by first | omega | (have q0 : ((⟨#[]⟩ : ByteArray).size : Int) = 0 := rfl; omega) | (simp; omega), HL8, HB8⟩
                  case measure => simp [intOf]; omega
                · have ht2 : (t == 1) = false := by simp [ht]
                  go_wp2_with fail
                  refine (eleft_any w.heap.size w.heap.size (n - (s.size : Int)) (d ++ s) _ (unhide HL7)).mono ?_
                  rintro e w' ⟨rfl, hw⟩
                  obtain rfl := hw.symm
                  clear hw
                  go_wp2
                  go_roundw
                  case rel => exact ⟨k + 1, (n - (s.size : Int)), (d ++ s), 0, by omega, by go_num, rfl, rfl, rfl, rfl, by omega, by omega, by first | omega | (have q0 : ((⟨#[]⟩ : ByteArray).size : Int) = 0 := rfl; omega) | (simp; omega), HL7, HB7⟩
                  case measure => simp [intOf]; omega
              · go_wp2_with fail
                refine (eleft_any w.heap.size w.heap.size (n - (s.size : Int)) (d ++ s) _ (unhide HL7)).mono ?_
                rintro e w' ⟨rfl, hw⟩
                obtain rfl := hw.symm
                clear hw
                go_wp2
                go_roundw
                case rel => exact ⟨k + 1, (n - (s.size : Int)), (d ++ s), 0, by omega, by go_num, rfl, rfl, rfl, rfl, by omega, by omega, by first | omega | (have q0 : ((⟨#[]⟩ : ByteArray).size : Int) = 0 := rfl; omega) | (simp; omega), HL7, HB7⟩
                case measure => simp [intOf]; omega
          · go_wp2
            go_ret
            exact ⟨rfl, unhide HB⟩
        · go_wp2
          go_ret
          exact ⟨rfl, unhide HB⟩

theorem walk (a0 : Int) (a1 : Option Addr) (len1 cap1 : Nat) (z1 : List ByteArray) (a2 : Option Addr) (len2 cap2 : Nat) (z2 : List Int) (w : World) (w0 : (Lit.int .i64 a0).wf = true) (w1 : IsStrs w a1 len1 cap1 z1) (w2 : IsRow .i64 w a2 len2 cap2 z2) (hg : ErrType w) :
    Calls Tryd.prog 3 #[.int .i64 a0, .slice a1 len1 cap1, .slice a2 len2 cap2] w fun e w' => e = .returned (.bool true) ∧ Below w.heap.size w w' := by
  obtain ⟨l, hlen, hI⟩ := row_strs w1
  obtain ⟨ts, htl, hT, _, _⟩ := row_ints rfl w2
  exact walk1 a0 a1 len1 cap1 l a2 len2 cap2 ts w hlen hI htl hT hg


theorem gErr : Tryd.prog.globalNamed "errors.errorType" = some 0 := by kernel_rfl
theorem rtErr : (Tryd.prog.cutTypes.find? (·.1 == "internal/reflectlite.rtype")).map (·.2) = some 55 := by kernel_rfl
theorem oneRow : ((List.range 96).filter fun t => Tryd.prog.rowNamed t [101, 114, 114, 111, 114]) = [26] := by kernel_rfl
theorem sizeT : Tryd.prog.types.size = 96 := by kernel_rfl
theorem handle_of_laid {W : World} (h : laidMetH Tryd.prog Rows.earlyPlaysRow.laid W) : ErrType W := by
  have h' : laidMet Tryd.prog [] W ∧ handlesMet Tryd.prog Rows.earlyPlaysRow.laid W := h
  obtain ⟨name, u, ty, e1, e2, e3, e4, e5⟩ := h'.2 _ (List.mem_singleton.2 rfl)
  have en : name = [101, 114, 114, 111, 114] := (Option.some.inj e1).symm
  subst en
  obtain rfl := Option.some.inj (rtErr.symm.trans e2)
  have hm : ty ∈ (List.range 96).filter fun t => Tryd.prog.rowNamed t [101, 114, 114, 111, 114] := List.mem_filter.2 ⟨List.mem_range.2 (by rw [← sizeT]; exact e3), e4⟩
  rw [oneRow] at hm
  obtain rfl := List.mem_singleton.1 hm
  have hh : typeHandle Tryd.prog 26 = .pointer (some ⟨1, 26, none⟩) := by kernel_rfl
  rw [hh] at e5
  unfold ErrType
  simpa using World.var?_cell gErr e5 0
theorem door_met (os : Os) (args : Array Value) : laidMetH Tryd.prog Rows.earlyPlaysRow.laid ((World.doorLaid Tryd.prog 400 os).forCall (fun _ _ => 0) ⟨#[], args, []⟩).memory :=
  laidMetH_of_parts (laidMet_nil _ _) (by kernel_rfl)


set_option maxRecDepth 100000 in
theorem lifted (os : Os) (started : os.Started) (H : Type) (enc : TypeId × Value → H) :
    ReturnsInHanded {} Tryd.checked os 3 .any (fun w args => (Rows.earlyPlaysSpec.pre enc Tryd.prog Tryd.f3 [] false w args ∧ laidMetH Tryd.prog Rows.earlyPlaysRow.laid w) ∧ sizedMet enc Tryd.prog Tryd.f3 (OpenSpec.ofChange Rows.earlyPlaysSpec) false w args) (Rows.earlyPlaysSpec.post enc Tryd.prog Tryd.f3 false true false false) := by
  refine returnsInHanded_of_change_and (C := Tryd.checked) (X := fun w _ => laidMetH Tryd.prog Rows.earlyPlaysRow.laid w) (fun _ _ _ hh h => h.of_heap hh) own started (by kernel_rfl) Tryd.func3
    (ChangeSpec.witness_shaped (enc := enc) (C := Tryd.checked) (os := os) (X := fun w _ => laidMetH Tryd.prog Rows.earlyPlaysRow.laid w) false (World.doorLaid Tryd.prog 400 os) #[.int .i64 0, .slice none 0 0, .slice none 0 0] 8 rfl (World.shaped_of_RefB (by kernel_rfl) (by kernel_rfl)) (by kernel_rfl) (by kernel_rfl) (by kernel_rfl) (door_met os _)) ?_
  intro W base args ds gs before hval0 hW _ hsz hL _
  have hg := handle_of_laid hL
  have hval : ∀ (j : Nat) t v, Tryd.f3.params[j]? = some t → args[j]? = some v → Value.okWide Tryd.prog W .any base t v := hval0
  have hW' := hW
  obtain ⟨p, q, hA0, hV, rfl, hfz, hnd⟩ := hW
  have hA : DataW.TrodAll enc Tryd.prog W 0 (fun _ => true) true Tryd.f3.params.toList args.toList ds p := hA0
  rw [Tryd.params3] at hA hval
  obtain ⟨v0, vs0, d0, ds0, p0, q0, hargs, rfl, rfl, h0, r0⟩ := trodAll_cons hA
  obtain ⟨v1, vs1, d1, ds1, p1, q1, rfl, rfl, rfl, h1, r1⟩ := trodAll_cons r0
  obtain ⟨v2, vs2, d2, ds2, p2, q2, rfl, rfl, rfl, h2, r2⟩ := trodAll_cons r1
  obtain ⟨rfl, rfl, rfl⟩ := trodAll_nil r2
  obtain rfl : args = #[v0, v1, v2] := by cases args; simp_all
  obtain ⟨rfl, rfl⟩ := trodVars_none hV
  have k0 := h0
  have lt0 : ∀ x ∈ p0, x.block < W.heap.size := by obtain ⟨m, hm⟩ := k0; exact DataW.trod_lt m _ _ _ hm
  obtain ⟨a0, rfl, rfl, rfl, w0⟩ := open_int Tryd.underlying3 (hval 0 3 v0 rfl rfl) h0
  have k1 := h1
  have lt1 : ∀ x ∈ p1, x.block < W.heap.size := by obtain ⟨m, hm⟩ := k1; exact DataW.trod_lt m _ _ _ hm
  obtain ⟨a1, len1, cap1, rfl⟩ := okWide_slice Tryd.underlying22 (hval 1 22 v1 rfl rfl)
  obtain ⟨z1, w1⟩ : ∃ zs, IsStrs W a1 len1 cap1 zs := by
    obtain ⟨fuel, hf⟩ := h1
    rcases open_strings Tryd.underlying22 Tryd.underlying9 (by kernel_rfl) hf with ⟨hcs, _⟩ | ⟨x, l, c, zs, hcs, _, hl, hm, hz, _, hcell, hwz⟩
    · simp [Value.cells] at hcs
      obtain ⟨rfl, rfl, rfl⟩ := hcs
      exact ⟨[], .inl ⟨rfl, rfl, rfl, rfl⟩⟩
    · simp [Value.cells] at hcs
      obtain ⟨rfl, rfl, rfl⟩ := hcs
      exact ⟨zs, .inr ⟨_, rfl, hl, hm, by simpa using hz, hcell, hwz⟩⟩
  have k2 := h2
  have lt2 : ∀ x ∈ p2, x.block < W.heap.size := by obtain ⟨m, hm⟩ := k2; exact DataW.trod_lt m _ _ _ hm
  obtain ⟨a2, len2, cap2, rfl⟩ := okWide_slice Tryd.underlying23 (hval 2 23 v2 rfl rfl)
  obtain ⟨z2, w2⟩ : ∃ zs, IsRow .i64 W a2 len2 cap2 zs := by
    obtain ⟨fuel, hf⟩ := h2
    rcases open_ints Tryd.underlying23 Tryd.underlying3 (by kernel_rfl) hf with ⟨hcs, _⟩ | ⟨x, l, c, zs, hcs, _, hl, hm, hz, _, hcell, hwz⟩
    · simp [Value.cells] at hcs
      obtain ⟨rfl, rfl, rfl⟩ := hcs
      exact ⟨[], .inl ⟨rfl, rfl, rfl, rfl⟩⟩
    · simp [Value.cells] at hcs
      obtain ⟨rfl, rfl, rfl⟩ := hcs
      exact ⟨zs, .inr ⟨_, rfl, hl, hm, by simpa using hz, hcell, hwz⟩⟩
  clear hA0 hval0
  refine (walk a0 a1 len1 cap1 z1 a2 len2 cap2 z2 W w0 w1 w2 hg).mono fun e W' ⟨he, bel⟩ => ?_
  subst he
  exact ⟨_, rfl, _, _, _, [], _, [], hW', trodAll_mk1 (shut_bool Tryd.underlying4 _), (trodAll_cons_mk (Below.trod laidOut (by kernel_rfl) (of_decide_eq_true (by kernel_rfl)) k0 bel lt0) (trodAll_cons_mk (Below.trod laidOut (by kernel_rfl) (of_decide_eq_true (by kernel_rfl)) k1 bel lt1) (trodAll_cons_mk (Below.trod laidOut (by kernel_rfl) (of_decide_eq_true (by kernel_rfl)) k2 bel lt2) trodAll_mk0))), rfl, bel.frame _, fun h => by cases h⟩

theorem over : Rows.earlyPlaysRow.holds Tryd.pinned (OpenSpec.ofChange Rows.earlyPlaysSpec) :=
  OpenClaim.holds_of_wide 3 Tryd.f3 rfl rfl rfl rfl rfl rfl rfl ⟨rfl, rfl, rfl, rfl, rfl⟩ rfl rfl rfl rfl rfl (by kernel_rfl) Tryd.func3 (by kernel_rfl)
    (of_decide_eq_true (by kernel_rfl)) (by unfold Func.isWrapper; first | (rw [if_pos (by decide +kernel)]; kernel_rfl) | (rw [if_neg (by decide +kernel)]; exact ⟨rfl, rfl⟩))
    (fun os started H enc _ => lifted os started H enc)

theorem card : Rows.EarlyPlaysCardSaid :=
  Claim7.holds_tied_plain_at .later [] [.handle] true (true, "7eae0b736333f493c1f9b3ffb906c9de69ed6ff9c0343cea8c6661ff0c0d28f9") true
    over (fun _ h => by cases h) (by kernel_rfl) (fun _ h => by cases h) earlyPlays_row_tie rfl ⟨rfl, rfl⟩ (by kernel_rfl) rfl
    (fun f fn hf hfn => by
      obtain rfl : f = 3 := Option.some.inj ((show Tryd.prog.funcNamed "tokenfold/foldlaw2.EarlyPlays" = some 3 by kernel_rfl).symm.trans hf) |>.symm
      obtain rfl : fn = Tryd.f3 := (Option.some.inj (Tryd.func3.symm.trans hfn)).symm
      exact ⟨by kernel_rfl, fun j t ht => by
        rw [Tryd.params3] at ht
        have hm : t ∈ [3, 22, 23] := by simpa using Array.mem_of_getElem? ht
        have hall : ([3, 22, 23].all fun u => !Tryd.prog.wantsStandIn u) = true := by kernel_rfl
        exact (show Tryd.prog.wantsStandIn t = false by simpa using List.all_eq_true.1 hall t hm)⟩)
    (by kernel_rfl)

end Go.Proofs.YtibnjlndfoleoagDoor.earlyPlays
namespace Go.Proofs.YtibnjlndfoleoagDoor
theorem earlyPlays_holds : Rows.EarlyPlaysCardSaid := earlyPlays.card
#print axioms earlyPlays_holds
end Go.Proofs.YtibnjlndfoleoagDoor

