/-
  EarlyBounds holds for every limit and every list of strings: all that was ever taken is no more than the limit, and is what came, in order. The listed variable errors.errorType starts as the program's text lays it (the card's tie). No other condition.
-/
import Derived.Test.YtibnjlndfoleoafDoorEarlyWalks
import Derived.Test.YtibnjlndfoleoafDoorTie
import Derived.Test.YtibnjlndfoleoafDoorCards
import Derived.ProofKit
import Derived.Lib.SmallJoins
import Derived.LaidMore
import Derived.LaidHandle
import Derived.LaidLaws
import Derived.Stop.Joined
import Derived.SevenTiedAt
namespace Go.Proofs.YtibnjlndfoleoafDoor.earlyBounds
open Go.ChangeShapes Go.WideShapes Go.ChangeAt Go.RowKit Go.Joins
set_option linter.unusedVariables false

theorem own : ownKnob Tryd.prog.godebug = none := by kernel_rfl
theorem laidOut : laidOutB Tryd.prog = true := by kernel_rfl
def IsRow (k : IntKind) (w : World) (a : Option Addr) (len cap : Nat) (zs : List Int) : Prop :=
  (a = none ∧ len = 0 ∧ cap = 0 ∧ zs = []) ∨
  ∃ x, a = some x ∧ len ≤ cap ∧ cap ≤ maxLen ∧ zs.length = cap ∧ (∀ i, i < zs.length → w.cell? (x.add i) = some (.int k (zs.getD i 0))) ∧ ∀ n ∈ zs, (Lit.int k n).wf = true
def IsStrs (w : World) (a : Option Addr) (len cap : Nat) (zs : List ByteArray) : Prop :=
  (a = none ∧ len = 0 ∧ cap = 0 ∧ zs = []) ∨
  ∃ x, a = some x ∧ len ≤ cap ∧ cap ≤ maxLen ∧ zs.length = cap ∧ (∀ i, i < zs.length → w.cell? (x.add i) = some (.string (zs.getD i ByteArray.empty))) ∧ ∀ s ∈ zs, s.size ≤ maxLen
def IsPairs (w : World) (a : Option Addr) (len cap : Nat) (zs : List (Int × Int)) : Prop :=
  (a = none ∧ len = 0 ∧ cap = 0 ∧ zs = []) ∨
  ∃ x, a = some x ∧ len ≤ cap ∧ cap ≤ maxLen ∧ zs.length = cap ∧ ∀ i, i < cap → w.cell? (x.add (i * 2)) = some (.int .i64 (zs.getD i (0, 0)).1) ∧ w.cell? (x.add (i * 2 + 1)) = some (.int .i64 (zs.getD i (0, 0)).2)
def IsRows (w : World) (a : Option Addr) (len cap : Nat) (A : Nat → Option Addr) (L C : Nat → Nat) (Z : Nat → List Int) : Prop :=
  (a = none ∧ len = 0 ∧ cap = 0) ∨
  ∃ x, a = some x ∧ len ≤ cap ∧ cap ≤ maxLen ∧ ∀ r, r < cap → w.cell? (x.add r) = some (.slice (A r) (L r) (C r)) ∧ L r ≤ C r ∧ C r ≤ maxLen ∧ (Z r).length = C r ∧ (∀ n ∈ Z r, (Lit.int .i64 n).wf = true) ∧ (A r = none → C r = 0) ∧
    ∀ a', A r = some a' → ∀ c, c < C r → w.cell? (a'.add c) = some (.int .i64 ((Z r).getD c 0))


set_option maxHeartbeats 6400000 in
set_option maxRecDepth 8000 in
theorem walk1 (lim : Int) (a : Option Addr) (len cap : Nat) (l : List ByteArray) (w : World) (hlen : l.length = len) (hI : Strs w a l) (hg : ErrType w) :
    Calls Tryd.prog 6 #[.int .i64 lim, .slice a len cap] w fun e w' => e = .returned (.bool true) ∧ Below w.heap.size w w' := by
  have HG := hide hg
  have HLEN := hide hlen
  have HI := hide hI
  clear hlen hI hg
  by_cases h0 : lim < 0
  · go_enter Tryd.func6, Tryd.ntmps6
    go_wp2_with fail
    refine (enew_yes 3 _ (by omega) (by omega)).mono ?_
    rintro e w1 ⟨rfl, h1, hb1⟩
    have HL1 := hide h1
    have HB1 := hide hb1
    clear h1 hb1
    have z1 : w.heap.size ≤ w1.heap.size := (unhide HB1).size
    go_wp2_with fail
    refine (eput_yes w.heap.size w.heap.size 3 ⟨#[]⟩ ⟨#[97, 98]⟩ _ w (unhide HL1) (by decide) (by decide) (by decide) (unhide HB1) z1).mono ?_
    rintro e w2 ⟨rfl, h2, hb2⟩
    have h2 : EarlyAt w.heap.size w2 w.heap.size 1 ⟨#[97, 98]⟩ := by (rw [str_nil] at h2; exact h2)
    have HL2 := hide h2
    have HB2 := hide hb2
    clear h2 hb2
    clear HL1 HB1 z1
    go_wp2_with fail
    refine (eput_full w.heap.size w.heap.size 1 ⟨#[97, 98]⟩ ⟨#[99, 100]⟩ _ (unhide HL2) (by decide)).mono ?_
    rintro e w' ⟨rfl, hw⟩
    obtain rfl := hw.symm
    clear hw
    go_wp2_with fail
    refine (same_errno _ _ _ ((unhide HG).later (unhide HB2))).mono ?_
    rintro e w3 ⟨rfl, hb3⟩
    have HL3 := hide ((unhide HL2).later hb3)
    have HB3 := hide (bel3 (unhide HB2) (Below.refl _ _) hb3)
    clear hb3
    clear HL2 HB2
    go_wp2_with fail
    refine (etake_any w.heap.size w.heap.size 1 ⟨#[97, 98]⟩ _ w (unhide HL3) (unhide HB3)).mono ?_
    rintro e w4 ⟨rfl, h4, hb4⟩
    have HL4 := hide h4
    have HB4 := hide hb4
    clear h4 hb4
    clear HL3 HB3
    go_wp2_with fail
    refine (eleft_any w.heap.size w.heap.size 1 ⟨#[]⟩ _ (unhide HL4)).mono ?_
    rintro e w' ⟨rfl, hw⟩
    obtain rfl := hw.symm
    clear hw
    clear HL4
    go_wp2_with fail
    refine (enew_no lim _ (.inl h0)).mono ?_
    rintro e w' ⟨rfl, hw⟩
    obtain rfl := hw.symm
    clear hw
    go_wp2
    go_ret
    exact ⟨rfl, unhide HB4⟩
  · have h0' : 0 ≤ lim := by omega
    by_cases h1 : 40 < lim
    · go_enter Tryd.func6, Tryd.ntmps6
      go_wp2_with fail
      refine (enew_yes 3 _ (by omega) (by omega)).mono ?_
      rintro e w1 ⟨rfl, h1, hb1⟩
      have HL1 := hide h1
      have HB1 := hide hb1
      clear h1 hb1
      have z1 : w.heap.size ≤ w1.heap.size := (unhide HB1).size
      go_wp2_with fail
      refine (eput_yes w.heap.size w.heap.size 3 ⟨#[]⟩ ⟨#[97, 98]⟩ _ w (unhide HL1) (by decide) (by decide) (by decide) (unhide HB1) z1).mono ?_
      rintro e w2 ⟨rfl, h2, hb2⟩
      have h2 : EarlyAt w.heap.size w2 w.heap.size 1 ⟨#[97, 98]⟩ := by (rw [str_nil] at h2; exact h2)
      have HL2 := hide h2
      have HB2 := hide hb2
      clear h2 hb2
      clear HL1 HB1 z1
      go_wp2_with fail
      refine (eput_full w.heap.size w.heap.size 1 ⟨#[97, 98]⟩ ⟨#[99, 100]⟩ _ (unhide HL2) (by decide)).mono ?_
      rintro e w' ⟨rfl, hw⟩
      obtain rfl := hw.symm
      clear hw
      go_wp2_with fail
      refine (same_errno _ _ _ ((unhide HG).later (unhide HB2))).mono ?_
      rintro e w3 ⟨rfl, hb3⟩
      have HL3 := hide ((unhide HL2).later hb3)
      have HB3 := hide (bel3 (unhide HB2) (Below.refl _ _) hb3)
      clear hb3
      clear HL2 HB2
      go_wp2_with fail
      refine (etake_any w.heap.size w.heap.size 1 ⟨#[97, 98]⟩ _ w (unhide HL3) (unhide HB3)).mono ?_
      rintro e w4 ⟨rfl, h4, hb4⟩
      have HL4 := hide h4
      have HB4 := hide hb4
      clear h4 hb4
      clear HL3 HB3
      go_wp2_with fail
      refine (eleft_any w.heap.size w.heap.size 1 ⟨#[]⟩ _ (unhide HL4)).mono ?_
      rintro e w' ⟨rfl, hw⟩
      obtain rfl := hw.symm
      clear hw
      clear HL4
      go_wp2_with fail
      refine (enew_no lim _ (.inr h1)).mono ?_
      rintro e w' ⟨rfl, hw⟩
      obtain rfl := hw.symm
      clear hw
      go_wp2
      go_ret
      exact ⟨rfl, unhide HB4⟩
    · have h1' : lim ≤ 40 := by omega
      go_enter Tryd.func6, Tryd.ntmps6
      go_wp2_with fail
      refine (enew_yes 3 _ (by omega) (by omega)).mono ?_
      rintro e w1 ⟨rfl, h1, hb1⟩
      have HL1 := hide h1
      have HB1 := hide hb1
      clear h1 hb1
      have z1 : w.heap.size ≤ w1.heap.size := (unhide HB1).size
      go_wp2_with fail
      refine (eput_yes w.heap.size w.heap.size 3 ⟨#[]⟩ ⟨#[97, 98]⟩ _ w (unhide HL1) (by decide) (by decide) (by decide) (unhide HB1) z1).mono ?_
      rintro e w2 ⟨rfl, h2, hb2⟩
      have h2 : EarlyAt w.heap.size w2 w.heap.size 1 ⟨#[97, 98]⟩ := by (rw [str_nil] at h2; exact h2)
      have HL2 := hide h2
      have HB2 := hide hb2
      clear h2 hb2
      clear HL1 HB1 z1
      go_wp2_with fail
      refine (eput_full w.heap.size w.heap.size 1 ⟨#[97, 98]⟩ ⟨#[99, 100]⟩ _ (unhide HL2) (by decide)).mono ?_
      rintro e w' ⟨rfl, hw⟩
      obtain rfl := hw.symm
      clear hw
      go_wp2_with fail
      refine (same_errno _ _ _ ((unhide HG).later (unhide HB2))).mono ?_
      rintro e w3 ⟨rfl, hb3⟩
      have HL3 := hide ((unhide HL2).later hb3)
      have HB3 := hide (bel3 (unhide HB2) (Below.refl _ _) hb3)
      clear hb3
      clear HL2 HB2
      go_wp2_with fail
      refine (etake_any w.heap.size w.heap.size 1 ⟨#[97, 98]⟩ _ w (unhide HL3) (unhide HB3)).mono ?_
      rintro e w4 ⟨rfl, h4, hb4⟩
      have HL4 := hide h4
      have HB4 := hide hb4
      clear h4 hb4
      clear HL3 HB3
      go_wp2_with fail
      refine (eleft_any w.heap.size w.heap.size 1 ⟨#[]⟩ _ (unhide HL4)).mono ?_
      rintro e w' ⟨rfl, hw⟩
      obtain rfl := hw.symm
      clear hw
      clear HL4
      go_wp2_with fail
      refine (enew_yes lim _ h0' h1').mono ?_
      rintro e w5 ⟨rfl, h5, hb5⟩
      have HL5 := hide h5
      have HB5 := hide hb5
      clear h5 hb5
      have HL5' := hide ((unhide HL5).down (unhide HB4).size)
      have HB5' := hide (bel3 (unhide HB4) (Below.refl _ _) (unhide HB5))
      clear HL5 HB5 HB4
      go_wp2
      go_loopw [9, 10, 11] (fun c0 t0 i wr => ∃ (k : Nat) (came took there : ByteArray), k ≤ 40 ∧ i = .int .i64 k ∧ c0 = .string came ∧ t0 = .string took ∧ Hid (came = took ++ there) ∧ took.size + there.size ≤ came.size ∧ took.size ≤ came.size ∧ (came.size : Int) ≤ lim ∧ Hid (EarlyAt w.heap.size wr w4.heap.size (lim - (came.size : Int)) there) ∧ Hid (Below w.heap.size w wr)) (fun _ _ i _ => 40 - (intOf i).toNat)
      case atStart => exact ⟨0, ⟨#[]⟩, ⟨#[]⟩, ⟨#[]⟩, by omega, rfl, rfl, rfl, hide (str_nil _).symm, by decide, by decide, h0', hide (show EarlyAt w.heap.size _ w4.heap.size (lim - 0) ⟨#[]⟩ by (rw [Int.sub_zero]; exact unhide HL5')), HB5'⟩
      case round =>
        clear HL5' HB5'
        obtain ⟨k, came, took, there, hk, rfl, rfl, rfl, HE, hr0, hr1, hr2, HL, HB⟩ := hrel
        by_cases hkl : (k : Int) < (len : Int)
        · by_cases hk1 : (k : Int) < 40
          · obtain ⟨hsz, b, off, rfl, hc'⟩ := (unhide HI).2 k (by rw [unhide HLEN]; omega)
            have hc := cell_later (unhide HB) hc'
            have hk0 : (0 : Int) ≤ (k : Int) := by omega
            have hbl : b < wr.heap.size := World.block_lt_of_cell? _ _ hc
            have zr : w.heap.size ≤ wr.heap.size := (unhide HB).size
            have HC0 := hide hc'
            clear hc'
            generalize l.getD k ByteArray.empty = s at hc hsz HC0
            by_cases hf : lim - (came.size : Int) < (s.size : Int)
            · go_wp2_with fail
              refine (eput_full w.heap.size w4.heap.size (lim - (came.size : Int)) there s _ (unhide HL) (by omega)).mono ?_
              rintro e w' ⟨rfl, hw⟩
              obtain rfl := hw.symm
              clear hw
              have HC := hide (unhide HE)
              clear HE
              by_cases hm : (k : Int) % 3 = 1
              · have hm2 : ((k : Int) % 3 == 1) = true := by simp [hm]
                obtain ⟨tk, htk⟩ : ∃ t, took ++ there = t := ⟨_, rfl⟩
                have hts : tk.size = took.size + there.size := by rw [← htk]; simp
                have HTS := hide hts
                have ht3 : tk.size ≤ came.size := by omega
                have ht4 : ¬ took.size + there.size > 9223372036854775807 := by omega
                clear hts
                go_wp2_with fail
                refine (etake_any w.heap.size w4.heap.size (lim - (came.size : Int)) there _ w (unhide HL) (unhide HB)).mono ?_
                rintro e w8 ⟨rfl, h8, hb8⟩
                have HL8 := hide h8
                have HB8 := hide hb8
                clear h8 hb8
                clear HL HB
                have HS := hide (show came = tk ++ ⟨#[]⟩ by rw [str_end, ← htk]; exact unhide HC)
                have E := str_cut (unhide HS)
                have g1 : ¬ lim < (came.size : Int) := by omega
                have g2 : ¬ (came.size : Int) < (tk.size : Int) := by omega
                have g3 : (tk.size : Int) ≤ (came.size : Int) := by omega
                go_wp2
                go_roundw
                case rel => exact ⟨k + 1, came, tk, ⟨#[]⟩, by omega, by go_num, rfl, rfl, HS, by first | omega | (have q0 : (⟨#[]⟩ : ByteArray).size = 0 := rfl; omega), by omega, by omega, HL8, HB8⟩
                case measure => simp [intOf]; omega
              · have hm2 : ((k : Int) % 3 == 1) = false := by simp [hm]
                have HS := hide (unhide HC)
                have E := str_cut (unhide HS)
                have g1 : ¬ lim < (came.size : Int) := by omega
                have g2 : ¬ (came.size : Int) < (took.size : Int) := by omega
                have g3 : (took.size : Int) ≤ (came.size : Int) := by omega
                go_wp2
                go_roundw
                case rel => exact ⟨k + 1, came, took, there, by omega, by go_num, rfl, rfl, HS, by first | omega | (have q0 : (⟨#[]⟩ : ByteArray).size = 0 := rfl; omega), by omega, by omega, HL, HB⟩
                case measure => simp [intOf]; omega
            · have hf1 : ¬ lim - (came.size : Int) < (s.size : Int) := by omega
              obtain ⟨cm, hcm⟩ : ∃ c, came ++ s = c := ⟨_, rfl⟩
              obtain ⟨th, hth⟩ : ∃ c, there ++ s = c := ⟨_, rfl⟩
              have hcs : cm.size = came.size + s.size := by rw [← hcm]; simp
              have hths : th.size = there.size + s.size := by rw [← hth]; simp
              have hf2 : ¬ came.size + s.size > 9223372036854775807 := by omega
              have HC := hide (show cm = took ++ th by rw [← hcm, ← hth, unhide HE, str_assoc])
              have hn1 : (cm.size : Int) ≤ lim := by omega
              have hn2 : took.size + th.size ≤ cm.size := by omega
              have hn3 : took.size ≤ cm.size := by omega
              have HQ := hide (show lim - (came.size : Int) - (s.size : Int) = lim - (cm.size : Int) by omega)
              clear hcs hths HE
              go_wp2_with fail
              refine (eput_yes w.heap.size w4.heap.size (lim - (came.size : Int)) there s _ w (unhide HL) (by omega) (by omega) (by omega) (unhide HB) zr).mono ?_
              rintro e w6 ⟨rfl, h6, hb6⟩
              rw [unhide HQ, hth] at h6
              have HL6 := hide h6
              have HB6 := hide hb6
              clear h6 hb6
              clear HL HB hth
              have hc6 := cell_later (unhide HB6) (unhide HC0)
              have hbl6 : b < w6.heap.size := World.block_lt_of_cell? _ _ hc6
              by_cases hm : (k : Int) % 3 = 1
              · have hm2 : ((k : Int) % 3 == 1) = true := by simp [hm]
                obtain ⟨tk, htk⟩ : ∃ t, took ++ th = t := ⟨_, rfl⟩
                have hts : tk.size = took.size + th.size := by rw [← htk]; simp
                have HTS := hide hts
                have ht3 : tk.size ≤ cm.size := by omega
                have ht4 : ¬ took.size + th.size > 9223372036854775807 := by omega
                clear hts
                go_wp2_with fail
                refine (etake_any w.heap.size w4.heap.size (lim - (cm.size : Int)) th _ w (unhide HL6) (unhide HB6)).mono ?_
                rintro e w8 ⟨rfl, h8, hb8⟩
                have HL8 := hide h8
                have HB8 := hide hb8
                clear h8 hb8
                clear HL6 HB6
                have HS := hide (show cm = tk ++ ⟨#[]⟩ by rw [str_end, ← htk]; exact unhide HC)
                have E := str_cut (unhide HS)
                have g1 : ¬ lim < (cm.size : Int) := by omega
                have g2 : ¬ (cm.size : Int) < (tk.size : Int) := by omega
                have g3 : (tk.size : Int) ≤ (cm.size : Int) := by omega
                go_wp2
                go_roundw
                case rel => exact ⟨k + 1, cm, tk, ⟨#[]⟩, by omega, by go_num, rfl, rfl, HS, by first | omega | (have q0 : (⟨#[]⟩ : ByteArray).size = 0 := rfl; omega), by omega, by omega, HL8, HB8⟩
                case measure => simp [intOf]; omega
              · have hm2 : ((k : Int) % 3 == 1) = false := by simp [hm]
                have HS := hide (unhide HC)
                have E := str_cut (unhide HS)
                have g1 : ¬ lim < (cm.size : Int) := by omega
                have g2 : ¬ (cm.size : Int) < (took.size : Int) := by omega
                have g3 : (took.size : Int) ≤ (cm.size : Int) := by omega
                go_wp2
                go_roundw
                case rel => exact ⟨k + 1, cm, took, th, by omega, by go_num, rfl, rfl, HS, by first | omega | (have q0 : (⟨#[]⟩ : ByteArray).size = 0 := rfl; omega), by omega, by omega, HL6, HB6⟩
                case measure => simp [intOf]; omega
          · have hq : took ++ there = came := (unhide HE).symm
            have hq4 : ¬ took.size + there.size > 9223372036854775807 := by omega
            clear HE
            go_wp2_with fail
            refine (etake_any w.heap.size w4.heap.size (lim - (came.size : Int)) there _ w (unhide HL) (unhide HB)).mono ?_
            rintro e w9 ⟨rfl, h9, hb9⟩
            have HL9 := hide h9
            have HB9 := hide hb9
            clear h9 hb9
            go_wp2_with fail
            refine (eleft_any w.heap.size w4.heap.size (lim - (came.size : Int)) ⟨#[]⟩ _ (unhide HL9)).mono ?_
            rintro e w' ⟨rfl, hw⟩
            obtain rfl := hw.symm
            clear hw
            go_wp2
            go_ret
            exact ⟨rfl, unhide HB9⟩
        · have hq : took ++ there = came := (unhide HE).symm
          have hq4 : ¬ took.size + there.size > 9223372036854775807 := by omega
          clear HE
          go_wp2_with fail
          refine (etake_any w.heap.size w4.heap.size (lim - (came.size : Int)) there _ w (unhide HL) (unhide HB)).mono ?_
          rintro e w9 ⟨rfl, h9, hb9⟩
          have HL9 := hide h9
          have HB9 := hide hb9
          clear h9 hb9
          go_wp2_with fail
          refine (eleft_any w.heap.size w4.heap.size (lim - (came.size : Int)) ⟨#[]⟩ _ (unhide HL9)).mono ?_
          rintro e w' ⟨rfl, hw⟩
          obtain rfl := hw.symm
          clear hw
          go_wp2
          go_ret
          exact ⟨rfl, unhide HB9⟩

theorem walk (a0 : Int) (a1 : Option Addr) (len1 cap1 : Nat) (z1 : List ByteArray) (w : World) (w0 : (Lit.int .i64 a0).wf = true) (w1 : IsStrs w a1 len1 cap1 z1) (hg : ErrType w) :
    Calls Tryd.prog 6 #[.int .i64 a0, .slice a1 len1 cap1] w fun e w' => e = .returned (.bool true) ∧ Below w.heap.size w w' := by
  obtain ⟨l, hlen, hI⟩ := row_strs w1
  exact walk1 a0 a1 len1 cap1 l w hlen hI hg


theorem gErr : Tryd.prog.globalNamed "errors.errorType" = some 0 := by kernel_rfl
theorem rtErr : (Tryd.prog.cutTypes.find? (·.1 == "internal/reflectlite.rtype")).map (·.2) = some 73 := by kernel_rfl
theorem oneRow : ((List.range 114).filter fun t => Tryd.prog.rowNamed t [101, 114, 114, 111, 114]) = [26] := by kernel_rfl
theorem sizeT : Tryd.prog.types.size = 114 := by kernel_rfl
theorem handle_of_laid {W : World} (h : laidMetH Tryd.prog Rows.earlyBoundsRow.laid W) : ErrType W := by
  have h' : laidMet Tryd.prog [] W ∧ handlesMet Tryd.prog Rows.earlyBoundsRow.laid W := h
  obtain ⟨name, u, ty, e1, e2, e3, e4, e5⟩ := h'.2 _ (List.mem_singleton.2 rfl)
  have en : name = [101, 114, 114, 111, 114] := (Option.some.inj e1).symm
  subst en
  obtain rfl := Option.some.inj (rtErr.symm.trans e2)
  have hm : ty ∈ (List.range 114).filter fun t => Tryd.prog.rowNamed t [101, 114, 114, 111, 114] := List.mem_filter.2 ⟨List.mem_range.2 (by rw [← sizeT]; exact e3), e4⟩
  rw [oneRow] at hm
  obtain rfl := List.mem_singleton.1 hm
  have hh : typeHandle Tryd.prog 26 = .pointer (some ⟨1, 26, none⟩) := by kernel_rfl
  rw [hh] at e5
  unfold ErrType
  simpa using World.var?_cell gErr e5 0
theorem door_met (os : Os) (args : Array Value) : laidMetH Tryd.prog Rows.earlyBoundsRow.laid ((World.doorLaid Tryd.prog 400 os).forCall (fun _ _ => 0) ⟨#[], args, []⟩).memory :=
  laidMetH_of_parts (laidMet_nil _ _) (by kernel_rfl)


set_option maxRecDepth 100000 in
theorem lifted (os : Os) (started : os.Started) (H : Type) (enc : TypeId × Value → H) :
    ReturnsInHanded {} Tryd.checked os 6 .any (fun w args => (Rows.earlyBoundsSpec.pre enc Tryd.prog Tryd.f6 [] false w args ∧ laidMetH Tryd.prog Rows.earlyBoundsRow.laid w) ∧ sizedMet enc Tryd.prog Tryd.f6 (OpenSpec.ofChange Rows.earlyBoundsSpec) false w args) (Rows.earlyBoundsSpec.post enc Tryd.prog Tryd.f6 false true false false) := by
  refine returnsInHanded_of_change_and (C := Tryd.checked) (X := fun w _ => laidMetH Tryd.prog Rows.earlyBoundsRow.laid w) (fun _ _ _ hh h => h.of_heap hh) own started (by kernel_rfl) Tryd.func6
    (ChangeSpec.witness_shaped (enc := enc) (C := Tryd.checked) (os := os) (X := fun w _ => laidMetH Tryd.prog Rows.earlyBoundsRow.laid w) false (World.doorLaid Tryd.prog 400 os) #[.int .i64 0, .slice none 0 0] 8 rfl (World.shaped_of_RefB (by kernel_rfl) (by kernel_rfl)) (by kernel_rfl) (by kernel_rfl) (by kernel_rfl) (door_met os _)) ?_
  intro W base args ds gs before hval0 hW _ hsz hL _
  have hg := handle_of_laid hL
  have hval : ∀ (j : Nat) t v, Tryd.f6.params[j]? = some t → args[j]? = some v → Value.okWide Tryd.prog W .any base t v := hval0
  have hW' := hW
  obtain ⟨p, q, hA0, hV, rfl, hfz, hnd⟩ := hW
  have hA : DataW.TrodAll enc Tryd.prog W 0 (fun _ => true) true Tryd.f6.params.toList args.toList ds p := hA0
  rw [Tryd.params6] at hA hval
  obtain ⟨v0, vs0, d0, ds0, p0, q0, hargs, rfl, rfl, h0, r0⟩ := trodAll_cons hA
  obtain ⟨v1, vs1, d1, ds1, p1, q1, rfl, rfl, rfl, h1, r1⟩ := trodAll_cons r0
  obtain ⟨rfl, rfl, rfl⟩ := trodAll_nil r1
  obtain rfl : args = #[v0, v1] := by cases args; simp_all
  obtain ⟨rfl, rfl⟩ := trodVars_none hV
  have k0 := h0
  have lt0 : ∀ x ∈ p0, x.block < W.heap.size := by obtain ⟨m, hm⟩ := k0; exact DataW.trod_lt m _ _ _ hm
  obtain ⟨a0, rfl, rfl, rfl, w0⟩ := open_int Tryd.underlying3 (hval 0 3 v0 rfl rfl) h0
  have k1 := h1
  have lt1 : ∀ x ∈ p1, x.block < W.heap.size := by obtain ⟨m, hm⟩ := k1; exact DataW.trod_lt m _ _ _ hm
  obtain ⟨a1, len1, cap1, rfl⟩ := okWide_slice Tryd.underlying41 (hval 1 41 v1 rfl rfl)
  obtain ⟨z1, w1⟩ : ∃ zs, IsStrs W a1 len1 cap1 zs := by
    obtain ⟨fuel, hf⟩ := h1
    rcases open_strings Tryd.underlying41 Tryd.underlying9 (by kernel_rfl) hf with ⟨hcs, _⟩ | ⟨x, l, c, zs, hcs, _, hl, hm, hz, _, hcell, hwz⟩
    · simp [Value.cells] at hcs
      obtain ⟨rfl, rfl, rfl⟩ := hcs
      exact ⟨[], .inl ⟨rfl, rfl, rfl, rfl⟩⟩
    · simp [Value.cells] at hcs
      obtain ⟨rfl, rfl, rfl⟩ := hcs
      exact ⟨zs, .inr ⟨_, rfl, hl, hm, by simpa using hz, hcell, hwz⟩⟩
  clear hA0 hval0
  refine (walk a0 a1 len1 cap1 z1 W w0 w1 hg).mono fun e W' ⟨he, bel⟩ => ?_
  subst he
  exact ⟨_, rfl, _, _, _, [], _, [], hW', trodAll_mk1 (shut_bool Tryd.underlying4 _), (trodAll_cons_mk (Below.trod laidOut (by kernel_rfl) (of_decide_eq_true (by kernel_rfl)) k0 bel lt0) (trodAll_cons_mk (Below.trod laidOut (by kernel_rfl) (of_decide_eq_true (by kernel_rfl)) k1 bel lt1) trodAll_mk0)), rfl, bel.frame _, fun h => by cases h⟩

theorem over : Rows.earlyBoundsRow.holds Tryd.pinned (OpenSpec.ofChange Rows.earlyBoundsSpec) :=
  OpenClaim.holds_of_wide 6 Tryd.f6 rfl rfl rfl rfl rfl rfl rfl ⟨rfl, rfl, rfl, rfl, rfl⟩ rfl rfl rfl rfl rfl (by kernel_rfl) Tryd.func6 (by kernel_rfl)
    (of_decide_eq_true (by kernel_rfl)) (by unfold Func.isWrapper; first | (rw [if_pos (by decide +kernel)]; kernel_rfl) | (rw [if_neg (by decide +kernel)]; exact ⟨rfl, rfl⟩))
    (fun os started H enc _ => lifted os started H enc)

theorem card : Rows.EarlyBoundsCardSaid :=
  Claim7.holds_tied_plain_at .later [] [.handle] true (true, "511493cc92aec3824be8873b3c1900d6c627e9cc70f1625973852d4191eecbe6") true
    over (fun _ h => by cases h) (by kernel_rfl) (fun _ h => by cases h) earlyBounds_row_tie rfl ⟨rfl, rfl⟩ (by kernel_rfl) rfl
    (fun f fn hf hfn => by
      obtain rfl : f = 6 := Option.some.inj ((show Tryd.prog.funcNamed "tokenfold/foldlaw2.EarlyBounds" = some 6 by kernel_rfl).symm.trans hf) |>.symm
      obtain rfl : fn = Tryd.f6 := (Option.some.inj (Tryd.func6.symm.trans hfn)).symm
      exact ⟨by kernel_rfl, fun j t ht => by
        rw [Tryd.params6] at ht
        have hm : t ∈ [3, 41] := by simpa using Array.mem_of_getElem? ht
        have hall : ([3, 41].all fun u => !Tryd.prog.wantsStandIn u) = true := by kernel_rfl
        exact (show Tryd.prog.wantsStandIn t = false by simpa using List.all_eq_true.1 hall t hm)⟩)
    (by kernel_rfl)

end Go.Proofs.YtibnjlndfoleoafDoor.earlyBounds
namespace Go.Proofs.YtibnjlndfoleoafDoor
theorem earlyBounds_holds : Rows.EarlyBoundsCardSaid := earlyBounds.card
#print axioms earlyBounds_holds
end Go.Proofs.YtibnjlndfoleoafDoor

