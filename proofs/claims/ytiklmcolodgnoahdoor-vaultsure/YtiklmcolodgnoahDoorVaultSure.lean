/-
  VaultSure holds for every number, its time, the time that it is, every other number, and a crash or none: what was kept is spent behind a crash, what was not is not; kept at once it cannot be spent twice while it counts. The listed variable errors.errorType starts as the program's text lays it (the card's tie). No other condition.
-/
import Derived.Test.YtiklmcolodgnoahDoorVaultWalks
import Derived.Test.YtiklmcolodgnoahDoorTie
import Derived.Test.YtiklmcolodgnoahDoorCards
import Derived.ProofKit
import Derived.Lib.SmallJoins
import Derived.LaidMore
import Derived.LaidHandle
import Derived.LaidLaws
import Derived.Stop.Joined
import Derived.SevenTiedAt
namespace Go.Proofs.YtiklmcolodgnoahDoor.vaultSure
open Go.ChangeShapes Go.WideShapes Go.ChangeAt Go.RowKit Go.Joins
set_option linter.unusedVariables false

theorem own : ownKnob Tryd.prog.godebug = none := by kernel_rfl
theorem laidOut : laidOutB Tryd.prog = true := by kernel_rfl
def IsRow (k : IntKind) (w : World) (a : Option Addr) (len cap : Nat) (zs : List Int) : Prop :=
  (a = none ∧ len = 0 ∧ cap = 0 ∧ zs = []) ∨
  ∃ x, a = some x ∧ len ≤ cap ∧ cap ≤ maxLen ∧ zs.length = cap ∧ (∀ i, i < zs.length → w.cell? (x.add i) = some (.int k (zs.getD i 0))) ∧ ∀ n ∈ zs, (Lit.int k n).wf = true
def IsStrs (w : World) (a : Option Addr) (len cap : Nat) (zs : List ByteArray) : Prop :=
  (a = none ∧ len = 0 ∧ cap = 0 ∧ zs = []) ∨
  ∃ x, a = some x ∧ len ≤ cap ∧ cap ≤ maxLen ∧ zs.length = cap ∧ (∀ i, i < zs.length → w.cell? (x.add i) = some (.string (zs.getD i ByteArray.empty))) ∧ ∀ s ∈ zs, s.size ≤ maxLen
def IsPairs (w : World) (a : Option Addr) (len cap : Nat) (zs : List (Int × Int)) : Prop :=
  (a = none ∧ len = 0 ∧ cap = 0 ∧ zs = []) ∨
  ∃ x, a = some x ∧ len ≤ cap ∧ cap ≤ maxLen ∧ zs.length = cap ∧ ∀ i, i < cap → w.cell? (x.add (i * 2)) = some (.int .i64 (zs.getD i (0, 0)).1) ∧ w.cell? (x.add (i * 2 + 1)) = some (.int .i64 (zs.getD i (0, 0)).2)
def IsRows (w : World) (a : Option Addr) (len cap : Nat) (A : Nat → Option Addr) (L C : Nat → Nat) (Z : Nat → List Int) : Prop :=
  (a = none ∧ len = 0 ∧ cap = 0) ∨
  ∃ x, a = some x ∧ len ≤ cap ∧ cap ≤ maxLen ∧ ∀ r, r < cap → w.cell? (x.add r) = some (.slice (A r) (L r) (C r)) ∧ L r ≤ C r ∧ C r ≤ maxLen ∧ (Z r).length = C r ∧ (∀ n ∈ Z r, (Lit.int .i64 n).wf = true) ∧ (A r = none → C r = 0) ∧
    ∀ a', A r = some a' → ∀ c, c < C r → w.cell? (a'.add c) = some (.int .i64 ((Z r).getD c 0))


set_option maxHeartbeats 12800000 in
set_option maxRecDepth 8000 in
theorem walk1 (n till now m : Int) (crash : Bool) (w : World) (hg : ErrType w) :
    Calls Tryd.prog 4 #[.int .i64 n, .int .i64 till, .int .i64 now, .int .i64 m, .bool crash] w fun e w' => e = .returned (.bool true) ∧ Below w.heap.size w w' := by
  have HG := hide hg
  clear hg
  by_cases he : SpentM.spendErr [] n till now = 0
  · have C1 := hide (fun (v : Nat) (K : List (Int × Int)) (w : World) (h : VAt w v [] K) => vspend_any 5 10 1 w h)
    rw [show SpentM.spendErr [] 5 10 1 = 0 by decide, show VaultM.next [] 5 10 1 = [(5, 10)] by decide, errV_zero rfl] at C1
    have C2 := hide (fun (v : Nat) (K : List (Int × Int)) (w : World) (h : VAt w v [] K) => vhas_any 5 w h)
    rw [show SpentM.has [] 5 = false by decide, show SpentM.hasErr [] 5 = 0 by decide, errV_zero rfl] at C2
    have C3 := hide (fun (v : Nat) (K : List (Int × Int)) (w : World) (h : VAt w v [(5, 10)] K) => vspend_any 5 10 2 w h)
    rw [show SpentM.spendErr [(5, 10)] 5 10 2 = 7 by decide, show VaultM.next [(5, 10)] 5 10 2 = [(5, 10)] by decide, errV_pos (by omega)] at C3
    have C4 := hide (fun (v : Nat) (K : List (Int × Int)) (w : World) (h : VAt w v [] K) => vspend_any n till now w h)
    rw [VaultM.first he, he, errV_zero rfl] at C4
    go_enter Tryd.func4, Tryd.ntmps4
    go_wp2_with fail
    refine (vnew_any _).mono ?_
    rintro e w1 ⟨rfl, h1, hb1⟩
    have HV1 := hide h1
    have HB1 := hide (hb1)
    clear h1 hb1
    go_wp2_with fail
    refine (unhide C1 _ _ _ (unhide HV1)).mono ?_
    rintro e w2 ⟨rfl, h2, k2⟩
    have HV2 := hide h2
    have HB2 := hide (vown k2 (unhide HB1) (Nat.le_refl _))
    clear h2 k2 HV1 HB1
    go_wp2_with fail
    refine (vcrash_any _ (unhide HV2)).mono ?_
    rintro e w3 ⟨rfl, h3, k3⟩
    have HV3 := hide h3
    have HB3 := hide (vown k3 (unhide HB2) (Nat.le_refl _))
    clear h3 k3 HV2 HB2
    go_wp2_with fail
    refine (unhide C2 _ _ _ (unhide HV3)).mono ?_
    rintro e w4 ⟨rfl, hb4⟩
    have HV4 := hide ((unhide HV3).later hb4)
    have HB4 := hide (bel3 (unhide HB3) (Below.refl _ _) hb4)
    clear hb4 HV3 HB3
    go_wp2_with fail
    refine (unhide C1 _ _ _ (unhide HV4)).mono ?_
    rintro e w5 ⟨rfl, h5, k5⟩
    have HV5 := hide h5
    have HB5 := hide (vown k5 (unhide HB4) (Nat.le_refl _))
    clear h5 k5 HV4 HB4
    go_wp2_with fail
    refine (vsync_any _ (unhide HV5)).mono ?_
    rintro e w6 ⟨rfl, h6, k6⟩
    have HV6 := hide h6
    have HB6 := hide (vown k6 (unhide HB5) (Nat.le_refl _))
    clear h6 k6 HV5 HB5
    go_wp2_with fail
    refine (vcrash_any _ (unhide HV6)).mono ?_
    rintro e w7 ⟨rfl, h7, k7⟩
    have HV7 := hide h7
    have HB7 := hide (vown k7 (unhide HB6) (Nat.le_refl _))
    clear h7 k7 HV6 HB6
    go_wp2_with fail
    refine (unhide C3 _ _ _ (unhide HV7)).mono ?_
    rintro e w8 ⟨rfl, h8, k8⟩
    have HV8 := hide h8
    have HB8 := hide (vown k8 (unhide HB7) (Nat.le_refl _))
    clear h8 k8 HV7 HB7
    go_wp2_with fail
    refine (same_errno _ _ _ ((unhide HG).later (unhide HB8))).mono ?_
    rintro e w9 ⟨rfl, hb9⟩
    have HV9 := hide ((unhide HV8).later hb9)
    have HB9 := hide (bel3 (unhide HB8) (Below.refl _ _) hb9)
    clear hb9 HV8 HB8
    clear C1 C2 C3 HV9
    go_wp2_with fail
    refine (vnew_any _).mono ?_
    rintro e w10 ⟨rfl, h10, hb10⟩
    have HV10 := hide h10
    have HB10 := hide (bel3 (unhide HB9) (Below.refl _ _) hb10)
    clear h10 hb10
    have hv := (unhide HB9).size
    clear HB9
    generalize w9.heap.size = v at HV10 hv ⊢
    go_wp2_with fail
    refine (unhide C4 _ _ _ (unhide HV10)).mono ?_
    rintro e w11 ⟨rfl, h11, k11⟩
    have HV11 := hide h11
    have HB11 := hide (vown k11 (unhide HB10) hv)
    clear h11 k11 HV10 HB10
    go_wp2_with fail
    refine (vsync_any _ (unhide HV11)).mono ?_
    rintro e w111 ⟨rfl, h111, k111⟩
    have HV111 := hide h111
    have HB111 := hide (vown k111 (unhide HB11) hv)
    clear h111 k111 HV11 HB11
    clear C4
    by_cases hmn : m = n
    · subst hmn
      have hm : TagM.inB m = true := (VaultM.first_zero.1 he).1.1
      have hmm : (m == m) = true := by simp
      have q2 := VaultM.again he
      have E1 := hide (fun (v : Nat) (K : List (Int × Int)) (w : World) (h : VAt w v [(m, till)] K) => vspend_any m till now w h)
      rw [VaultM.next_no (show ¬ SpentM.spendErr [(m, till)] m till now = 0 by rw [q2]; omega), q2, errV_pos (by omega)] at E1
      clear q2
      go_wp2_with fail
      refine (unhide E1 _ _ _ (unhide HV111)).mono ?_
      rintro e w12 ⟨rfl, h12, k12⟩
      have HV12 := hide h12
      have HB12 := hide (vown k12 (unhide HB111) hv)
      clear h12 k12 HV111 HB111
      clear E1
      cases crash with
      | true =>
        have hG : SpentM.Good [(m, till)] := (VaultM.one_good he)
        have hT : TokenM.timeB till = true := (VaultM.first_zero.1 he).1.2.1
        have hI : (m, till) ∈ [(m, till)] := by simp
        have q7 : SpentM.spendErr [(m, till)] m till till = 7 := SpentM.again_there hG hI hT (Int.le_refl _)
        have D1 := hide (fun (v : Nat) (L : List (Int × Int)) (w : World) (h : VAt w v L [(m, till)]) => vsure_any m w h)
        rw [(SpentM.has_there (VaultM.one_good he) (show (m, till) ∈ [(m, till)] by simp)).1, (SpentM.has_there (VaultM.one_good he) (show (m, till) ∈ [(m, till)] by simp)).2, errV_zero rfl] at D1
        have D2 := hide (fun (v : Nat) (K : List (Int × Int)) (w : World) (h : VAt w v [(m, till)] K) => vhas_any m w h)
        rw [(SpentM.has_there hG hI).1, (SpentM.has_there hG hI).2, errV_zero rfl] at D2
        have D3 := hide (fun (v : Nat) (K : List (Int × Int)) (w : World) (h : VAt w v [(m, till)] K) => vspend_any m till till w h)
        rw [VaultM.next_no (show ¬ SpentM.spendErr [(m, till)] m till till = 0 by rw [q7]; omega), q7, errV_pos (by omega)] at D3
        have D4 := hide (fun (v : Nat) (K : List (Int × Int)) (w : World) (h : VAt w v [(m, till)] K) => vhas_any m w h)
        rw [show SpentM.has [(m, till)] m = true by (rw [VaultM.has_good hG, hm]; simp [SpentM.hasB]), show SpentM.hasErr [(m, till)] m = 0 by rw [VaultM.hasErr_good hG, hm]; rfl, errV_zero rfl] at D4
        clear q7 hG hT hI hm he
        go_wp2_with fail
        refine (vcrash_any _ (unhide HV12)).mono ?_
        rintro e w13 ⟨rfl, h13, k13⟩
        have HV13 := hide h13
        have HB13 := hide (vown k13 (unhide HB12) hv)
        clear h13 k13 HV12 HB12
        go_wp2_with fail
        refine (unhide D1 _ _ _ (unhide HV13)).mono ?_
        rintro e w14 ⟨rfl, hb14⟩
        have HV14 := hide ((unhide HV13).later hb14)
        have HB14 := hide (bel3 (unhide HB13) (Below.refl _ _) hb14)
        clear hb14 HV13 HB13
        go_wp2_with fail
        refine (unhide D2 _ _ _ (unhide HV14)).mono ?_
        rintro e w15 ⟨rfl, hb15⟩
        have HV15 := hide ((unhide HV14).later hb15)
        have HB15 := hide (bel3 (unhide HB14) (Below.refl _ _) hb15)
        clear hb15 HV14 HB14
        go_wp2_with fail
        refine (unhide D3 _ _ _ (unhide HV15)).mono ?_
        rintro e w16 ⟨rfl, h16, k16⟩
        have HV16 := hide h16
        have HB16 := hide (vown k16 (unhide HB15) hv)
        clear h16 k16 HV15 HB15
        go_wp2_with fail
        refine (same_errno _ _ _ ((unhide HG).later (unhide HB16))).mono ?_
        rintro e w17 ⟨rfl, hb17⟩
        have HV17 := hide ((unhide HV16).later hb17)
        have HB17 := hide (bel3 (unhide HB16) (Below.refl _ _) hb17)
        clear hb17 HV16 HB16
        go_wp2_with fail
        refine (unhide D4 _ _ _ (unhide HV17)).mono ?_
        rintro e w18 ⟨rfl, hb18⟩
        have HV18 := hide ((unhide HV17).later hb18)
        have HB18 := hide (bel3 (unhide HB17) (Below.refl _ _) hb18)
        clear hb18 HV17 HB17
        go_wp2
        go_ret
        exact ⟨rfl, unhide HB18⟩
      | false =>
        have hG : SpentM.Good [(m, till)] := (VaultM.one_good he)
        have hT : TokenM.timeB till = true := (VaultM.first_zero.1 he).1.2.1
        have hI : (m, till) ∈ [(m, till)] := by simp
        have q7 : SpentM.spendErr [(m, till)] m till till = 7 := SpentM.again_there hG hI hT (Int.le_refl _)
        have D1 := hide (fun (v : Nat) (L : List (Int × Int)) (w : World) (h : VAt w v L [(m, till)]) => vsure_any m w h)
        rw [(SpentM.has_there (VaultM.one_good he) (show (m, till) ∈ [(m, till)] by simp)).1, (SpentM.has_there (VaultM.one_good he) (show (m, till) ∈ [(m, till)] by simp)).2, errV_zero rfl] at D1
        have D2 := hide (fun (v : Nat) (K : List (Int × Int)) (w : World) (h : VAt w v [(m, till)] K) => vhas_any m w h)
        rw [(SpentM.has_there hG hI).1, (SpentM.has_there hG hI).2, errV_zero rfl] at D2
        have D3 := hide (fun (v : Nat) (K : List (Int × Int)) (w : World) (h : VAt w v [(m, till)] K) => vspend_any m till till w h)
        rw [VaultM.next_no (show ¬ SpentM.spendErr [(m, till)] m till till = 0 by rw [q7]; omega), q7, errV_pos (by omega)] at D3
        have D4 := hide (fun (v : Nat) (K : List (Int × Int)) (w : World) (h : VAt w v [(m, till)] K) => vhas_any m w h)
        rw [show SpentM.has [(m, till)] m = true by (rw [VaultM.has_good hG, hm]; simp [SpentM.hasB]), show SpentM.hasErr [(m, till)] m = 0 by rw [VaultM.hasErr_good hG, hm]; rfl, errV_zero rfl] at D4
        clear q7 hG hT hI hm he
        go_wp2_with fail
        refine (unhide D1 _ _ _ (unhide HV12)).mono ?_
        rintro e w14 ⟨rfl, hb14⟩
        have HV14 := hide ((unhide HV12).later hb14)
        have HB14 := hide (bel3 (unhide HB12) (Below.refl _ _) hb14)
        clear hb14 HV12 HB12
        go_wp2_with fail
        refine (unhide D2 _ _ _ (unhide HV14)).mono ?_
        rintro e w15 ⟨rfl, hb15⟩
        have HV15 := hide ((unhide HV14).later hb15)
        have HB15 := hide (bel3 (unhide HB14) (Below.refl _ _) hb15)
        clear hb15 HV14 HB14
        go_wp2_with fail
        refine (unhide D3 _ _ _ (unhide HV15)).mono ?_
        rintro e w16 ⟨rfl, h16, k16⟩
        have HV16 := hide h16
        have HB16 := hide (vown k16 (unhide HB15) hv)
        clear h16 k16 HV15 HB15
        go_wp2_with fail
        refine (same_errno _ _ _ ((unhide HG).later (unhide HB16))).mono ?_
        rintro e w17 ⟨rfl, hb17⟩
        have HV17 := hide ((unhide HV16).later hb17)
        have HB17 := hide (bel3 (unhide HB16) (Below.refl _ _) hb17)
        clear hb17 HV16 HB16
        go_wp2_with fail
        refine (unhide D4 _ _ _ (unhide HV17)).mono ?_
        rintro e w18 ⟨rfl, hb18⟩
        have HV18 := hide ((unhide HV17).later hb18)
        have HB18 := hide (bel3 (unhide HB17) (Below.refl _ _) hb18)
        clear hb18 HV17 HB17
        go_wp2
        go_ret
        exact ⟨rfl, unhide HB18⟩
    · cases hm : TagM.inB m with
      | true =>
        have hr0 := ((TagM.inB_iff m).1 hm).1
        have hr1 := ((TagM.inB_iff m).1 hm).2
        have hnm : (n == m) = false := by simp; omega
        have hmn2 : (m == n) = false := by simp; omega
        have E1 := hide (fun (v : Nat) (K : List (Int × Int)) (w : World) (h : VAt w v [(n, till)] K) => vspend_any m till now w h)
        rw [(VaultM.second he hm hmn).2, (VaultM.second he hm hmn).1, errV_zero rfl] at E1
        go_wp2_with fail
        refine (unhide E1 _ _ _ (unhide HV111)).mono ?_
        rintro e w12 ⟨rfl, h12, k12⟩
        have HV12 := hide h12
        have HB12 := hide (vown k12 (unhide HB111) hv)
        clear h12 k12 HV111 HB111
        clear E1
        cases crash with
        | true =>
          have hG : SpentM.Good [(n, till)] := (VaultM.one_good he)
          have hT : TokenM.timeB till = true := (VaultM.first_zero.1 he).1.2.1
          have hI : (n, till) ∈ [(n, till)] := by simp
          have q7 : SpentM.spendErr [(n, till)] n till till = 7 := SpentM.again_there hG hI hT (Int.le_refl _)
          have D1 := hide (fun (v : Nat) (L : List (Int × Int)) (w : World) (h : VAt w v L [(n, till)]) => vsure_any n w h)
          rw [(SpentM.has_there (VaultM.one_good he) (show (n, till) ∈ [(n, till)] by simp)).1, (SpentM.has_there (VaultM.one_good he) (show (n, till) ∈ [(n, till)] by simp)).2, errV_zero rfl] at D1
          have D2 := hide (fun (v : Nat) (K : List (Int × Int)) (w : World) (h : VAt w v [(n, till)] K) => vhas_any n w h)
          rw [(SpentM.has_there hG hI).1, (SpentM.has_there hG hI).2, errV_zero rfl] at D2
          have D3 := hide (fun (v : Nat) (K : List (Int × Int)) (w : World) (h : VAt w v [(n, till)] K) => vspend_any n till till w h)
          rw [VaultM.next_no (show ¬ SpentM.spendErr [(n, till)] n till till = 0 by rw [q7]; omega), q7, errV_pos (by omega)] at D3
          have D4 := hide (fun (v : Nat) (K : List (Int × Int)) (w : World) (h : VAt w v [(n, till)] K) => vhas_any m w h)
          rw [show SpentM.has [(n, till)] m = false by (rw [VaultM.has_good hG, hm]; simp [SpentM.hasB, hnm]), show SpentM.hasErr [(n, till)] m = 0 by rw [VaultM.hasErr_good hG, hm]; rfl, errV_zero rfl] at D4
          clear q7 hG hT hI hm he
          go_wp2_with fail
          refine (vcrash_any _ (unhide HV12)).mono ?_
          rintro e w13 ⟨rfl, h13, k13⟩
          have HV13 := hide h13
          have HB13 := hide (vown k13 (unhide HB12) hv)
          clear h13 k13 HV12 HB12
          go_wp2_with fail
          refine (unhide D1 _ _ _ (unhide HV13)).mono ?_
          rintro e w14 ⟨rfl, hb14⟩
          have HV14 := hide ((unhide HV13).later hb14)
          have HB14 := hide (bel3 (unhide HB13) (Below.refl _ _) hb14)
          clear hb14 HV13 HB13
          go_wp2_with fail
          refine (unhide D2 _ _ _ (unhide HV14)).mono ?_
          rintro e w15 ⟨rfl, hb15⟩
          have HV15 := hide ((unhide HV14).later hb15)
          have HB15 := hide (bel3 (unhide HB14) (Below.refl _ _) hb15)
          clear hb15 HV14 HB14
          go_wp2_with fail
          refine (unhide D3 _ _ _ (unhide HV15)).mono ?_
          rintro e w16 ⟨rfl, h16, k16⟩
          have HV16 := hide h16
          have HB16 := hide (vown k16 (unhide HB15) hv)
          clear h16 k16 HV15 HB15
          go_wp2_with fail
          refine (same_errno _ _ _ ((unhide HG).later (unhide HB16))).mono ?_
          rintro e w17 ⟨rfl, hb17⟩
          have HV17 := hide ((unhide HV16).later hb17)
          have HB17 := hide (bel3 (unhide HB16) (Below.refl _ _) hb17)
          clear hb17 HV16 HB16
          go_wp2_with fail
          refine (unhide D4 _ _ _ (unhide HV17)).mono ?_
          rintro e w18 ⟨rfl, hb18⟩
          have HV18 := hide ((unhide HV17).later hb18)
          have HB18 := hide (bel3 (unhide HB17) (Below.refl _ _) hb18)
          clear hb18 HV17 HB17
          go_wp2
          go_ret
          exact ⟨rfl, unhide HB18⟩
        | false =>
          have hG : SpentM.Good [(n, till), (m, till)] := (by rw [← (VaultM.second he hm hmn).2]; exact VaultM.next_good (VaultM.one_good he))
          have hT : TokenM.timeB till = true := (VaultM.first_zero.1 he).1.2.1
          have hI : (n, till) ∈ [(n, till), (m, till)] := by simp
          have q7 : SpentM.spendErr [(n, till), (m, till)] n till till = 7 := SpentM.again_there hG hI hT (Int.le_refl _)
          have D1 := hide (fun (v : Nat) (L : List (Int × Int)) (w : World) (h : VAt w v L [(n, till)]) => vsure_any n w h)
          rw [(SpentM.has_there (VaultM.one_good he) (show (n, till) ∈ [(n, till)] by simp)).1, (SpentM.has_there (VaultM.one_good he) (show (n, till) ∈ [(n, till)] by simp)).2, errV_zero rfl] at D1
          have D2 := hide (fun (v : Nat) (K : List (Int × Int)) (w : World) (h : VAt w v [(n, till), (m, till)] K) => vhas_any n w h)
          rw [(SpentM.has_there hG hI).1, (SpentM.has_there hG hI).2, errV_zero rfl] at D2
          have D3 := hide (fun (v : Nat) (K : List (Int × Int)) (w : World) (h : VAt w v [(n, till), (m, till)] K) => vspend_any n till till w h)
          rw [VaultM.next_no (show ¬ SpentM.spendErr [(n, till), (m, till)] n till till = 0 by rw [q7]; omega), q7, errV_pos (by omega)] at D3
          have D4 := hide (fun (v : Nat) (K : List (Int × Int)) (w : World) (h : VAt w v [(n, till), (m, till)] K) => vhas_any m w h)
          rw [show SpentM.has [(n, till), (m, till)] m = true by (rw [VaultM.has_good hG, hm]; simp [SpentM.hasB]), show SpentM.hasErr [(n, till), (m, till)] m = 0 by rw [VaultM.hasErr_good hG, hm]; rfl, errV_zero rfl] at D4
          clear q7 hG hT hI hm he
          go_wp2_with fail
          refine (unhide D1 _ _ _ (unhide HV12)).mono ?_
          rintro e w14 ⟨rfl, hb14⟩
          have HV14 := hide ((unhide HV12).later hb14)
          have HB14 := hide (bel3 (unhide HB12) (Below.refl _ _) hb14)
          clear hb14 HV12 HB12
          go_wp2_with fail
          refine (unhide D2 _ _ _ (unhide HV14)).mono ?_
          rintro e w15 ⟨rfl, hb15⟩
          have HV15 := hide ((unhide HV14).later hb15)
          have HB15 := hide (bel3 (unhide HB14) (Below.refl _ _) hb15)
          clear hb15 HV14 HB14
          go_wp2_with fail
          refine (unhide D3 _ _ _ (unhide HV15)).mono ?_
          rintro e w16 ⟨rfl, h16, k16⟩
          have HV16 := hide h16
          have HB16 := hide (vown k16 (unhide HB15) hv)
          clear h16 k16 HV15 HB15
          go_wp2_with fail
          refine (same_errno _ _ _ ((unhide HG).later (unhide HB16))).mono ?_
          rintro e w17 ⟨rfl, hb17⟩
          have HV17 := hide ((unhide HV16).later hb17)
          have HB17 := hide (bel3 (unhide HB16) (Below.refl _ _) hb17)
          clear hb17 HV16 HB16
          go_wp2_with fail
          refine (unhide D4 _ _ _ (unhide HV17)).mono ?_
          rintro e w18 ⟨rfl, hb18⟩
          have HV18 := hide ((unhide HV17).later hb18)
          have HB18 := hide (bel3 (unhide HB17) (Below.refl _ _) hb18)
          clear hb18 HV17 HB17
          go_wp2
          go_ret
          exact ⟨rfl, unhide HB18⟩
      | false =>
        rcases (TagM.inB_not m).1 hm with hr | hr
        · have hnm : (n == m) = false := by simp; omega
          have hmn2 : (m == n) = false := by simp; omega
          have q2 := VaultM.out (m := m) he hm
          have E1 := hide (fun (v : Nat) (K : List (Int × Int)) (w : World) (h : VAt w v [(n, till)] K) => vspend_any m till now w h)
          rw [VaultM.next_no (show ¬ SpentM.spendErr [(n, till)] m till now = 0 by rw [q2]; omega), q2, errV_pos (by omega)] at E1
          clear q2
          go_wp2_with fail
          refine (unhide E1 _ _ _ (unhide HV111)).mono ?_
          rintro e w12 ⟨rfl, h12, k12⟩
          have HV12 := hide h12
          have HB12 := hide (vown k12 (unhide HB111) hv)
          clear h12 k12 HV111 HB111
          clear E1
          cases crash with
          | true =>
            have hG : SpentM.Good [(n, till)] := (VaultM.one_good he)
            have hT : TokenM.timeB till = true := (VaultM.first_zero.1 he).1.2.1
            have hI : (n, till) ∈ [(n, till)] := by simp
            have q7 : SpentM.spendErr [(n, till)] n till till = 7 := SpentM.again_there hG hI hT (Int.le_refl _)
            have D1 := hide (fun (v : Nat) (L : List (Int × Int)) (w : World) (h : VAt w v L [(n, till)]) => vsure_any n w h)
            rw [(SpentM.has_there (VaultM.one_good he) (show (n, till) ∈ [(n, till)] by simp)).1, (SpentM.has_there (VaultM.one_good he) (show (n, till) ∈ [(n, till)] by simp)).2, errV_zero rfl] at D1
            have D2 := hide (fun (v : Nat) (K : List (Int × Int)) (w : World) (h : VAt w v [(n, till)] K) => vhas_any n w h)
            rw [(SpentM.has_there hG hI).1, (SpentM.has_there hG hI).2, errV_zero rfl] at D2
            have D3 := hide (fun (v : Nat) (K : List (Int × Int)) (w : World) (h : VAt w v [(n, till)] K) => vspend_any n till till w h)
            rw [VaultM.next_no (show ¬ SpentM.spendErr [(n, till)] n till till = 0 by rw [q7]; omega), q7, errV_pos (by omega)] at D3
            have D4 := hide (fun (v : Nat) (K : List (Int × Int)) (w : World) (h : VAt w v [(n, till)] K) => vhas_any m w h)
            rw [show SpentM.has [(n, till)] m = false by (rw [VaultM.has_good hG, hm]; simp [SpentM.hasB, hnm]), show SpentM.hasErr [(n, till)] m = 1 by rw [VaultM.hasErr_good hG, hm]; rfl, errV_pos (by omega)] at D4
            clear q7 hG hT hI hm he
            go_wp2_with fail
            refine (vcrash_any _ (unhide HV12)).mono ?_
            rintro e w13 ⟨rfl, h13, k13⟩
            have HV13 := hide h13
            have HB13 := hide (vown k13 (unhide HB12) hv)
            clear h13 k13 HV12 HB12
            go_wp2_with fail
            refine (unhide D1 _ _ _ (unhide HV13)).mono ?_
            rintro e w14 ⟨rfl, hb14⟩
            have HV14 := hide ((unhide HV13).later hb14)
            have HB14 := hide (bel3 (unhide HB13) (Below.refl _ _) hb14)
            clear hb14 HV13 HB13
            go_wp2_with fail
            refine (unhide D2 _ _ _ (unhide HV14)).mono ?_
            rintro e w15 ⟨rfl, hb15⟩
            have HV15 := hide ((unhide HV14).later hb15)
            have HB15 := hide (bel3 (unhide HB14) (Below.refl _ _) hb15)
            clear hb15 HV14 HB14
            go_wp2_with fail
            refine (unhide D3 _ _ _ (unhide HV15)).mono ?_
            rintro e w16 ⟨rfl, h16, k16⟩
            have HV16 := hide h16
            have HB16 := hide (vown k16 (unhide HB15) hv)
            clear h16 k16 HV15 HB15
            go_wp2_with fail
            refine (same_errno _ _ _ ((unhide HG).later (unhide HB16))).mono ?_
            rintro e w17 ⟨rfl, hb17⟩
            have HV17 := hide ((unhide HV16).later hb17)
            have HB17 := hide (bel3 (unhide HB16) (Below.refl _ _) hb17)
            clear hb17 HV16 HB16
            go_wp2_with fail
            refine (unhide D4 _ _ _ (unhide HV17)).mono ?_
            rintro e w18 ⟨rfl, hb18⟩
            have HV18 := hide ((unhide HV17).later hb18)
            have HB18 := hide (bel3 (unhide HB17) (Below.refl _ _) hb18)
            clear hb18 HV17 HB17
            go_wp2
            go_ret
            exact ⟨rfl, unhide HB18⟩
          | false =>
            have hG : SpentM.Good [(n, till)] := (VaultM.one_good he)
            have hT : TokenM.timeB till = true := (VaultM.first_zero.1 he).1.2.1
            have hI : (n, till) ∈ [(n, till)] := by simp
            have q7 : SpentM.spendErr [(n, till)] n till till = 7 := SpentM.again_there hG hI hT (Int.le_refl _)
            have D1 := hide (fun (v : Nat) (L : List (Int × Int)) (w : World) (h : VAt w v L [(n, till)]) => vsure_any n w h)
            rw [(SpentM.has_there (VaultM.one_good he) (show (n, till) ∈ [(n, till)] by simp)).1, (SpentM.has_there (VaultM.one_good he) (show (n, till) ∈ [(n, till)] by simp)).2, errV_zero rfl] at D1
            have D2 := hide (fun (v : Nat) (K : List (Int × Int)) (w : World) (h : VAt w v [(n, till)] K) => vhas_any n w h)
            rw [(SpentM.has_there hG hI).1, (SpentM.has_there hG hI).2, errV_zero rfl] at D2
            have D3 := hide (fun (v : Nat) (K : List (Int × Int)) (w : World) (h : VAt w v [(n, till)] K) => vspend_any n till till w h)
            rw [VaultM.next_no (show ¬ SpentM.spendErr [(n, till)] n till till = 0 by rw [q7]; omega), q7, errV_pos (by omega)] at D3
            have D4 := hide (fun (v : Nat) (K : List (Int × Int)) (w : World) (h : VAt w v [(n, till)] K) => vhas_any m w h)
            rw [show SpentM.has [(n, till)] m = false by (rw [VaultM.has_good hG, hm]; simp [SpentM.hasB, hnm]), show SpentM.hasErr [(n, till)] m = 1 by rw [VaultM.hasErr_good hG, hm]; rfl, errV_pos (by omega)] at D4
            clear q7 hG hT hI hm he
            go_wp2_with fail
            refine (unhide D1 _ _ _ (unhide HV12)).mono ?_
            rintro e w14 ⟨rfl, hb14⟩
            have HV14 := hide ((unhide HV12).later hb14)
            have HB14 := hide (bel3 (unhide HB12) (Below.refl _ _) hb14)
            clear hb14 HV12 HB12
            go_wp2_with fail
            refine (unhide D2 _ _ _ (unhide HV14)).mono ?_
            rintro e w15 ⟨rfl, hb15⟩
            have HV15 := hide ((unhide HV14).later hb15)
            have HB15 := hide (bel3 (unhide HB14) (Below.refl _ _) hb15)
            clear hb15 HV14 HB14
            go_wp2_with fail
            refine (unhide D3 _ _ _ (unhide HV15)).mono ?_
            rintro e w16 ⟨rfl, h16, k16⟩
            have HV16 := hide h16
            have HB16 := hide (vown k16 (unhide HB15) hv)
            clear h16 k16 HV15 HB15
            go_wp2_with fail
            refine (same_errno _ _ _ ((unhide HG).later (unhide HB16))).mono ?_
            rintro e w17 ⟨rfl, hb17⟩
            have HV17 := hide ((unhide HV16).later hb17)
            have HB17 := hide (bel3 (unhide HB16) (Below.refl _ _) hb17)
            clear hb17 HV16 HB16
            go_wp2_with fail
            refine (unhide D4 _ _ _ (unhide HV17)).mono ?_
            rintro e w18 ⟨rfl, hb18⟩
            have HV18 := hide ((unhide HV17).later hb18)
            have HB18 := hide (bel3 (unhide HB17) (Below.refl _ _) hb18)
            clear hb18 HV17 HB17
            go_wp2
            go_ret
            exact ⟨rfl, unhide HB18⟩
        · have hr0 : 0 ≤ m := by omega
          have hr1 : ¬ m ≤ 999982 := by omega
          have hnm : (n == m) = false := by simp; omega
          have hmn2 : (m == n) = false := by simp; omega
          have q2 := VaultM.out (m := m) he hm
          have E1 := hide (fun (v : Nat) (K : List (Int × Int)) (w : World) (h : VAt w v [(n, till)] K) => vspend_any m till now w h)
          rw [VaultM.next_no (show ¬ SpentM.spendErr [(n, till)] m till now = 0 by rw [q2]; omega), q2, errV_pos (by omega)] at E1
          clear q2
          go_wp2_with fail
          refine (unhide E1 _ _ _ (unhide HV111)).mono ?_
          rintro e w12 ⟨rfl, h12, k12⟩
          have HV12 := hide h12
          have HB12 := hide (vown k12 (unhide HB111) hv)
          clear h12 k12 HV111 HB111
          clear E1
          cases crash with
          | true =>
            have hG : SpentM.Good [(n, till)] := (VaultM.one_good he)
            have hT : TokenM.timeB till = true := (VaultM.first_zero.1 he).1.2.1
            have hI : (n, till) ∈ [(n, till)] := by simp
            have q7 : SpentM.spendErr [(n, till)] n till till = 7 := SpentM.again_there hG hI hT (Int.le_refl _)
            have D1 := hide (fun (v : Nat) (L : List (Int × Int)) (w : World) (h : VAt w v L [(n, till)]) => vsure_any n w h)
            rw [(SpentM.has_there (VaultM.one_good he) (show (n, till) ∈ [(n, till)] by simp)).1, (SpentM.has_there (VaultM.one_good he) (show (n, till) ∈ [(n, till)] by simp)).2, errV_zero rfl] at D1
            have D2 := hide (fun (v : Nat) (K : List (Int × Int)) (w : World) (h : VAt w v [(n, till)] K) => vhas_any n w h)
            rw [(SpentM.has_there hG hI).1, (SpentM.has_there hG hI).2, errV_zero rfl] at D2
            have D3 := hide (fun (v : Nat) (K : List (Int × Int)) (w : World) (h : VAt w v [(n, till)] K) => vspend_any n till till w h)
            rw [VaultM.next_no (show ¬ SpentM.spendErr [(n, till)] n till till = 0 by rw [q7]; omega), q7, errV_pos (by omega)] at D3
            have D4 := hide (fun (v : Nat) (K : List (Int × Int)) (w : World) (h : VAt w v [(n, till)] K) => vhas_any m w h)
            rw [show SpentM.has [(n, till)] m = false by (rw [VaultM.has_good hG, hm]; simp [SpentM.hasB, hnm]), show SpentM.hasErr [(n, till)] m = 1 by rw [VaultM.hasErr_good hG, hm]; rfl, errV_pos (by omega)] at D4
            clear q7 hG hT hI hm he
            go_wp2_with fail
            refine (vcrash_any _ (unhide HV12)).mono ?_
            rintro e w13 ⟨rfl, h13, k13⟩
            have HV13 := hide h13
            have HB13 := hide (vown k13 (unhide HB12) hv)
            clear h13 k13 HV12 HB12
            go_wp2_with fail
            refine (unhide D1 _ _ _ (unhide HV13)).mono ?_
            rintro e w14 ⟨rfl, hb14⟩
            have HV14 := hide ((unhide HV13).later hb14)
            have HB14 := hide (bel3 (unhide HB13) (Below.refl _ _) hb14)
            clear hb14 HV13 HB13
            go_wp2_with fail
            refine (unhide D2 _ _ _ (unhide HV14)).mono ?_
            rintro e w15 ⟨rfl, hb15⟩
            have HV15 := hide ((unhide HV14).later hb15)
            have HB15 := hide (bel3 (unhide HB14) (Below.refl _ _) hb15)
            clear hb15 HV14 HB14
            go_wp2_with fail
            refine (unhide D3 _ _ _ (unhide HV15)).mono ?_
            rintro e w16 ⟨rfl, h16, k16⟩
            have HV16 := hide h16
            have HB16 := hide (vown k16 (unhide HB15) hv)
            clear h16 k16 HV15 HB15
            go_wp2_with fail
            refine (same_errno _ _ _ ((unhide HG).later (unhide HB16))).mono ?_
            rintro e w17 ⟨rfl, hb17⟩
            have HV17 := hide ((unhide HV16).later hb17)
            have HB17 := hide (bel3 (unhide HB16) (Below.refl _ _) hb17)
            clear hb17 HV16 HB16
            go_wp2_with fail
            refine (unhide D4 _ _ _ (unhide HV17)).mono ?_
            rintro e w18 ⟨rfl, hb18⟩
            have HV18 := hide ((unhide HV17).later hb18)
            have HB18 := hide (bel3 (unhide HB17) (Below.refl _ _) hb18)
            clear hb18 HV17 HB17
            go_wp2
            go_ret
            exact ⟨rfl, unhide HB18⟩
          | false =>
            have hG : SpentM.Good [(n, till)] := (VaultM.one_good he)
            have hT : TokenM.timeB till = true := (VaultM.first_zero.1 he).1.2.1
            have hI : (n, till) ∈ [(n, till)] := by simp
            have q7 : SpentM.spendErr [(n, till)] n till till = 7 := SpentM.again_there hG hI hT (Int.le_refl _)
            have D1 := hide (fun (v : Nat) (L : List (Int × Int)) (w : World) (h : VAt w v L [(n, till)]) => vsure_any n w h)
            rw [(SpentM.has_there (VaultM.one_good he) (show (n, till) ∈ [(n, till)] by simp)).1, (SpentM.has_there (VaultM.one_good he) (show (n, till) ∈ [(n, till)] by simp)).2, errV_zero rfl] at D1
            have D2 := hide (fun (v : Nat) (K : List (Int × Int)) (w : World) (h : VAt w v [(n, till)] K) => vhas_any n w h)
            rw [(SpentM.has_there hG hI).1, (SpentM.has_there hG hI).2, errV_zero rfl] at D2
            have D3 := hide (fun (v : Nat) (K : List (Int × Int)) (w : World) (h : VAt w v [(n, till)] K) => vspend_any n till till w h)
            rw [VaultM.next_no (show ¬ SpentM.spendErr [(n, till)] n till till = 0 by rw [q7]; omega), q7, errV_pos (by omega)] at D3
            have D4 := hide (fun (v : Nat) (K : List (Int × Int)) (w : World) (h : VAt w v [(n, till)] K) => vhas_any m w h)
            rw [show SpentM.has [(n, till)] m = false by (rw [VaultM.has_good hG, hm]; simp [SpentM.hasB, hnm]), show SpentM.hasErr [(n, till)] m = 1 by rw [VaultM.hasErr_good hG, hm]; rfl, errV_pos (by omega)] at D4
            clear q7 hG hT hI hm he
            go_wp2_with fail
            refine (unhide D1 _ _ _ (unhide HV12)).mono ?_
            rintro e w14 ⟨rfl, hb14⟩
            have HV14 := hide ((unhide HV12).later hb14)
            have HB14 := hide (bel3 (unhide HB12) (Below.refl _ _) hb14)
            clear hb14 HV12 HB12
            go_wp2_with fail
            refine (unhide D2 _ _ _ (unhide HV14)).mono ?_
            rintro e w15 ⟨rfl, hb15⟩
            have HV15 := hide ((unhide HV14).later hb15)
            have HB15 := hide (bel3 (unhide HB14) (Below.refl _ _) hb15)
            clear hb15 HV14 HB14
            go_wp2_with fail
            refine (unhide D3 _ _ _ (unhide HV15)).mono ?_
            rintro e w16 ⟨rfl, h16, k16⟩
            have HV16 := hide h16
            have HB16 := hide (vown k16 (unhide HB15) hv)
            clear h16 k16 HV15 HB15
            go_wp2_with fail
            refine (same_errno _ _ _ ((unhide HG).later (unhide HB16))).mono ?_
            rintro e w17 ⟨rfl, hb17⟩
            have HV17 := hide ((unhide HV16).later hb17)
            have HB17 := hide (bel3 (unhide HB16) (Below.refl _ _) hb17)
            clear hb17 HV16 HB16
            go_wp2_with fail
            refine (unhide D4 _ _ _ (unhide HV17)).mono ?_
            rintro e w18 ⟨rfl, hb18⟩
            have HV18 := hide ((unhide HV17).later hb18)
            have HB18 := hide (bel3 (unhide HB17) (Below.refl _ _) hb18)
            clear hb18 HV17 HB17
            go_wp2
            go_ret
            exact ⟨rfl, unhide HB18⟩
  · have C1 := hide (fun (v : Nat) (K : List (Int × Int)) (w : World) (h : VAt w v [] K) => vspend_any 5 10 1 w h)
    rw [show SpentM.spendErr [] 5 10 1 = 0 by decide, show VaultM.next [] 5 10 1 = [(5, 10)] by decide, errV_zero rfl] at C1
    have C2 := hide (fun (v : Nat) (K : List (Int × Int)) (w : World) (h : VAt w v [] K) => vhas_any 5 w h)
    rw [show SpentM.has [] 5 = false by decide, show SpentM.hasErr [] 5 = 0 by decide, errV_zero rfl] at C2
    have C3 := hide (fun (v : Nat) (K : List (Int × Int)) (w : World) (h : VAt w v [(5, 10)] K) => vspend_any 5 10 2 w h)
    rw [show SpentM.spendErr [(5, 10)] 5 10 2 = 7 by decide, show VaultM.next [(5, 10)] 5 10 2 = [(5, 10)] by decide, errV_pos (by omega)] at C3
    have C4 := hide (fun (v : Nat) (K : List (Int × Int)) (w : World) (h : VAt w v [] K) => vspend_no n till now w h he)
    generalize SpentM.spendErr [] n till now = q at C4
    clear he
    go_enter Tryd.func4, Tryd.ntmps4
    go_wp2_with fail
    refine (vnew_any _).mono ?_
    rintro e w1 ⟨rfl, h1, hb1⟩
    have HV1 := hide h1
    have HB1 := hide (hb1)
    clear h1 hb1
    go_wp2_with fail
    refine (unhide C1 _ _ _ (unhide HV1)).mono ?_
    rintro e w2 ⟨rfl, h2, k2⟩
    have HV2 := hide h2
    have HB2 := hide (vown k2 (unhide HB1) (Nat.le_refl _))
    clear h2 k2 HV1 HB1
    go_wp2_with fail
    refine (vcrash_any _ (unhide HV2)).mono ?_
    rintro e w3 ⟨rfl, h3, k3⟩
    have HV3 := hide h3
    have HB3 := hide (vown k3 (unhide HB2) (Nat.le_refl _))
    clear h3 k3 HV2 HB2
    go_wp2_with fail
    refine (unhide C2 _ _ _ (unhide HV3)).mono ?_
    rintro e w4 ⟨rfl, hb4⟩
    have HV4 := hide ((unhide HV3).later hb4)
    have HB4 := hide (bel3 (unhide HB3) (Below.refl _ _) hb4)
    clear hb4 HV3 HB3
    go_wp2_with fail
    refine (unhide C1 _ _ _ (unhide HV4)).mono ?_
    rintro e w5 ⟨rfl, h5, k5⟩
    have HV5 := hide h5
    have HB5 := hide (vown k5 (unhide HB4) (Nat.le_refl _))
    clear h5 k5 HV4 HB4
    go_wp2_with fail
    refine (vsync_any _ (unhide HV5)).mono ?_
    rintro e w6 ⟨rfl, h6, k6⟩
    have HV6 := hide h6
    have HB6 := hide (vown k6 (unhide HB5) (Nat.le_refl _))
    clear h6 k6 HV5 HB5
    go_wp2_with fail
    refine (vcrash_any _ (unhide HV6)).mono ?_
    rintro e w7 ⟨rfl, h7, k7⟩
    have HV7 := hide h7
    have HB7 := hide (vown k7 (unhide HB6) (Nat.le_refl _))
    clear h7 k7 HV6 HB6
    go_wp2_with fail
    refine (unhide C3 _ _ _ (unhide HV7)).mono ?_
    rintro e w8 ⟨rfl, h8, k8⟩
    have HV8 := hide h8
    have HB8 := hide (vown k8 (unhide HB7) (Nat.le_refl _))
    clear h8 k8 HV7 HB7
    go_wp2_with fail
    refine (same_errno _ _ _ ((unhide HG).later (unhide HB8))).mono ?_
    rintro e w9 ⟨rfl, hb9⟩
    have HV9 := hide ((unhide HV8).later hb9)
    have HB9 := hide (bel3 (unhide HB8) (Below.refl _ _) hb9)
    clear hb9 HV8 HB8
    clear C1 C2 C3 HV9
    go_wp2_with fail
    refine (vnew_any _).mono ?_
    rintro e w10 ⟨rfl, h10, hb10⟩
    have HV10 := hide h10
    have HB10 := hide (bel3 (unhide HB9) (Below.refl _ _) hb10)
    clear h10 hb10
    have hv := (unhide HB9).size
    clear HB9
    generalize w9.heap.size = v at HV10 hv ⊢
    go_wp2_with fail
    refine (unhide C4 _ _ _ (unhide HV10)).mono ?_
    rintro e w11 ⟨rfl, hb11⟩
    have HB11 := hide (bel3 (unhide HB10) (Below.refl _ _) hb11)
    clear hb11
    go_wp2
    go_ret
    exact ⟨rfl, unhide HB11⟩

theorem walk (n till now m : Int) (crash : Bool) (w : World) (_w0 : (Lit.int .i64 n).wf = true) (_w1 : (Lit.int .i64 till).wf = true) (_w2 : (Lit.int .i64 now).wf = true) (_w3 : (Lit.int .i64 m).wf = true) (hg : ErrType w) :
    Calls Tryd.prog 4 #[.int .i64 n, .int .i64 till, .int .i64 now, .int .i64 m, .bool crash] w fun e w' => e = .returned (.bool true) ∧ Below w.heap.size w w' := walk1 n till now m crash w hg


theorem gErr : Tryd.prog.globalNamed "errors.errorType" = some 0 := by kernel_rfl
theorem rtErr : (Tryd.prog.cutTypes.find? (·.1 == "internal/reflectlite.rtype")).map (·.2) = some 94 := by kernel_rfl
theorem oneRow : ((List.range 136).filter fun t => Tryd.prog.rowNamed t [101, 114, 114, 111, 114]) = [38] := by kernel_rfl
theorem sizeT : Tryd.prog.types.size = 136 := by kernel_rfl
theorem handle_of_laid {W : World} (h : laidMetH Tryd.prog Rows.vaultSureRow.laid W) : ErrType W := by
  have h' : laidMet Tryd.prog [] W ∧ handlesMet Tryd.prog Rows.vaultSureRow.laid W := h
  obtain ⟨name, u, ty, e1, e2, e3, e4, e5⟩ := h'.2 _ (List.mem_singleton.2 rfl)
  have en : name = [101, 114, 114, 111, 114] := (Option.some.inj e1).symm
  subst en
  obtain rfl := Option.some.inj (rtErr.symm.trans e2)
  have hm : ty ∈ (List.range 136).filter fun t => Tryd.prog.rowNamed t [101, 114, 114, 111, 114] := List.mem_filter.2 ⟨List.mem_range.2 (by rw [← sizeT]; exact e3), e4⟩
  rw [oneRow] at hm
  obtain rfl := List.mem_singleton.1 hm
  have hh : typeHandle Tryd.prog 38 = .pointer (some ⟨1, 38, none⟩) := by kernel_rfl
  rw [hh] at e5
  unfold ErrType
  simpa using World.var?_cell gErr e5 0
theorem door_met (os : Os) (args : Array Value) : laidMetH Tryd.prog Rows.vaultSureRow.laid ((World.doorLaid Tryd.prog 400 os).forCall (fun _ _ => 0) ⟨#[], args, []⟩).memory :=
  laidMetH_of_parts (laidMet_nil _ _) (by kernel_rfl)


set_option maxRecDepth 100000 in
theorem lifted (os : Os) (started : os.Started) (H : Type) (enc : TypeId × Value → H) :
    ReturnsInHanded {} Tryd.checked os 4 .any (fun w args => (Rows.vaultSureSpec.pre enc Tryd.prog Tryd.f4 [] false w args ∧ laidMetH Tryd.prog Rows.vaultSureRow.laid w) ∧ sizedMet enc Tryd.prog Tryd.f4 (OpenSpec.ofChange Rows.vaultSureSpec) false w args) (Rows.vaultSureSpec.post enc Tryd.prog Tryd.f4 false true false false) := by
  refine returnsInHanded_of_change_and (C := Tryd.checked) (X := fun w _ => laidMetH Tryd.prog Rows.vaultSureRow.laid w) (fun _ _ _ hh h => h.of_heap hh) own started (by kernel_rfl) Tryd.func4
    (ChangeSpec.witness_shaped (enc := enc) (C := Tryd.checked) (os := os) (X := fun w _ => laidMetH Tryd.prog Rows.vaultSureRow.laid w) false (World.doorLaid Tryd.prog 400 os) #[.int .i64 0, .int .i64 0, .int .i64 0, .int .i64 0, .bool false] 8 rfl (World.shaped_of_RefB (by kernel_rfl) (by kernel_rfl)) (by kernel_rfl) (by kernel_rfl) (by kernel_rfl) (door_met os _)) ?_
  intro W base args ds gs before hval0 hW _ hsz hL _
  have hg := handle_of_laid hL
  have hval : ∀ (j : Nat) t v, Tryd.f4.params[j]? = some t → args[j]? = some v → Value.okWide Tryd.prog W .any base t v := hval0
  have hW' := hW
  obtain ⟨p, q, hA0, hV, rfl, hfz, hnd⟩ := hW
  have hA : DataW.TrodAll enc Tryd.prog W 0 (fun _ => true) true Tryd.f4.params.toList args.toList ds p := hA0
  rw [Tryd.params4] at hA hval
  obtain ⟨v0, vs0, d0, ds0, p0, q0, hargs, rfl, rfl, h0, r0⟩ := trodAll_cons hA
  obtain ⟨v1, vs1, d1, ds1, p1, q1, rfl, rfl, rfl, h1, r1⟩ := trodAll_cons r0
  obtain ⟨v2, vs2, d2, ds2, p2, q2, rfl, rfl, rfl, h2, r2⟩ := trodAll_cons r1
  obtain ⟨v3, vs3, d3, ds3, p3, q3, rfl, rfl, rfl, h3, r3⟩ := trodAll_cons r2
  obtain ⟨v4, vs4, d4, ds4, p4, q4, rfl, rfl, rfl, h4, r4⟩ := trodAll_cons r3
  obtain ⟨rfl, rfl, rfl⟩ := trodAll_nil r4
  obtain rfl : args = #[v0, v1, v2, v3, v4] := by cases args; simp_all
  obtain ⟨rfl, rfl⟩ := trodVars_none hV
  have k0 := h0
  have lt0 : ∀ x ∈ p0, x.block < W.heap.size := by obtain ⟨m, hm⟩ := k0; exact DataW.trod_lt m _ _ _ hm
  obtain ⟨a0, rfl, rfl, rfl, w0⟩ := open_int Tryd.underlying3 (hval 0 3 v0 rfl rfl) h0
  have k1 := h1
  have lt1 : ∀ x ∈ p1, x.block < W.heap.size := by obtain ⟨m, hm⟩ := k1; exact DataW.trod_lt m _ _ _ hm
  obtain ⟨a1, rfl, rfl, rfl, w1⟩ := open_int Tryd.underlying3 (hval 1 3 v1 rfl rfl) h1
  have k2 := h2
  have lt2 : ∀ x ∈ p2, x.block < W.heap.size := by obtain ⟨m, hm⟩ := k2; exact DataW.trod_lt m _ _ _ hm
  obtain ⟨a2, rfl, rfl, rfl, w2⟩ := open_int Tryd.underlying3 (hval 2 3 v2 rfl rfl) h2
  have k3 := h3
  have lt3 : ∀ x ∈ p3, x.block < W.heap.size := by obtain ⟨m, hm⟩ := k3; exact DataW.trod_lt m _ _ _ hm
  obtain ⟨a3, rfl, rfl, rfl, w3⟩ := open_int Tryd.underlying3 (hval 3 3 v3 rfl rfl) h3
  have k4 := h4
  have lt4 : ∀ x ∈ p4, x.block < W.heap.size := by obtain ⟨m, hm⟩ := k4; exact DataW.trod_lt m _ _ _ hm
  obtain ⟨a4, rfl, rfl, rfl⟩ := open_bool Tryd.underlying4 (hval 4 4 v4 rfl rfl) h4
  clear hA0 hval0
  refine (walk a0 a1 a2 a3 a4 W w0 w1 w2 w3 hg).mono fun e W' ⟨he, bel⟩ => ?_
  subst he
  exact ⟨_, rfl, _, _, _, [], _, [], hW', trodAll_mk1 (shut_bool Tryd.underlying4 _), (trodAll_cons_mk (Below.trod laidOut (by kernel_rfl) (of_decide_eq_true (by kernel_rfl)) k0 bel lt0) (trodAll_cons_mk (Below.trod laidOut (by kernel_rfl) (of_decide_eq_true (by kernel_rfl)) k1 bel lt1) (trodAll_cons_mk (Below.trod laidOut (by kernel_rfl) (of_decide_eq_true (by kernel_rfl)) k2 bel lt2) (trodAll_cons_mk (Below.trod laidOut (by kernel_rfl) (of_decide_eq_true (by kernel_rfl)) k3 bel lt3) (trodAll_cons_mk (Below.trod laidOut (by kernel_rfl) (of_decide_eq_true (by kernel_rfl)) k4 bel lt4) trodAll_mk0))))), rfl, bel.frame _, fun h => by cases h⟩

theorem over : Rows.vaultSureRow.holds Tryd.pinned (OpenSpec.ofChange Rows.vaultSureSpec) :=
  OpenClaim.holds_of_wide 4 Tryd.f4 rfl rfl rfl rfl rfl rfl rfl ⟨rfl, rfl, rfl, rfl, rfl⟩ rfl rfl rfl rfl rfl (by kernel_rfl) Tryd.func4 (by kernel_rfl)
    (of_decide_eq_true (by kernel_rfl)) (by unfold Func.isWrapper; first | (rw [if_pos (by decide +kernel)]; kernel_rfl) | (rw [if_neg (by decide +kernel)]; exact ⟨rfl, rfl⟩))
    (fun os started H enc _ => lifted os started H enc)

theorem card : Rows.VaultSureCardSaid :=
  Claim7.holds_tied_plain_at .later [] [.handle] true (true, "9cb52f31b216b757d2ffa4440be3a63c7682b050732687cda8653c03a166fe3c") true
    over (fun _ h => by cases h) (by kernel_rfl) (fun _ h => by cases h) vaultSure_row_tie rfl ⟨rfl, rfl⟩ (by kernel_rfl) rfl
    (fun f fn hf hfn => by
      obtain rfl : f = 4 := Option.some.inj ((show Tryd.prog.funcNamed "tokenfold/foldlaw2.VaultSure" = some 4 by kernel_rfl).symm.trans hf) |>.symm
      obtain rfl : fn = Tryd.f4 := (Option.some.inj (Tryd.func4.symm.trans hfn)).symm
      exact ⟨by kernel_rfl, fun j t ht => by
        rw [Tryd.params4] at ht
        have hm : t ∈ [3, 3, 3, 3, 4] := by simpa using Array.mem_of_getElem? ht
        have hall : ([3, 3, 3, 3, 4].all fun u => !Tryd.prog.wantsStandIn u) = true := by kernel_rfl
        exact (show Tryd.prog.wantsStandIn t = false by simpa using List.all_eq_true.1 hall t hm)⟩)
    (by kernel_rfl)

end Go.Proofs.YtiklmcolodgnoahDoor.vaultSure
namespace Go.Proofs.YtiklmcolodgnoahDoor
theorem vaultSure_holds : Rows.VaultSureCardSaid := vaultSure.card
#print axioms vaultSure_holds
end Go.Proofs.YtiklmcolodgnoahDoor

