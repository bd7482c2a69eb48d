/-
  VaultPlays holds for every list of steps: what is refused, and what is known of any number as it is and as it is kept, are the document's. The listed variable errors.errorType starts as the program's text lays it (the card's tie). No other condition.
-/
import Derived.Test.YtiklmcolodgnoaiDoorVaultWalks
import Derived.Test.YtiklmcolodgnoaiDoorRefSpent
import Derived.Test.YtiklmcolodgnoaiDoorTie
import Derived.Test.YtiklmcolodgnoaiDoorCards
import Derived.ProofKit
import Derived.Lib.SmallJoins
import Derived.LaidMore
import Derived.LaidHandle
import Derived.LaidLaws
import Derived.Stop.Joined
import Derived.SevenTiedAt
import Derived.Deep.SlicePairs
import Derived.Deep.Matrix
namespace Go.Proofs.YtiklmcolodgnoaiDoor.vaultPlays
open Go.ChangeShapes Go.WideShapes Go.ChangeAt Go.RowKit Go.Joins
set_option linter.unusedVariables false

theorem own : ownKnob Tryd.prog.godebug = none := by kernel_rfl
theorem laidOut : laidOutB Tryd.prog = true := by kernel_rfl
def IsRow (k : IntKind) (w : World) (a : Option Addr) (len cap : Nat) (zs : List Int) : Prop :=
  (a = none ∧ len = 0 ∧ cap = 0 ∧ zs = []) ∨
  ∃ x, a = some x ∧ len ≤ cap ∧ cap ≤ maxLen ∧ zs.length = cap ∧ (∀ i, i < zs.length → w.cell? (x.add i) = some (.int k (zs.getD i 0))) ∧ ∀ n ∈ zs, (Lit.int k n).wf = true
def IsStrs (w : World) (a : Option Addr) (len cap : Nat) (zs : List ByteArray) : Prop :=
  (a = none ∧ len = 0 ∧ cap = 0 ∧ zs = []) ∨
  ∃ x, a = some x ∧ len ≤ cap ∧ cap ≤ maxLen ∧ zs.length = cap ∧ (∀ i, i < zs.length → w.cell? (x.add i) = some (.string (zs.getD i ByteArray.empty))) ∧ ∀ s ∈ zs, s.size ≤ maxLen
def IsPairs (w : World) (a : Option Addr) (len cap : Nat) (zs : List (Int × Int)) : Prop :=
  (a = none ∧ len = 0 ∧ cap = 0 ∧ zs = []) ∨
  ∃ x, a = some x ∧ len ≤ cap ∧ cap ≤ maxLen ∧ zs.length = cap ∧ ∀ i, i < cap → w.cell? (x.add (i * 2)) = some (.int .i64 (zs.getD i (0, 0)).1) ∧ w.cell? (x.add (i * 2 + 1)) = some (.int .i64 (zs.getD i (0, 0)).2)
def IsRows (w : World) (a : Option Addr) (len cap : Nat) (A : Nat → Option Addr) (L C : Nat → Nat) (Z : Nat → List Int) : Prop :=
  (a = none ∧ len = 0 ∧ cap = 0) ∨
  ∃ x, a = some x ∧ len ≤ cap ∧ cap ≤ maxLen ∧ ∀ r, r < cap → w.cell? (x.add r) = some (.slice (A r) (L r) (C r)) ∧ L r ≤ C r ∧ C r ≤ maxLen ∧ (Z r).length = C r ∧ (∀ n ∈ Z r, (Lit.int .i64 n).wf = true) ∧ (A r = none → C r = 0) ∧
    ∀ a', A r = some a' → ∀ c, c < C r → w.cell? (a'.add c) = some (.int .i64 ((Z r).getD c 0))

attribute [local go_sem ↓] Go.wp_at_zero Go.wp_at_succ

/-- What came in as rows: where they lie, and each as a list. -/
theorem rows_ints {w : World} {a : Option Addr} {len cap : Nat} {A : Nat → Option Addr} {L C : Nat → Nat} {Z : Nat → List Int} (h : IsRows w a len cap A L C Z) (hz : 0 < len) :
    ∃ b off, a = some ⟨b, off, none⟩ ∧ ∀ r, r < len → w.cell? ⟨b, off + r, none⟩ = some (.slice (A r) (L r) (C r)) ∧ ∃ zs : List Int, zs.length = L r ∧ Ints w (A r) zs := by
  rcases h with ⟨_, rfl, _⟩ | ⟨⟨b, off, spot⟩, rfl, hl, hm, hr⟩
  · omega
  · have hspot : spot = none := by simpa [Addr.add] using World.cell?_spot (hr 0 (by omega)).1
    subst hspot
    refine ⟨b, off, rfl, fun r hlt => ?_⟩
    obtain ⟨h1, h2, h3, h4, h5, h6, h7⟩ := hr r (by omega)
    rw [Go.WideShapes.add_plain] at h1
    refine ⟨h1, (Z r).take (L r), by simp; omega, by unfold maxLen at h3; simp; omega, fun k hk => ?_⟩
    have hk' : k < L r ∧ k < (Z r).length := by simp at hk; omega
    cases ha : A r with
    | none => have := h6 ha; omega
    | some a' =>
      obtain ⟨b', off', spot'⟩ := a'
      have q := h7 _ ha
      have hs' : spot' = none := by simpa [Addr.add] using World.cell?_spot (q 0 (by omega))
      subst hs'
      have q0 := q k (by omega)
      rw [Go.WideShapes.add_plain] at q0
      refine ⟨b', off', rfl, ?_⟩
      rw [q0]
      simp [List.getD, hk'.1]
/-- An array of four numbers, by a place in it. -/
theorem at4 {W : World} {b j : Nat} {y0 y1 y2 y3 : Int} (h : Held W b (n4 y0 y1 y2 y3)) (hj : j < 4) : (∃ u, W.cell? ⟨b, j, none⟩ = some (.int .i64 u)) ∧ W.frozen? ⟨b, j, none⟩ = false ∧ b < W.heap.size := by
  match j, hj with
  | 0, _ => exact ⟨⟨_, (h.1 0 _ rfl).1⟩, (h.1 0 _ rfl).2, h.2⟩
  | 1, _ => exact ⟨⟨_, (h.1 1 _ rfl).1⟩, (h.1 1 _ rfl).2, h.2⟩
  | 2, _ => exact ⟨⟨_, (h.1 2 _ rfl).1⟩, (h.1 2 _ rfl).2, h.2⟩
  | 3, _ => exact ⟨⟨_, (h.1 3 _ rfl).1⟩, (h.1 3 _ rfl).2, h.2⟩
theorem put4 {W : World} {b j : Nat} {y0 y1 y2 y3 : Int} (h : Held W b (n4 y0 y1 y2 y3)) (hj : j < 4) (x : Int) : ∃ z0 z1 z2 z3, Held (W.setCell ⟨b, j, none⟩ (.int .i64 x)) b (n4 z0 z1 z2 z3) := by
  match j, hj with
  | 0, _ => exact ⟨x, y1, y2, y3, h.put 0 _⟩
  | 1, _ => exact ⟨y0, x, y2, y3, h.put 1 _⟩
  | 2, _ => exact ⟨y0, y1, x, y3, h.put 2 _⟩
  | 3, _ => exact ⟨y0, y1, y2, x, h.put 3 _⟩

set_option maxHeartbeats 12800000 in
set_option maxRecDepth 8000 in
theorem walk1 (a : Option Addr) (len cap : Nat) (A : Nat → Option Addr) (Lr C : Nat → Nat) (Z : Nat → List Int) (w : World) (hm : IsRows w a len cap A Lr C Z) (hg : ErrType w) :
    Calls Tryd.prog 3 #[.slice a len cap] w fun e w' => e = .returned (.bool true) ∧ Below w.heap.size w w' := by
  have HG := hide hg
  have HM := hide (fun hz => rows_ints hm hz)
  clear hg hm
  go_enter Tryd.func3, Tryd.ntmps3
  go_wp2_with fail
  refine (vnew_any _).mono ?_
  rintro e w1 ⟨rfl, h1, hb1⟩
  have HV1 := hide h1
  have HB1 := hide hb1
  clear h1 hb1
  go_wp2
  go_loopw [4, 5, 6] (fun a0 b0 i wr => ∃ (k : Nat) (L K : List (Int × Int)) (x1 : Option Addr) (n1 c1 : Nat) (x2 : Option Addr) (n2 c2 : Nat), k ≤ 100 ∧ i = .int .i64 k ∧ a0 = .slice x1 n1 c1 ∧ b0 = .slice x2 n2 c2 ∧ Hid (SpentM.Good L) ∧ Hid (SpentM.Good K) ∧ Hid (PRow wr x1 n1 c1 L) ∧ Hid (PRow wr x2 n2 c2 K) ∧ Hid (VAt wr w.heap.size L K) ∧ Hid (Below w.heap.size w wr)) (fun _ _ i _ => 100 - (intOf i).toNat)
  case atStart => exact ⟨0, [], [], none, 0, 0, none, 0, 0, by omega, rfl, rfl, rfl, hide VaultM.nil_good, hide VaultM.nil_good, hide (nil_row _), hide (nil_row _), HV1, HB1⟩
  case round =>
    clear HV1 HB1
    rename World => wo
    obtain ⟨k, L, K, x1, n1, c1, x2, n2, c2, hk, rfl, rfl, rfl, GL, GK, HX, HY, HV, HB⟩ := hrel
    by_cases hkl : (k : Int) < (len : Int)
    · by_cases hk1 : (k : Int) < 100
      · obtain ⟨bm, om, rfl, hrow⟩ := unhide HM (by omega)
        obtain ⟨cm', zs, hzl, hzi⟩ := hrow k (by omega)
        have HCM := hide (cell_later (unhide HB) cm')
        have HZL := hide hzl
        have HZ := hide hzi
        clear hrow cm' hzl hzi
        generalize A k = ak at HCM HZ
        generalize Lr k = lk at HCM HZL
        generalize C k = ck at HCM
        have hk0 : (0 : Int) ≤ (k : Int) := by omega
        have hvq := (unhide HV).lt
        go_wp2
        go_loopw [8] (fun i wi => ∃ (j : Nat) (y0 y1 y2 y3 : Int), j ≤ 4 ∧ i = .int .i64 j ∧ Hid (Held wi wo.heap.size (n4 y0 y1 y2 y3)) ∧ Hid (Below wo.heap.size wo wi)) (fun i _ => 4 - (intOf i).toNat)
        case atStart => exact ⟨0, 0, 0, 0, 0, by omega, rfl, hide (Held.fresh (n4 0 0 0 0) _ rfl), hide (by (repeat' (first | exact Below.refl _ _ | refine Below.alloc ?_ ?_ _ | refine Below.setCell ?_ ?_ _ | refine Below.drew ?_)); all_goals (first | exact Nat.le_refl _ | omega | (simp; done) | (simp; omega)))⟩
        case round =>
          obtain ⟨j, y0, y1, y2, y3, hj, rfl, HQ, HBI⟩ := hrel
          have cm := cell_later (unhide HBI) (unhide HCM)
          by_cases hjl : (j : Int) < (lk : Int)
          · by_cases hj4 : (j : Int) < 4
            · obtain ⟨b2, o2, rfl, dx'⟩ := (unhide HZ).2 j (by rw [unhide HZL]; omega)
              have dx := cell_later (bel3 (unhide HB) (Below.refl _ _) (unhide HBI)) dx'
              clear dx'
              have hj0 : (0 : Int) ≤ (j : Int) := by omega
              generalize zs.getD j 0 = x at dx
              obtain ⟨jc, jf, jl⟩ := at4 (unhide HQ) (show j < 4 by omega)
              have HQ' := hide (put4 (unhide HQ) (show j < 4 by omega) x)
              obtain ⟨z0, z1, z2, z3, hz⟩ := unhide HQ'
              have HZ' := hide hz
              clear HQ' hz
              have HBI' := hide (Below.setCell (unhide HBI) (p := ⟨wo.heap.size, j, none⟩) (show wo.heap.size ≤ wo.heap.size from Nat.le_refl _) (.int .i64 x))
              obtain ⟨ju, jc⟩ := jc
              go_wp2
              go_roundw
              case rel => exact ⟨j + 1, z0, z1, z2, z3, by omega, by go_num, HZ', HBI'⟩
              case measure => simp [intOf]; omega
            · have HV1 := hide ((unhide HV).later (unhide HBI))
              have HX1 := hide ((unhide HX).later (unhide HBI))
              have HY1 := hide ((unhide HY).later (unhide HBI))
              have HB1 := hide (bel3 (unhide HB) (Below.refl _ _) (unhide HBI))
              have HQ1 := HQ
              clear HQ HBI HV HX HY HB
              obtain ⟨y0c, y1c, y2c, y3c⟩ := (unhide HQ1).c4.1
              have yl := (unhide HQ1).2
              by_cases hy : y0 = 0
              · subst hy
                go_wp2_with fail
                refine (vsync_any _ (unhide HV1)).mono ?_
                rintro e w2 ⟨rfl, h2, k2⟩
                clear y0c y1c y2c y3c yl
                have HX2 := hide ((unhide HX1).kept (unhide HV1) k2)
                have HY2 := hide ((unhide HY1).kept (unhide HV1) k2)
                have HQ2 := hide (k2.held (unhide HQ1) (by simp; omega))
                have HB2 := hide (vown k2 (unhide HB1) (Nat.le_refl _))
                have HV2 := hide h2
                clear h2 k2 HV1 HX1 HY1 HQ1 HB1
                obtain ⟨y0c, y1c, y2c, y3c⟩ := (unhide HQ2).c4.1
                have yl := (unhide HQ2).2
                have CH := hide (fun (w' : World) (h : VAt w' w.heap.size L L) => vhas_any y1 w' h)
                have CS := hide (fun (w' : World) (h : VAt w' w.heap.size L L) => vsure_any y1 w' h)
                rw [VaultM.has_good (unhide GL), VaultM.hasErr_good (unhide GL)] at CH
                rw [VaultM.has_good (unhide GL), VaultM.hasErr_good (unhide GL)] at CS
                have CI := hide (in_any y1)
                cases hn : TagM.inB y1 with
                | true =>
                  have CX := hide (fun (w' : World) (h : PRow w' x1 n1 c1 L) => ref_has y1 w' (len16 h (SpentM.err_zero.2 (unhide GL))) h)
                  have CY := hide (fun (w' : World) (h : PRow w' x1 n1 c1 L) => ref_has y1 w' (len16 h (SpentM.err_zero.2 (unhide GL))) h)
                  rw [hn, Bool.true_and, if_pos rfl, errV_zero rfl] at CH CS
                  rw [hn] at CI
                  generalize SpentM.hasB L y1 = bx at CH CX CS CY
                  have hbx : (bx == bx) = true := by simp
                  clear hn
                  go_wp2_with fail
                  refine (unhide CI _).mono ?_
                  rintro e w' ⟨rfl, hw⟩
                  obtain rfl := hw.symm
                  clear hw
                  go_wp2_with fail
                  refine (unhide CH _ (unhide HV2)).mono ?_
                  rintro e w3 ⟨rfl, hb3⟩
                  clear y0c y1c y2c y3c yl
                  have HV3 := hide ((unhide HV2).later hb3)
                  have HX3 := hide ((unhide HX2).later hb3)
                  have HY3 := hide ((unhide HY2).later hb3)
                  have HQ3 := hide ((unhide HQ2).later hb3)
                  have HB3 := hide (bel3 (unhide HB2) (Below.refl _ _) hb3)
                  clear hb3 HV2 HX2 HY2 HQ2 HB2
                  obtain ⟨y0c, y1c, y2c, y3c⟩ := (unhide HQ3).c4.1
                  have yl := (unhide HQ3).2
                  go_wp2_with fail
                  refine (unhide CS _ (unhide HV3)).mono ?_
                  rintro e w4 ⟨rfl, hb4⟩
                  clear y0c y1c y2c y3c yl
                  have HV4 := hide ((unhide HV3).later hb4)
                  have HX4 := hide ((unhide HX3).later hb4)
                  have HY4 := hide ((unhide HY3).later hb4)
                  have HQ4 := hide ((unhide HQ3).later hb4)
                  have HB4 := hide (bel3 (unhide HB3) (Below.refl _ _) hb4)
                  clear hb4 HV3 HX3 HY3 HQ3 HB3
                  obtain ⟨y0c, y1c, y2c, y3c⟩ := (unhide HQ4).c4.1
                  have yl := (unhide HQ4).2
                  go_wp2_with fail
                  refine (same_nil _ _).mono ?_
                  rintro e w5 ⟨rfl, hb5⟩
                  clear y0c y1c y2c y3c yl
                  have HV5 := hide ((unhide HV4).later hb5)
                  have HX5 := hide ((unhide HX4).later hb5)
                  have HY5 := hide ((unhide HY4).later hb5)
                  have HQ5 := hide ((unhide HQ4).later hb5)
                  have HB5 := hide (bel3 (unhide HB4) (Below.refl _ _) hb5)
                  clear hb5 HV4 HX4 HY4 HQ4 HB4
                  obtain ⟨y0c, y1c, y2c, y3c⟩ := (unhide HQ5).c4.1
                  have yl := (unhide HQ5).2
                  go_wp2_with fail
                  refine (unhide CX _ (unhide HX5)).mono ?_
                  rintro e w' ⟨rfl, hw⟩
                  obtain rfl := hw.symm
                  clear hw
                  go_wp2_with fail
                  refine (same_nil _ _).mono ?_
                  rintro e w6 ⟨rfl, hb6⟩
                  clear y0c y1c y2c y3c yl
                  have HV6 := hide ((unhide HV5).later hb6)
                  have HX6 := hide ((unhide HX5).later hb6)
                  have HY6 := hide ((unhide HY5).later hb6)
                  have HQ6 := hide ((unhide HQ5).later hb6)
                  have HB6 := hide (bel3 (unhide HB5) (Below.refl _ _) hb6)
                  clear hb6 HV5 HX5 HY5 HQ5 HB5
                  obtain ⟨y0c, y1c, y2c, y3c⟩ := (unhide HQ6).c4.1
                  have yl := (unhide HQ6).2
                  go_wp2_with fail
                  refine (unhide CY _ (unhide HX6)).mono ?_
                  rintro e w' ⟨rfl, hw⟩
                  obtain rfl := hw.symm
                  clear hw
                  clear y0c y1c y2c y3c yl
                  go_wp2
                  go_roundw
                  case rel => exact ⟨k + 1, L, L, x1, n1, c1, x1, n1, c1, by omega, by go_num, rfl, rfl, GL, GL, HX6, HX6, HV6, HB6⟩
                  case measure => simp [intOf]; omega
                | false =>
                  rw [hn, Bool.false_and, if_neg (by simp), errV_pos (by omega)] at CH CS
                  rw [hn] at CI
                  clear hn
                  go_wp2_with fail
                  refine (unhide CI _).mono ?_
                  rintro e w' ⟨rfl, hw⟩
                  obtain rfl := hw.symm
                  clear hw
                  go_wp2_with fail
                  refine (unhide CH _ (unhide HV2)).mono ?_
                  rintro e w3 ⟨rfl, hb3⟩
                  clear y0c y1c y2c y3c yl
                  have HV3 := hide ((unhide HV2).later hb3)
                  have HX3 := hide ((unhide HX2).later hb3)
                  have HY3 := hide ((unhide HY2).later hb3)
                  have HQ3 := hide ((unhide HQ2).later hb3)
                  have HB3 := hide (bel3 (unhide HB2) (Below.refl _ _) hb3)
                  clear hb3 HV2 HX2 HY2 HQ2 HB2
                  obtain ⟨y0c, y1c, y2c, y3c⟩ := (unhide HQ3).c4.1
                  have yl := (unhide HQ3).2
                  go_wp2_with fail
                  refine (unhide CS _ (unhide HV3)).mono ?_
                  rintro e w4 ⟨rfl, hb4⟩
                  clear y0c y1c y2c y3c yl
                  have HV4 := hide ((unhide HV3).later hb4)
                  have HX4 := hide ((unhide HX3).later hb4)
                  have HY4 := hide ((unhide HY3).later hb4)
                  have HQ4 := hide ((unhide HQ3).later hb4)
                  have HB4 := hide (bel3 (unhide HB3) (Below.refl _ _) hb4)
                  clear hb4 HV3 HX3 HY3 HQ3 HB3
                  obtain ⟨y0c, y1c, y2c, y3c⟩ := (unhide HQ4).c4.1
                  have yl := (unhide HQ4).2
                  go_wp2_with fail
                  refine (same_errno _ _ _ ((unhide HG).later (unhide HB4))).mono ?_
                  rintro e w5 ⟨rfl, hb5⟩
                  clear y0c y1c y2c y3c yl
                  have HV5 := hide ((unhide HV4).later hb5)
                  have HX5 := hide ((unhide HX4).later hb5)
                  have HY5 := hide ((unhide HY4).later hb5)
                  have HQ5 := hide ((unhide HQ4).later hb5)
                  have HB5 := hide (bel3 (unhide HB4) (Below.refl _ _) hb5)
                  clear hb5 HV4 HX4 HY4 HQ4 HB4
                  obtain ⟨y0c, y1c, y2c, y3c⟩ := (unhide HQ5).c4.1
                  have yl := (unhide HQ5).2
                  go_wp2_with fail
                  refine (same_errno _ _ _ ((unhide HG).later (unhide HB5))).mono ?_
                  rintro e w6 ⟨rfl, hb6⟩
                  clear y0c y1c y2c y3c yl
                  have HV6 := hide ((unhide HV5).later hb6)
                  have HX6 := hide ((unhide HX5).later hb6)
                  have HY6 := hide ((unhide HY5).later hb6)
                  have HQ6 := hide ((unhide HQ5).later hb6)
                  have HB6 := hide (bel3 (unhide HB5) (Below.refl _ _) hb6)
                  clear hb6 HV5 HX5 HY5 HQ5 HB5
                  obtain ⟨y0c, y1c, y2c, y3c⟩ := (unhide HQ6).c4.1
                  have yl := (unhide HQ6).2
                  clear y0c y1c y2c y3c yl
                  go_wp2
                  go_roundw
                  case rel => exact ⟨k + 1, L, L, x1, n1, c1, x1, n1, c1, by omega, by go_num, rfl, rfl, GL, GL, HX6, HX6, HV6, HB6⟩
                  case measure => simp [intOf]; omega
              · by_cases hy1 : y0 = 1
                · subst hy1
                  go_wp2_with fail
                  refine (vcrash_any _ (unhide HV1)).mono ?_
                  rintro e w2 ⟨rfl, h2, k2⟩
                  clear y0c y1c y2c y3c yl
                  have HX2 := hide ((unhide HX1).kept (unhide HV1) k2)
                  have HY2 := hide ((unhide HY1).kept (unhide HV1) k2)
                  have HQ2 := hide (k2.held (unhide HQ1) (by simp; omega))
                  have HB2 := hide (vown k2 (unhide HB1) (Nat.le_refl _))
                  have HV2 := hide h2
                  clear h2 k2 HV1 HX1 HY1 HQ1 HB1
                  obtain ⟨y0c, y1c, y2c, y3c⟩ := (unhide HQ2).c4.1
                  have yl := (unhide HQ2).2
                  have CH := hide (fun (w' : World) (h : VAt w' w.heap.size K K) => vhas_any y1 w' h)
                  have CS := hide (fun (w' : World) (h : VAt w' w.heap.size K K) => vsure_any y1 w' h)
                  rw [VaultM.has_good (unhide GK), VaultM.hasErr_good (unhide GK)] at CH
                  rw [VaultM.has_good (unhide GK), VaultM.hasErr_good (unhide GK)] at CS
                  have CI := hide (in_any y1)
                  cases hn : TagM.inB y1 with
                  | true =>
                    have CX := hide (fun (w' : World) (h : PRow w' x2 n2 c2 K) => ref_has y1 w' (len16 h (SpentM.err_zero.2 (unhide GK))) h)
                    have CY := hide (fun (w' : World) (h : PRow w' x2 n2 c2 K) => ref_has y1 w' (len16 h (SpentM.err_zero.2 (unhide GK))) h)
                    rw [hn, Bool.true_and, if_pos rfl, errV_zero rfl] at CH CS
                    rw [hn] at CI
                    generalize SpentM.hasB K y1 = bx at CH CX CS CY
                    have hbx : (bx == bx) = true := by simp
                    clear hn
                    go_wp2_with fail
                    refine (unhide CI _).mono ?_
                    rintro e w' ⟨rfl, hw⟩
                    obtain rfl := hw.symm
                    clear hw
                    go_wp2_with fail
                    refine (unhide CH _ (unhide HV2)).mono ?_
                    rintro e w3 ⟨rfl, hb3⟩
                    clear y0c y1c y2c y3c yl
                    have HV3 := hide ((unhide HV2).later hb3)
                    have HX3 := hide ((unhide HX2).later hb3)
                    have HY3 := hide ((unhide HY2).later hb3)
                    have HQ3 := hide ((unhide HQ2).later hb3)
                    have HB3 := hide (bel3 (unhide HB2) (Below.refl _ _) hb3)
                    clear hb3 HV2 HX2 HY2 HQ2 HB2
                    obtain ⟨y0c, y1c, y2c, y3c⟩ := (unhide HQ3).c4.1
                    have yl := (unhide HQ3).2
                    go_wp2_with fail
                    refine (unhide CS _ (unhide HV3)).mono ?_
                    rintro e w4 ⟨rfl, hb4⟩
                    clear y0c y1c y2c y3c yl
                    have HV4 := hide ((unhide HV3).later hb4)
                    have HX4 := hide ((unhide HX3).later hb4)
                    have HY4 := hide ((unhide HY3).later hb4)
                    have HQ4 := hide ((unhide HQ3).later hb4)
                    have HB4 := hide (bel3 (unhide HB3) (Below.refl _ _) hb4)
                    clear hb4 HV3 HX3 HY3 HQ3 HB3
                    obtain ⟨y0c, y1c, y2c, y3c⟩ := (unhide HQ4).c4.1
                    have yl := (unhide HQ4).2
                    go_wp2_with fail
                    refine (same_nil _ _).mono ?_
                    rintro e w5 ⟨rfl, hb5⟩
                    clear y0c y1c y2c y3c yl
                    have HV5 := hide ((unhide HV4).later hb5)
                    have HX5 := hide ((unhide HX4).later hb5)
                    have HY5 := hide ((unhide HY4).later hb5)
                    have HQ5 := hide ((unhide HQ4).later hb5)
                    have HB5 := hide (bel3 (unhide HB4) (Below.refl _ _) hb5)
                    clear hb5 HV4 HX4 HY4 HQ4 HB4
                    obtain ⟨y0c, y1c, y2c, y3c⟩ := (unhide HQ5).c4.1
                    have yl := (unhide HQ5).2
                    go_wp2_with fail
                    refine (unhide CX _ (unhide HY5)).mono ?_
                    rintro e w' ⟨rfl, hw⟩
                    obtain rfl := hw.symm
                    clear hw
                    go_wp2_with fail
                    refine (same_nil _ _).mono ?_
                    rintro e w6 ⟨rfl, hb6⟩
                    clear y0c y1c y2c y3c yl
                    have HV6 := hide ((unhide HV5).later hb6)
                    have HX6 := hide ((unhide HX5).later hb6)
                    have HY6 := hide ((unhide HY5).later hb6)
                    have HQ6 := hide ((unhide HQ5).later hb6)
                    have HB6 := hide (bel3 (unhide HB5) (Below.refl _ _) hb6)
                    clear hb6 HV5 HX5 HY5 HQ5 HB5
                    obtain ⟨y0c, y1c, y2c, y3c⟩ := (unhide HQ6).c4.1
                    have yl := (unhide HQ6).2
                    go_wp2_with fail
                    refine (unhide CY _ (unhide HY6)).mono ?_
                    rintro e w' ⟨rfl, hw⟩
                    obtain rfl := hw.symm
                    clear hw
                    clear y0c y1c y2c y3c yl
                    go_wp2
                    go_roundw
                    case rel => exact ⟨k + 1, K, K, x2, n2, c2, x2, n2, c2, by omega, by go_num, rfl, rfl, GK, GK, HY6, HY6, HV6, HB6⟩
                    case measure => simp [intOf]; omega
                  | false =>
                    rw [hn, Bool.false_and, if_neg (by simp), errV_pos (by omega)] at CH CS
                    rw [hn] at CI
                    clear hn
                    go_wp2_with fail
                    refine (unhide CI _).mono ?_
                    rintro e w' ⟨rfl, hw⟩
                    obtain rfl := hw.symm
                    clear hw
                    go_wp2_with fail
                    refine (unhide CH _ (unhide HV2)).mono ?_
                    rintro e w3 ⟨rfl, hb3⟩
                    clear y0c y1c y2c y3c yl
                    have HV3 := hide ((unhide HV2).later hb3)
                    have HX3 := hide ((unhide HX2).later hb3)
                    have HY3 := hide ((unhide HY2).later hb3)
                    have HQ3 := hide ((unhide HQ2).later hb3)
                    have HB3 := hide (bel3 (unhide HB2) (Below.refl _ _) hb3)
                    clear hb3 HV2 HX2 HY2 HQ2 HB2
                    obtain ⟨y0c, y1c, y2c, y3c⟩ := (unhide HQ3).c4.1
                    have yl := (unhide HQ3).2
                    go_wp2_with fail
                    refine (unhide CS _ (unhide HV3)).mono ?_
                    rintro e w4 ⟨rfl, hb4⟩
                    clear y0c y1c y2c y3c yl
                    have HV4 := hide ((unhide HV3).later hb4)
                    have HX4 := hide ((unhide HX3).later hb4)
                    have HY4 := hide ((unhide HY3).later hb4)
                    have HQ4 := hide ((unhide HQ3).later hb4)
                    have HB4 := hide (bel3 (unhide HB3) (Below.refl _ _) hb4)
                    clear hb4 HV3 HX3 HY3 HQ3 HB3
                    obtain ⟨y0c, y1c, y2c, y3c⟩ := (unhide HQ4).c4.1
                    have yl := (unhide HQ4).2
                    go_wp2_with fail
                    refine (same_errno _ _ _ ((unhide HG).later (unhide HB4))).mono ?_
                    rintro e w5 ⟨rfl, hb5⟩
                    clear y0c y1c y2c y3c yl
                    have HV5 := hide ((unhide HV4).later hb5)
                    have HX5 := hide ((unhide HX4).later hb5)
                    have HY5 := hide ((unhide HY4).later hb5)
                    have HQ5 := hide ((unhide HQ4).later hb5)
                    have HB5 := hide (bel3 (unhide HB4) (Below.refl _ _) hb5)
                    clear hb5 HV4 HX4 HY4 HQ4 HB4
                    obtain ⟨y0c, y1c, y2c, y3c⟩ := (unhide HQ5).c4.1
                    have yl := (unhide HQ5).2
                    go_wp2_with fail
                    refine (same_errno _ _ _ ((unhide HG).later (unhide HB5))).mono ?_
                    rintro e w6 ⟨rfl, hb6⟩
                    clear y0c y1c y2c y3c yl
                    have HV6 := hide ((unhide HV5).later hb6)
                    have HX6 := hide ((unhide HX5).later hb6)
                    have HY6 := hide ((unhide HY5).later hb6)
                    have HQ6 := hide ((unhide HQ5).later hb6)
                    have HB6 := hide (bel3 (unhide HB5) (Below.refl _ _) hb6)
                    clear hb6 HV5 HX5 HY5 HQ5 HB5
                    obtain ⟨y0c, y1c, y2c, y3c⟩ := (unhide HQ6).c4.1
                    have yl := (unhide HQ6).2
                    clear y0c y1c y2c y3c yl
                    go_wp2
                    go_roundw
                    case rel => exact ⟨k + 1, K, K, x2, n2, c2, x2, n2, c2, by omega, by go_num, rfl, rfl, GK, GK, HY6, HY6, HV6, HB6⟩
                    case measure => simp [intOf]; omega
                · have hy2 : (y0 == 0) = false := by simp [hy]
                  have hy3 : (y0 == 1) = false := by simp [hy1]
                  by_cases he : SpentM.restErr L y1 y2 y3 = 0
                  · have CR := hide (fun (w' : World) (h : PRow w' x1 n1 c1 L) => ref_spend y1 y2 y3 w' (len16 h (SpentM.err_zero.2 (unhide GL))) h)
                    have CV := hide (fun (w' : World) (h : VAt w' w.heap.size L K) => vspend_any y1 y2 y3 w' h)
                    rw [VaultM.next_yes (show SpentM.spendErr L y1 y2 y3 = 0 by rw [VaultM.err_rest (unhide GL)]; exact he), VaultM.err_rest (unhide GL), he, errV_zero rfl] at CV
                    have GM := hide (SpentM.spend_good (show SpentM.spendErr L y1 y2 y3 = 0 by rw [VaultM.err_rest (unhide GL)]; exact he))
                    rw [he, SpentM.told_zero rfl, ← SpentM.spend_ok (show SpentM.spendErr L y1 y2 y3 = 0 by rw [VaultM.err_rest (unhide GL)]; exact he)] at CR
                    generalize SpentM.spend L y1 y2 y3 = M at CR CV GM
                    clear he
                    go_wp2_with fail
                    refine (unhide CR _ (unhide HX1)).mono ?_
                    rintro e w2 ⟨x3, n3', c3, rfl, hp2, hb2⟩
                    clear y0c y1c y2c y3c yl
                    have HM2 := hide hp2
                    clear hp2
                    have HV2 := hide ((unhide HV1).later hb2)
                    have HX2 := hide ((unhide HX1).later hb2)
                    have HY2 := hide ((unhide HY1).later hb2)
                    have HQ2 := hide ((unhide HQ1).later hb2)
                    have HB2 := hide (bel3 (unhide HB1) (Below.refl _ _) hb2)
                    clear hb2 HV1 HX1 HY1 HQ1 HB1
                    obtain ⟨y0c, y1c, y2c, y3c⟩ := (unhide HQ2).c4.1
                    have yl := (unhide HQ2).2
                    go_wp2_with fail
                    refine (unhide CV _ (unhide HV2)).mono ?_
                    rintro e w3 ⟨rfl, h3, k3⟩
                    clear y0c y1c y2c y3c yl
                    have HX3 := hide ((unhide HX2).kept (unhide HV2) k3)
                    have HM3 := hide ((unhide HM2).kept (unhide HV2) k3)
                    have HY3 := hide ((unhide HY2).kept (unhide HV2) k3)
                    have HQ3 := hide (k3.held (unhide HQ2) (by simp; omega))
                    have HB3 := hide (vown k3 (unhide HB2) (Nat.le_refl _))
                    have HV3 := hide h3
                    clear HM2 h3 k3 HV2 HX2 HY2 HQ2 HB2
                    obtain ⟨y0c, y1c, y2c, y3c⟩ := (unhide HQ3).c4.1
                    have yl := (unhide HQ3).2
                    go_wp2_with fail
                    refine (same_nil _ _).mono ?_
                    rintro e w4 ⟨rfl, hb4⟩
                    clear y0c y1c y2c y3c yl
                    have HV4 := hide ((unhide HV3).later hb4)
                    have HM4 := hide ((unhide HM3).later hb4)
                    have HX4 := hide ((unhide HX3).later hb4)
                    have HY4 := hide ((unhide HY3).later hb4)
                    have HQ4 := hide ((unhide HQ3).later hb4)
                    have HB4 := hide (bel3 (unhide HB3) (Below.refl _ _) hb4)
                    clear HM3 hb4 HV3 HX3 HY3 HQ3 HB3
                    obtain ⟨y0c, y1c, y2c, y3c⟩ := (unhide HQ4).c4.1
                    have yl := (unhide HQ4).2
                    clear HX4
                    have HX4 := HM4
                    clear HM4
                    have CH := hide (fun (w' : World) (h : VAt w' w.heap.size M K) => vhas_any y1 w' h)
                    have CS := hide (fun (w' : World) (h : VAt w' w.heap.size M K) => vsure_any y1 w' h)
                    rw [VaultM.has_good (unhide GM), VaultM.hasErr_good (unhide GM)] at CH
                    rw [VaultM.has_good (unhide GK), VaultM.hasErr_good (unhide GK)] at CS
                    have CI := hide (in_any y1)
                    cases hn : TagM.inB y1 with
                    | true =>
                      have CX := hide (fun (w' : World) (h : PRow w' x3 n3' c3 M) => ref_has y1 w' (len16 h (SpentM.err_zero.2 (unhide GM))) h)
                      have CY := hide (fun (w' : World) (h : PRow w' x2 n2 c2 K) => ref_has y1 w' (len16 h (SpentM.err_zero.2 (unhide GK))) h)
                      rw [hn, Bool.true_and, if_pos rfl, errV_zero rfl] at CH CS
                      rw [hn] at CI
                      generalize SpentM.hasB M y1 = bx at CH CX
                      generalize SpentM.hasB K y1 = by1 at CS CY
                      have hby : (by1 == by1) = true := by simp
                      have hbx : (bx == bx) = true := by simp
                      clear hn
                      go_wp2_with fail
                      refine (unhide CI _).mono ?_
                      rintro e w' ⟨rfl, hw⟩
                      obtain rfl := hw.symm
                      clear hw
                      go_wp2_with fail
                      refine (unhide CH _ (unhide HV4)).mono ?_
                      rintro e w5 ⟨rfl, hb5⟩
                      clear y0c y1c y2c y3c yl
                      have HV5 := hide ((unhide HV4).later hb5)
                      have HX5 := hide ((unhide HX4).later hb5)
                      have HY5 := hide ((unhide HY4).later hb5)
                      have HQ5 := hide ((unhide HQ4).later hb5)
                      have HB5 := hide (bel3 (unhide HB4) (Below.refl _ _) hb5)
                      clear hb5 HV4 HX4 HY4 HQ4 HB4
                      obtain ⟨y0c, y1c, y2c, y3c⟩ := (unhide HQ5).c4.1
                      have yl := (unhide HQ5).2
                      go_wp2_with fail
                      refine (unhide CS _ (unhide HV5)).mono ?_
                      rintro e w6 ⟨rfl, hb6⟩
                      clear y0c y1c y2c y3c yl
                      have HV6 := hide ((unhide HV5).later hb6)
                      have HX6 := hide ((unhide HX5).later hb6)
                      have HY6 := hide ((unhide HY5).later hb6)
                      have HQ6 := hide ((unhide HQ5).later hb6)
                      have HB6 := hide (bel3 (unhide HB5) (Below.refl _ _) hb6)
                      clear hb6 HV5 HX5 HY5 HQ5 HB5
                      obtain ⟨y0c, y1c, y2c, y3c⟩ := (unhide HQ6).c4.1
                      have yl := (unhide HQ6).2
                      go_wp2_with fail
                      refine (same_nil _ _).mono ?_
                      rintro e w7 ⟨rfl, hb7⟩
                      clear y0c y1c y2c y3c yl
                      have HV7 := hide ((unhide HV6).later hb7)
                      have HX7 := hide ((unhide HX6).later hb7)
                      have HY7 := hide ((unhide HY6).later hb7)
                      have HQ7 := hide ((unhide HQ6).later hb7)
                      have HB7 := hide (bel3 (unhide HB6) (Below.refl _ _) hb7)
                      clear hb7 HV6 HX6 HY6 HQ6 HB6
                      obtain ⟨y0c, y1c, y2c, y3c⟩ := (unhide HQ7).c4.1
                      have yl := (unhide HQ7).2
                      go_wp2_with fail
                      refine (unhide CX _ (unhide HX7)).mono ?_
                      rintro e w' ⟨rfl, hw⟩
                      obtain rfl := hw.symm
                      clear hw
                      go_wp2_with fail
                      refine (same_nil _ _).mono ?_
                      rintro e w8 ⟨rfl, hb8⟩
                      clear y0c y1c y2c y3c yl
                      have HV8 := hide ((unhide HV7).later hb8)
                      have HX8 := hide ((unhide HX7).later hb8)
                      have HY8 := hide ((unhide HY7).later hb8)
                      have HQ8 := hide ((unhide HQ7).later hb8)
                      have HB8 := hide (bel3 (unhide HB7) (Below.refl _ _) hb8)
                      clear hb8 HV7 HX7 HY7 HQ7 HB7
                      obtain ⟨y0c, y1c, y2c, y3c⟩ := (unhide HQ8).c4.1
                      have yl := (unhide HQ8).2
                      go_wp2_with fail
                      refine (unhide CY _ (unhide HY8)).mono ?_
                      rintro e w' ⟨rfl, hw⟩
                      obtain rfl := hw.symm
                      clear hw
                      clear y0c y1c y2c y3c yl
                      go_wp2
                      go_roundw
                      case rel => exact ⟨k + 1, M, K, x3, n3', c3, x2, n2, c2, by omega, by go_num, rfl, rfl, GM, GK, HX8, HY8, HV8, HB8⟩
                      case measure => simp [intOf]; omega
                    | false =>
                      rw [hn, Bool.false_and, if_neg (by simp), errV_pos (by omega)] at CH CS
                      rw [hn] at CI
                      clear hn
                      go_wp2_with fail
                      refine (unhide CI _).mono ?_
                      rintro e w' ⟨rfl, hw⟩
                      obtain rfl := hw.symm
                      clear hw
                      go_wp2_with fail
                      refine (unhide CH _ (unhide HV4)).mono ?_
                      rintro e w5 ⟨rfl, hb5⟩
                      clear y0c y1c y2c y3c yl
                      have HV5 := hide ((unhide HV4).later hb5)
                      have HX5 := hide ((unhide HX4).later hb5)
                      have HY5 := hide ((unhide HY4).later hb5)
                      have HQ5 := hide ((unhide HQ4).later hb5)
                      have HB5 := hide (bel3 (unhide HB4) (Below.refl _ _) hb5)
                      clear hb5 HV4 HX4 HY4 HQ4 HB4
                      obtain ⟨y0c, y1c, y2c, y3c⟩ := (unhide HQ5).c4.1
                      have yl := (unhide HQ5).2
                      go_wp2_with fail
                      refine (unhide CS _ (unhide HV5)).mono ?_
                      rintro e w6 ⟨rfl, hb6⟩
                      clear y0c y1c y2c y3c yl
                      have HV6 := hide ((unhide HV5).later hb6)
                      have HX6 := hide ((unhide HX5).later hb6)
                      have HY6 := hide ((unhide HY5).later hb6)
                      have HQ6 := hide ((unhide HQ5).later hb6)
                      have HB6 := hide (bel3 (unhide HB5) (Below.refl _ _) hb6)
                      clear hb6 HV5 HX5 HY5 HQ5 HB5
                      obtain ⟨y0c, y1c, y2c, y3c⟩ := (unhide HQ6).c4.1
                      have yl := (unhide HQ6).2
                      go_wp2_with fail
                      refine (same_errno _ _ _ ((unhide HG).later (unhide HB6))).mono ?_
                      rintro e w7 ⟨rfl, hb7⟩
                      clear y0c y1c y2c y3c yl
                      have HV7 := hide ((unhide HV6).later hb7)
                      have HX7 := hide ((unhide HX6).later hb7)
                      have HY7 := hide ((unhide HY6).later hb7)
                      have HQ7 := hide ((unhide HQ6).later hb7)
                      have HB7 := hide (bel3 (unhide HB6) (Below.refl _ _) hb7)
                      clear hb7 HV6 HX6 HY6 HQ6 HB6
                      obtain ⟨y0c, y1c, y2c, y3c⟩ := (unhide HQ7).c4.1
                      have yl := (unhide HQ7).2
                      go_wp2_with fail
                      refine (same_errno _ _ _ ((unhide HG).later (unhide HB7))).mono ?_
                      rintro e w8 ⟨rfl, hb8⟩
                      clear y0c y1c y2c y3c yl
                      have HV8 := hide ((unhide HV7).later hb8)
                      have HX8 := hide ((unhide HX7).later hb8)
                      have HY8 := hide ((unhide HY7).later hb8)
                      have HQ8 := hide ((unhide HQ7).later hb8)
                      have HB8 := hide (bel3 (unhide HB7) (Below.refl _ _) hb8)
                      clear hb8 HV7 HX7 HY7 HQ7 HB7
                      obtain ⟨y0c, y1c, y2c, y3c⟩ := (unhide HQ8).c4.1
                      have yl := (unhide HQ8).2
                      clear y0c y1c y2c y3c yl
                      go_wp2
                      go_roundw
                      case rel => exact ⟨k + 1, M, K, x3, n3', c3, x2, n2, c2, by omega, by go_num, rfl, rfl, GM, GK, HX8, HY8, HV8, HB8⟩
                      case measure => simp [intOf]; omega
                  · have CR := hide (fun (w' : World) (h : PRow w' x1 n1 c1 L) => ref_spend y1 y2 y3 w' (len16 h (SpentM.err_zero.2 (unhide GL))) h)
                    have CV := hide (fun (w' : World) (h : VAt w' w.heap.size L K) => vspend_any y1 y2 y3 w' h)
                    rw [VaultM.next_no (show ¬ SpentM.spendErr L y1 y2 y3 = 0 by rw [VaultM.err_rest (unhide GL)]; exact he), VaultM.err_rest (unhide GL), errV_pos he] at CV
                    generalize SpentM.restErr L y1 y2 y3 = E at CR CV he
                    have he2 : (E == 0) = false := by simp [he]
                    have hee : (E == E) = true := by simp
                    go_wp2_with fail
                    refine (unhide CR _ (unhide HX1)).mono ?_
                    rintro e w2 ⟨x3, n3', c3, rfl, hp2, hb2⟩
                    clear y0c y1c y2c y3c yl
                    clear hp2
                    have HV2 := hide ((unhide HV1).later hb2)
                    have HX2 := hide ((unhide HX1).later hb2)
                    have HY2 := hide ((unhide HY1).later hb2)
                    have HQ2 := hide ((unhide HQ1).later hb2)
                    have HB2 := hide (bel3 (unhide HB1) (Below.refl _ _) hb2)
                    clear hb2 HV1 HX1 HY1 HQ1 HB1
                    obtain ⟨y0c, y1c, y2c, y3c⟩ := (unhide HQ2).c4.1
                    have yl := (unhide HQ2).2
                    go_wp2_with fail
                    refine (unhide CV _ (unhide HV2)).mono ?_
                    rintro e w3 ⟨rfl, h3, k3⟩
                    clear y0c y1c y2c y3c yl
                    have HX3 := hide ((unhide HX2).kept (unhide HV2) k3)
                    have HY3 := hide ((unhide HY2).kept (unhide HV2) k3)
                    have HQ3 := hide (k3.held (unhide HQ2) (by simp; omega))
                    have HB3 := hide (vown k3 (unhide HB2) (Nat.le_refl _))
                    have HV3 := hide h3
                    clear h3 k3 HV2 HX2 HY2 HQ2 HB2
                    obtain ⟨y0c, y1c, y2c, y3c⟩ := (unhide HQ3).c4.1
                    have yl := (unhide HQ3).2
                    go_wp2_with fail
                    refine (same_errno _ _ _ ((unhide HG).later (unhide HB3))).mono ?_
                    rintro e w4 ⟨rfl, hb4⟩
                    clear y0c y1c y2c y3c yl
                    have HV4 := hide ((unhide HV3).later hb4)
                    have HX4 := hide ((unhide HX3).later hb4)
                    have HY4 := hide ((unhide HY3).later hb4)
                    have HQ4 := hide ((unhide HQ3).later hb4)
                    have HB4 := hide (bel3 (unhide HB3) (Below.refl _ _) hb4)
                    clear hb4 HV3 HX3 HY3 HQ3 HB3
                    obtain ⟨y0c, y1c, y2c, y3c⟩ := (unhide HQ4).c4.1
                    have yl := (unhide HQ4).2
                    have CH := hide (fun (w' : World) (h : VAt w' w.heap.size L K) => vhas_any y1 w' h)
                    have CS := hide (fun (w' : World) (h : VAt w' w.heap.size L K) => vsure_any y1 w' h)
                    rw [VaultM.has_good (unhide GL), VaultM.hasErr_good (unhide GL)] at CH
                    rw [VaultM.has_good (unhide GK), VaultM.hasErr_good (unhide GK)] at CS
                    have CI := hide (in_any y1)
                    cases hn : TagM.inB y1 with
                    | true =>
                      have CX := hide (fun (w' : World) (h : PRow w' x1 n1 c1 L) => ref_has y1 w' (len16 h (SpentM.err_zero.2 (unhide GL))) h)
                      have CY := hide (fun (w' : World) (h : PRow w' x2 n2 c2 K) => ref_has y1 w' (len16 h (SpentM.err_zero.2 (unhide GK))) h)
                      rw [hn, Bool.true_and, if_pos rfl, errV_zero rfl] at CH CS
                      rw [hn] at CI
                      generalize SpentM.hasB L y1 = bx at CH CX
                      generalize SpentM.hasB K y1 = by1 at CS CY
                      have hby : (by1 == by1) = true := by simp
                      have hbx : (bx == bx) = true := by simp
                      clear hn
                      go_wp2_with fail
                      refine (unhide CI _).mono ?_
                      rintro e w' ⟨rfl, hw⟩
                      obtain rfl := hw.symm
                      clear hw
                      go_wp2_with fail
                      refine (unhide CH _ (unhide HV4)).mono ?_
                      rintro e w5 ⟨rfl, hb5⟩
                      clear y0c y1c y2c y3c yl
                      have HV5 := hide ((unhide HV4).later hb5)
                      have HX5 := hide ((unhide HX4).later hb5)
                      have HY5 := hide ((unhide HY4).later hb5)
                      have HQ5 := hide ((unhide HQ4).later hb5)
                      have HB5 := hide (bel3 (unhide HB4) (Below.refl _ _) hb5)
                      clear hb5 HV4 HX4 HY4 HQ4 HB4
                      obtain ⟨y0c, y1c, y2c, y3c⟩ := (unhide HQ5).c4.1
                      have yl := (unhide HQ5).2
                      go_wp2_with fail
                      refine (unhide CS _ (unhide HV5)).mono ?_
                      rintro e w6 ⟨rfl, hb6⟩
                      clear y0c y1c y2c y3c yl
                      have HV6 := hide ((unhide HV5).later hb6)
                      have HX6 := hide ((unhide HX5).later hb6)
                      have HY6 := hide ((unhide HY5).later hb6)
                      have HQ6 := hide ((unhide HQ5).later hb6)
                      have HB6 := hide (bel3 (unhide HB5) (Below.refl _ _) hb6)
                      clear hb6 HV5 HX5 HY5 HQ5 HB5
                      obtain ⟨y0c, y1c, y2c, y3c⟩ := (unhide HQ6).c4.1
                      have yl := (unhide HQ6).2
                      go_wp2_with fail
                      refine (same_nil _ _).mono ?_
                      rintro e w7 ⟨rfl, hb7⟩
                      clear y0c y1c y2c y3c yl
                      have HV7 := hide ((unhide HV6).later hb7)
                      have HX7 := hide ((unhide HX6).later hb7)
                      have HY7 := hide ((unhide HY6).later hb7)
                      have HQ7 := hide ((unhide HQ6).later hb7)
                      have HB7 := hide (bel3 (unhide HB6) (Below.refl _ _) hb7)
                      clear hb7 HV6 HX6 HY6 HQ6 HB6
                      obtain ⟨y0c, y1c, y2c, y3c⟩ := (unhide HQ7).c4.1
                      have yl := (unhide HQ7).2
                      go_wp2_with fail
                      refine (unhide CX _ (unhide HX7)).mono ?_
                      rintro e w' ⟨rfl, hw⟩
                      obtain rfl := hw.symm
                      clear hw
                      go_wp2_with fail
                      refine (same_nil _ _).mono ?_
                      rintro e w8 ⟨rfl, hb8⟩
                      clear y0c y1c y2c y3c yl
                      have HV8 := hide ((unhide HV7).later hb8)
                      have HX8 := hide ((unhide HX7).later hb8)
                      have HY8 := hide ((unhide HY7).later hb8)
                      have HQ8 := hide ((unhide HQ7).later hb8)
                      have HB8 := hide (bel3 (unhide HB7) (Below.refl _ _) hb8)
                      clear hb8 HV7 HX7 HY7 HQ7 HB7
                      obtain ⟨y0c, y1c, y2c, y3c⟩ := (unhide HQ8).c4.1
                      have yl := (unhide HQ8).2
                      go_wp2_with fail
                      refine (unhide CY _ (unhide HY8)).mono ?_
                      rintro e w' ⟨rfl, hw⟩
                      obtain rfl := hw.symm
                      clear hw
                      clear y0c y1c y2c y3c yl
                      go_wp2
                      go_roundw
                      case rel => exact ⟨k + 1, L, K, x1, n1, c1, x2, n2, c2, by omega, by go_num, rfl, rfl, GL, GK, HX8, HY8, HV8, HB8⟩
                      case measure => simp [intOf]; omega
                    | false =>
                      rw [hn, Bool.false_and, if_neg (by simp), errV_pos (by omega)] at CH CS
                      rw [hn] at CI
                      clear hn
                      go_wp2_with fail
                      refine (unhide CI _).mono ?_
                      rintro e w' ⟨rfl, hw⟩
                      obtain rfl := hw.symm
                      clear hw
                      go_wp2_with fail
                      refine (unhide CH _ (unhide HV4)).mono ?_
                      rintro e w5 ⟨rfl, hb5⟩
                      clear y0c y1c y2c y3c yl
                      have HV5 := hide ((unhide HV4).later hb5)
                      have HX5 := hide ((unhide HX4).later hb5)
                      have HY5 := hide ((unhide HY4).later hb5)
                      have HQ5 := hide ((unhide HQ4).later hb5)
                      have HB5 := hide (bel3 (unhide HB4) (Below.refl _ _) hb5)
                      clear hb5 HV4 HX4 HY4 HQ4 HB4
                      obtain ⟨y0c, y1c, y2c, y3c⟩ := (unhide HQ5).c4.1
                      have yl := (unhide HQ5).2
                      go_wp2_with fail
                      refine (unhide CS _ (unhide HV5)).mono ?_
                      rintro e w6 ⟨rfl, hb6⟩
                      clear y0c y1c y2c y3c yl
                      have HV6 := hide ((unhide HV5).later hb6)
                      have HX6 := hide ((unhide HX5).later hb6)
                      have HY6 := hide ((unhide HY5).later hb6)
                      have HQ6 := hide ((unhide HQ5).later hb6)
                      have HB6 := hide (bel3 (unhide HB5) (Below.refl _ _) hb6)
                      clear hb6 HV5 HX5 HY5 HQ5 HB5
                      obtain ⟨y0c, y1c, y2c, y3c⟩ := (unhide HQ6).c4.1
                      have yl := (unhide HQ6).2
                      go_wp2_with fail
                      refine (same_errno _ _ _ ((unhide HG).later (unhide HB6))).mono ?_
                      rintro e w7 ⟨rfl, hb7⟩
                      clear y0c y1c y2c y3c yl
                      have HV7 := hide ((unhide HV6).later hb7)
                      have HX7 := hide ((unhide HX6).later hb7)
                      have HY7 := hide ((unhide HY6).later hb7)
                      have HQ7 := hide ((unhide HQ6).later hb7)
                      have HB7 := hide (bel3 (unhide HB6) (Below.refl _ _) hb7)
                      clear hb7 HV6 HX6 HY6 HQ6 HB6
                      obtain ⟨y0c, y1c, y2c, y3c⟩ := (unhide HQ7).c4.1
                      have yl := (unhide HQ7).2
                      go_wp2_with fail
                      refine (same_errno _ _ _ ((unhide HG).later (unhide HB7))).mono ?_
                      rintro e w8 ⟨rfl, hb8⟩
                      clear y0c y1c y2c y3c yl
                      have HV8 := hide ((unhide HV7).later hb8)
                      have HX8 := hide ((unhide HX7).later hb8)
                      have HY8 := hide ((unhide HY7).later hb8)
                      have HQ8 := hide ((unhide HQ7).later hb8)
                      have HB8 := hide (bel3 (unhide HB7) (Below.refl _ _) hb8)
                      clear hb8 HV7 HX7 HY7 HQ7 HB7
                      obtain ⟨y0c, y1c, y2c, y3c⟩ := (unhide HQ8).c4.1
                      have yl := (unhide HQ8).2
                      clear y0c y1c y2c y3c yl
                      go_wp2
                      go_roundw
                      case rel => exact ⟨k + 1, L, K, x1, n1, c1, x2, n2, c2, by omega, by go_num, rfl, rfl, GL, GK, HX8, HY8, HV8, HB8⟩
                      case measure => simp [intOf]; omega
          · have HV1 := hide ((unhide HV).later (unhide HBI))
            have HX1 := hide ((unhide HX).later (unhide HBI))
            have HY1 := hide ((unhide HY).later (unhide HBI))
            have HB1 := hide (bel3 (unhide HB) (Below.refl _ _) (unhide HBI))
            have HQ1 := HQ
            clear HQ HBI HV HX HY HB
            obtain ⟨y0c, y1c, y2c, y3c⟩ := (unhide HQ1).c4.1
            have yl := (unhide HQ1).2
            by_cases hy : y0 = 0
            · subst hy
              go_wp2_with fail
              refine (vsync_any _ (unhide HV1)).mono ?_
              rintro e w2 ⟨rfl, h2, k2⟩
              clear y0c y1c y2c y3c yl
              have HX2 := hide ((unhide HX1).kept (unhide HV1) k2)
              have HY2 := hide ((unhide HY1).kept (unhide HV1) k2)
              have HQ2 := hide (k2.held (unhide HQ1) (by simp; omega))
              have HB2 := hide (vown k2 (unhide HB1) (Nat.le_refl _))
              have HV2 := hide h2
              clear h2 k2 HV1 HX1 HY1 HQ1 HB1
              obtain ⟨y0c, y1c, y2c, y3c⟩ := (unhide HQ2).c4.1
              have yl := (unhide HQ2).2
              have CH := hide (fun (w' : World) (h : VAt w' w.heap.size L L) => vhas_any y1 w' h)
              have CS := hide (fun (w' : World) (h : VAt w' w.heap.size L L) => vsure_any y1 w' h)
              rw [VaultM.has_good (unhide GL), VaultM.hasErr_good (unhide GL)] at CH
              rw [VaultM.has_good (unhide GL), VaultM.hasErr_good (unhide GL)] at CS
              have CI := hide (in_any y1)
              cases hn : TagM.inB y1 with
              | true =>
                have CX := hide (fun (w' : World) (h : PRow w' x1 n1 c1 L) => ref_has y1 w' (len16 h (SpentM.err_zero.2 (unhide GL))) h)
                have CY := hide (fun (w' : World) (h : PRow w' x1 n1 c1 L) => ref_has y1 w' (len16 h (SpentM.err_zero.2 (unhide GL))) h)
                rw [hn, Bool.true_and, if_pos rfl, errV_zero rfl] at CH CS
                rw [hn] at CI
                generalize SpentM.hasB L y1 = bx at CH CX CS CY
                have hbx : (bx == bx) = true := by simp
                clear hn
                go_wp2_with fail
                refine (unhide CI _).mono ?_
                rintro e w' ⟨rfl, hw⟩
                obtain rfl := hw.symm
                clear hw
                go_wp2_with fail
                refine (unhide CH _ (unhide HV2)).mono ?_
                rintro e w3 ⟨rfl, hb3⟩
                clear y0c y1c y2c y3c yl
                have HV3 := hide ((unhide HV2).later hb3)
                have HX3 := hide ((unhide HX2).later hb3)
                have HY3 := hide ((unhide HY2).later hb3)
                have HQ3 := hide ((unhide HQ2).later hb3)
                have HB3 := hide (bel3 (unhide HB2) (Below.refl _ _) hb3)
                clear hb3 HV2 HX2 HY2 HQ2 HB2
                obtain ⟨y0c, y1c, y2c, y3c⟩ := (unhide HQ3).c4.1
                have yl := (unhide HQ3).2
                go_wp2_with fail
                refine (unhide CS _ (unhide HV3)).mono ?_
                rintro e w4 ⟨rfl, hb4⟩
                clear y0c y1c y2c y3c yl
                have HV4 := hide ((unhide HV3).later hb4)
                have HX4 := hide ((unhide HX3).later hb4)
                have HY4 := hide ((unhide HY3).later hb4)
                have HQ4 := hide ((unhide HQ3).later hb4)
                have HB4 := hide (bel3 (unhide HB3) (Below.refl _ _) hb4)
                clear hb4 HV3 HX3 HY3 HQ3 HB3
                obtain ⟨y0c, y1c, y2c, y3c⟩ := (unhide HQ4).c4.1
                have yl := (unhide HQ4).2
                go_wp2_with fail
                refine (same_nil _ _).mono ?_
                rintro e w5 ⟨rfl, hb5⟩
                clear y0c y1c y2c y3c yl
                have HV5 := hide ((unhide HV4).later hb5)
                have HX5 := hide ((unhide HX4).later hb5)
                have HY5 := hide ((unhide HY4).later hb5)
                have HQ5 := hide ((unhide HQ4).later hb5)
                have HB5 := hide (bel3 (unhide HB4) (Below.refl _ _) hb5)
                clear hb5 HV4 HX4 HY4 HQ4 HB4
                obtain ⟨y0c, y1c, y2c, y3c⟩ := (unhide HQ5).c4.1
                have yl := (unhide HQ5).2
                go_wp2_with fail
                refine (unhide CX _ (unhide HX5)).mono ?_
                rintro e w' ⟨rfl, hw⟩
                obtain rfl := hw.symm
                clear hw
                go_wp2_with fail
                refine (same_nil _ _).mono ?_
                rintro e w6 ⟨rfl, hb6⟩
                clear y0c y1c y2c y3c yl
                have HV6 := hide ((unhide HV5).later hb6)
                have HX6 := hide ((unhide HX5).later hb6)
                have HY6 := hide ((unhide HY5).later hb6)
                have HQ6 := hide ((unhide HQ5).later hb6)
                have HB6 := hide (bel3 (unhide HB5) (Below.refl _ _) hb6)
                clear hb6 HV5 HX5 HY5 HQ5 HB5
                obtain ⟨y0c, y1c, y2c, y3c⟩ := (unhide HQ6).c4.1
                have yl := (unhide HQ6).2
                go_wp2_with fail
                refine (unhide CY _ (unhide HX6)).mono ?_
                rintro e w' ⟨rfl, hw⟩
                obtain rfl := hw.symm
                clear hw
                clear y0c y1c y2c y3c yl
                go_wp2
                go_roundw
                case rel => exact ⟨k + 1, L, L, x1, n1, c1, x1, n1, c1, by omega, by go_num, rfl, rfl, GL, GL, HX6, HX6, HV6, HB6⟩
                case measure => simp [intOf]; omega
              | false =>
                rw [hn, Bool.false_and, if_neg (by simp), errV_pos (by omega)] at CH CS
                rw [hn] at CI
                clear hn
                go_wp2_with fail
                refine (unhide CI _).mono ?_
                rintro e w' ⟨rfl, hw⟩
                obtain rfl := hw.symm
                clear hw
                go_wp2_with fail
                refine (unhide CH _ (unhide HV2)).mono ?_
                rintro e w3 ⟨rfl, hb3⟩
                clear y0c y1c y2c y3c yl
                have HV3 := hide ((unhide HV2).later hb3)
                have HX3 := hide ((unhide HX2).later hb3)
                have HY3 := hide ((unhide HY2).later hb3)
                have HQ3 := hide ((unhide HQ2).later hb3)
                have HB3 := hide (bel3 (unhide HB2) (Below.refl _ _) hb3)
                clear hb3 HV2 HX2 HY2 HQ2 HB2
                obtain ⟨y0c, y1c, y2c, y3c⟩ := (unhide HQ3).c4.1
                have yl := (unhide HQ3).2
                go_wp2_with fail
                refine (unhide CS _ (unhide HV3)).mono ?_
                rintro e w4 ⟨rfl, hb4⟩
                clear y0c y1c y2c y3c yl
                have HV4 := hide ((unhide HV3).later hb4)
                have HX4 := hide ((unhide HX3).later hb4)
                have HY4 := hide ((unhide HY3).later hb4)
                have HQ4 := hide ((unhide HQ3).later hb4)
                have HB4 := hide (bel3 (unhide HB3) (Below.refl _ _) hb4)
                clear hb4 HV3 HX3 HY3 HQ3 HB3
                obtain ⟨y0c, y1c, y2c, y3c⟩ := (unhide HQ4).c4.1
                have yl := (unhide HQ4).2
                go_wp2_with fail
                refine (same_errno _ _ _ ((unhide HG).later (unhide HB4))).mono ?_
                rintro e w5 ⟨rfl, hb5⟩
                clear y0c y1c y2c y3c yl
                have HV5 := hide ((unhide HV4).later hb5)
                have HX5 := hide ((unhide HX4).later hb5)
                have HY5 := hide ((unhide HY4).later hb5)
                have HQ5 := hide ((unhide HQ4).later hb5)
                have HB5 := hide (bel3 (unhide HB4) (Below.refl _ _) hb5)
                clear hb5 HV4 HX4 HY4 HQ4 HB4
                obtain ⟨y0c, y1c, y2c, y3c⟩ := (unhide HQ5).c4.1
                have yl := (unhide HQ5).2
                go_wp2_with fail
                refine (same_errno _ _ _ ((unhide HG).later (unhide HB5))).mono ?_
                rintro e w6 ⟨rfl, hb6⟩
                clear y0c y1c y2c y3c yl
                have HV6 := hide ((unhide HV5).later hb6)
                have HX6 := hide ((unhide HX5).later hb6)
                have HY6 := hide ((unhide HY5).later hb6)
                have HQ6 := hide ((unhide HQ5).later hb6)
                have HB6 := hide (bel3 (unhide HB5) (Below.refl _ _) hb6)
                clear hb6 HV5 HX5 HY5 HQ5 HB5
                obtain ⟨y0c, y1c, y2c, y3c⟩ := (unhide HQ6).c4.1
                have yl := (unhide HQ6).2
                clear y0c y1c y2c y3c yl
                go_wp2
                go_roundw
                case rel => exact ⟨k + 1, L, L, x1, n1, c1, x1, n1, c1, by omega, by go_num, rfl, rfl, GL, GL, HX6, HX6, HV6, HB6⟩
                case measure => simp [intOf]; omega
            · by_cases hy1 : y0 = 1
              · subst hy1
                go_wp2_with fail
                refine (vcrash_any _ (unhide HV1)).mono ?_
                rintro e w2 ⟨rfl, h2, k2⟩
                clear y0c y1c y2c y3c yl
                have HX2 := hide ((unhide HX1).kept (unhide HV1) k2)
                have HY2 := hide ((unhide HY1).kept (unhide HV1) k2)
                have HQ2 := hide (k2.held (unhide HQ1) (by simp; omega))
                have HB2 := hide (vown k2 (unhide HB1) (Nat.le_refl _))
                have HV2 := hide h2
                clear h2 k2 HV1 HX1 HY1 HQ1 HB1
                obtain ⟨y0c, y1c, y2c, y3c⟩ := (unhide HQ2).c4.1
                have yl := (unhide HQ2).2
                have CH := hide (fun (w' : World) (h : VAt w' w.heap.size K K) => vhas_any y1 w' h)
                have CS := hide (fun (w' : World) (h : VAt w' w.heap.size K K) => vsure_any y1 w' h)
                rw [VaultM.has_good (unhide GK), VaultM.hasErr_good (unhide GK)] at CH
                rw [VaultM.has_good (unhide GK), VaultM.hasErr_good (unhide GK)] at CS
                have CI := hide (in_any y1)
                cases hn : TagM.inB y1 with
                | true =>
                  have CX := hide (fun (w' : World) (h : PRow w' x2 n2 c2 K) => ref_has y1 w' (len16 h (SpentM.err_zero.2 (unhide GK))) h)
                  have CY := hide (fun (w' : World) (h : PRow w' x2 n2 c2 K) => ref_has y1 w' (len16 h (SpentM.err_zero.2 (unhide GK))) h)
                  rw [hn, Bool.true_and, if_pos rfl, errV_zero rfl] at CH CS
                  rw [hn] at CI
                  generalize SpentM.hasB K y1 = bx at CH CX CS CY
                  have hbx : (bx == bx) = true := by simp
                  clear hn
                  go_wp2_with fail
                  refine (unhide CI _).mono ?_
                  rintro e w' ⟨rfl, hw⟩
                  obtain rfl := hw.symm
                  clear hw
                  go_wp2_with fail
                  refine (unhide CH _ (unhide HV2)).mono ?_
                  rintro e w3 ⟨rfl, hb3⟩
                  clear y0c y1c y2c y3c yl
                  have HV3 := hide ((unhide HV2).later hb3)
                  have HX3 := hide ((unhide HX2).later hb3)
                  have HY3 := hide ((unhide HY2).later hb3)
                  have HQ3 := hide ((unhide HQ2).later hb3)
                  have HB3 := hide (bel3 (unhide HB2) (Below.refl _ _) hb3)
                  clear hb3 HV2 HX2 HY2 HQ2 HB2
                  obtain ⟨y0c, y1c, y2c, y3c⟩ := (unhide HQ3).c4.1
                  have yl := (unhide HQ3).2
                  go_wp2_with fail
                  refine (unhide CS _ (unhide HV3)).mono ?_
                  rintro e w4 ⟨rfl, hb4⟩
                  clear y0c y1c y2c y3c yl
                  have HV4 := hide ((unhide HV3).later hb4)
                  have HX4 := hide ((unhide HX3).later hb4)
                  have HY4 := hide ((unhide HY3).later hb4)
                  have HQ4 := hide ((unhide HQ3).later hb4)
                  have HB4 := hide (bel3 (unhide HB3) (Below.refl _ _) hb4)
                  clear hb4 HV3 HX3 HY3 HQ3 HB3
                  obtain ⟨y0c, y1c, y2c, y3c⟩ := (unhide HQ4).c4.1
                  have yl := (unhide HQ4).2
                  go_wp2_with fail
                  refine (same_nil _ _).mono ?_
                  rintro e w5 ⟨rfl, hb5⟩
                  clear y0c y1c y2c y3c yl
                  have HV5 := hide ((unhide HV4).later hb5)
                  have HX5 := hide ((unhide HX4).later hb5)
                  have HY5 := hide ((unhide HY4).later hb5)
                  have HQ5 := hide ((unhide HQ4).later hb5)
                  have HB5 := hide (bel3 (unhide HB4) (Below.refl _ _) hb5)
                  clear hb5 HV4 HX4 HY4 HQ4 HB4
                  obtain ⟨y0c, y1c, y2c, y3c⟩ := (unhide HQ5).c4.1
                  have yl := (unhide HQ5).2
                  go_wp2_with fail
                  refine (unhide CX _ (unhide HY5)).mono ?_
                  rintro e w' ⟨rfl, hw⟩
                  obtain rfl := hw.symm
                  clear hw
                  go_wp2_with fail
                  refine (same_nil _ _).mono ?_
                  rintro e w6 ⟨rfl, hb6⟩
                  clear y0c y1c y2c y3c yl
                  have HV6 := hide ((unhide HV5).later hb6)
                  have HX6 := hide ((unhide HX5).later hb6)
                  have HY6 := hide ((unhide HY5).later hb6)
                  have HQ6 := hide ((unhide HQ5).later hb6)
                  have HB6 := hide (bel3 (unhide HB5) (Below.refl _ _) hb6)
                  clear hb6 HV5 HX5 HY5 HQ5 HB5
                  obtain ⟨y0c, y1c, y2c, y3c⟩ := (unhide HQ6).c4.1
                  have yl := (unhide HQ6).2
                  go_wp2_with fail
                  refine (unhide CY _ (unhide HY6)).mono ?_
                  rintro e w' ⟨rfl, hw⟩
                  obtain rfl := hw.symm
                  clear hw
                  clear y0c y1c y2c y3c yl
                  go_wp2
                  go_roundw
                  case rel => exact ⟨k + 1, K, K, x2, n2, c2, x2, n2, c2, by omega, by go_num, rfl, rfl, GK, GK, HY6, HY6, HV6, HB6⟩
                  case measure => simp [intOf]; omega
                | false =>
                  rw [hn, Bool.false_and, if_neg (by simp), errV_pos (by omega)] at CH CS
                  rw [hn] at CI
                  clear hn
                  go_wp2_with fail
                  refine (unhide CI _).mono ?_
                  rintro e w' ⟨rfl, hw⟩
                  obtain rfl := hw.symm
                  clear hw
                  go_wp2_with fail
                  refine (unhide CH _ (unhide HV2)).mono ?_
                  rintro e w3 ⟨rfl, hb3⟩
                  clear y0c y1c y2c y3c yl
                  have HV3 := hide ((unhide HV2).later hb3)
                  have HX3 := hide ((unhide HX2).later hb3)
                  have HY3 := hide ((unhide HY2).later hb3)
                  have HQ3 := hide ((unhide HQ2).later hb3)
                  have HB3 := hide (bel3 (unhide HB2) (Below.refl _ _) hb3)
                  clear hb3 HV2 HX2 HY2 HQ2 HB2
                  obtain ⟨y0c, y1c, y2c, y3c⟩ := (unhide HQ3).c4.1
                  have yl := (unhide HQ3).2
                  go_wp2_with fail
                  refine (unhide CS _ (unhide HV3)).mono ?_
                  rintro e w4 ⟨rfl, hb4⟩
                  clear y0c y1c y2c y3c yl
                  have HV4 := hide ((unhide HV3).later hb4)
                  have HX4 := hide ((unhide HX3).later hb4)
                  have HY4 := hide ((unhide HY3).later hb4)
                  have HQ4 := hide ((unhide HQ3).later hb4)
                  have HB4 := hide (bel3 (unhide HB3) (Below.refl _ _) hb4)
                  clear hb4 HV3 HX3 HY3 HQ3 HB3
                  obtain ⟨y0c, y1c, y2c, y3c⟩ := (unhide HQ4).c4.1
                  have yl := (unhide HQ4).2
                  go_wp2_with fail
                  refine (same_errno _ _ _ ((unhide HG).later (unhide HB4))).mono ?_
                  rintro e w5 ⟨rfl, hb5⟩
                  clear y0c y1c y2c y3c yl
                  have HV5 := hide ((unhide HV4).later hb5)
                  have HX5 := hide ((unhide HX4).later hb5)
                  have HY5 := hide ((unhide HY4).later hb5)
                  have HQ5 := hide ((unhide HQ4).later hb5)
                  have HB5 := hide (bel3 (unhide HB4) (Below.refl _ _) hb5)
                  clear hb5 HV4 HX4 HY4 HQ4 HB4
                  obtain ⟨y0c, y1c, y2c, y3c⟩ := (unhide HQ5).c4.1
                  have yl := (unhide HQ5).2
                  go_wp2_with fail
                  refine (same_errno _ _ _ ((unhide HG).later (unhide HB5))).mono ?_
                  rintro e w6 ⟨rfl, hb6⟩
                  clear y0c y1c y2c y3c yl
                  have HV6 := hide ((unhide HV5).later hb6)
                  have HX6 := hide ((unhide HX5).later hb6)
                  have HY6 := hide ((unhide HY5).later hb6)
                  have HQ6 := hide ((unhide HQ5).later hb6)
                  have HB6 := hide (bel3 (unhide HB5) (Below.refl _ _) hb6)
                  clear hb6 HV5 HX5 HY5 HQ5 HB5
                  obtain ⟨y0c, y1c, y2c, y3c⟩ := (unhide HQ6).c4.1
                  have yl := (unhide HQ6).2
                  clear y0c y1c y2c y3c yl
                  go_wp2
                  go_roundw
                  case rel => exact ⟨k + 1, K, K, x2, n2, c2, x2, n2, c2, by omega, by go_num, rfl, rfl, GK, GK, HY6, HY6, HV6, HB6⟩
                  case measure => simp [intOf]; omega
              · have hy2 : (y0 == 0) = false := by simp [hy]
                have hy3 : (y0 == 1) = false := by simp [hy1]
                by_cases he : SpentM.restErr L y1 y2 y3 = 0
                · have CR := hide (fun (w' : World) (h : PRow w' x1 n1 c1 L) => ref_spend y1 y2 y3 w' (len16 h (SpentM.err_zero.2 (unhide GL))) h)
                  have CV := hide (fun (w' : World) (h : VAt w' w.heap.size L K) => vspend_any y1 y2 y3 w' h)
                  rw [VaultM.next_yes (show SpentM.spendErr L y1 y2 y3 = 0 by rw [VaultM.err_rest (unhide GL)]; exact he), VaultM.err_rest (unhide GL), he, errV_zero rfl] at CV
                  have GM := hide (SpentM.spend_good (show SpentM.spendErr L y1 y2 y3 = 0 by rw [VaultM.err_rest (unhide GL)]; exact he))
                  rw [he, SpentM.told_zero rfl, ← SpentM.spend_ok (show SpentM.spendErr L y1 y2 y3 = 0 by rw [VaultM.err_rest (unhide GL)]; exact he)] at CR
                  generalize SpentM.spend L y1 y2 y3 = M at CR CV GM
                  clear he
                  go_wp2_with fail
                  refine (unhide CR _ (unhide HX1)).mono ?_
                  rintro e w2 ⟨x3, n3', c3, rfl, hp2, hb2⟩
                  clear y0c y1c y2c y3c yl
                  have HM2 := hide hp2
                  clear hp2
                  have HV2 := hide ((unhide HV1).later hb2)
                  have HX2 := hide ((unhide HX1).later hb2)
                  have HY2 := hide ((unhide HY1).later hb2)
                  have HQ2 := hide ((unhide HQ1).later hb2)
                  have HB2 := hide (bel3 (unhide HB1) (Below.refl _ _) hb2)
                  clear hb2 HV1 HX1 HY1 HQ1 HB1
                  obtain ⟨y0c, y1c, y2c, y3c⟩ := (unhide HQ2).c4.1
                  have yl := (unhide HQ2).2
                  go_wp2_with fail
                  refine (unhide CV _ (unhide HV2)).mono ?_
                  rintro e w3 ⟨rfl, h3, k3⟩
                  clear y0c y1c y2c y3c yl
                  have HX3 := hide ((unhide HX2).kept (unhide HV2) k3)
                  have HM3 := hide ((unhide HM2).kept (unhide HV2) k3)
                  have HY3 := hide ((unhide HY2).kept (unhide HV2) k3)
                  have HQ3 := hide (k3.held (unhide HQ2) (by simp; omega))
                  have HB3 := hide (vown k3 (unhide HB2) (Nat.le_refl _))
                  have HV3 := hide h3
                  clear HM2 h3 k3 HV2 HX2 HY2 HQ2 HB2
                  obtain ⟨y0c, y1c, y2c, y3c⟩ := (unhide HQ3).c4.1
                  have yl := (unhide HQ3).2
                  go_wp2_with fail
                  refine (same_nil _ _).mono ?_
                  rintro e w4 ⟨rfl, hb4⟩
                  clear y0c y1c y2c y3c yl
                  have HV4 := hide ((unhide HV3).later hb4)
                  have HM4 := hide ((unhide HM3).later hb4)
                  have HX4 := hide ((unhide HX3).later hb4)
                  have HY4 := hide ((unhide HY3).later hb4)
                  have HQ4 := hide ((unhide HQ3).later hb4)
                  have HB4 := hide (bel3 (unhide HB3) (Below.refl _ _) hb4)
                  clear HM3 hb4 HV3 HX3 HY3 HQ3 HB3
                  obtain ⟨y0c, y1c, y2c, y3c⟩ := (unhide HQ4).c4.1
                  have yl := (unhide HQ4).2
                  clear HX4
                  have HX4 := HM4
                  clear HM4
                  have CH := hide (fun (w' : World) (h : VAt w' w.heap.size M K) => vhas_any y1 w' h)
                  have CS := hide (fun (w' : World) (h : VAt w' w.heap.size M K) => vsure_any y1 w' h)
                  rw [VaultM.has_good (unhide GM), VaultM.hasErr_good (unhide GM)] at CH
                  rw [VaultM.has_good (unhide GK), VaultM.hasErr_good (unhide GK)] at CS
                  have CI := hide (in_any y1)
                  cases hn : TagM.inB y1 with
                  | true =>
                    have CX := hide (fun (w' : World) (h : PRow w' x3 n3' c3 M) => ref_has y1 w' (len16 h (SpentM.err_zero.2 (unhide GM))) h)
                    have CY := hide (fun (w' : World) (h : PRow w' x2 n2 c2 K) => ref_has y1 w' (len16 h (SpentM.err_zero.2 (unhide GK))) h)
                    rw [hn, Bool.true_and, if_pos rfl, errV_zero rfl] at CH CS
                    rw [hn] at CI
                    generalize SpentM.hasB M y1 = bx at CH CX
                    generalize SpentM.hasB K y1 = by1 at CS CY
                    have hby : (by1 == by1) = true := by simp
                    have hbx : (bx == bx) = true := by simp
                    clear hn
                    go_wp2_with fail
                    refine (unhide CI _).mono ?_
                    rintro e w' ⟨rfl, hw⟩
                    obtain rfl := hw.symm
                    clear hw
                    go_wp2_with fail
                    refine (unhide CH _ (unhide HV4)).mono ?_
                    rintro e w5 ⟨rfl, hb5⟩
                    clear y0c y1c y2c y3c yl
                    have HV5 := hide ((unhide HV4).later hb5)
                    have HX5 := hide ((unhide HX4).later hb5)
                    have HY5 := hide ((unhide HY4).later hb5)
                    have HQ5 := hide ((unhide HQ4).later hb5)
                    have HB5 := hide (bel3 (unhide HB4) (Below.refl _ _) hb5)
                    clear hb5 HV4 HX4 HY4 HQ4 HB4
                    obtain ⟨y0c, y1c, y2c, y3c⟩ := (unhide HQ5).c4.1
                    have yl := (unhide HQ5).2
                    go_wp2_with fail
                    refine (unhide CS _ (unhide HV5)).mono ?_
                    rintro e w6 ⟨rfl, hb6⟩
                    clear y0c y1c y2c y3c yl
                    have HV6 := hide ((unhide HV5).later hb6)
                    have HX6 := hide ((unhide HX5).later hb6)
                    have HY6 := hide ((unhide HY5).later hb6)
                    have HQ6 := hide ((unhide HQ5).later hb6)
                    have HB6 := hide (bel3 (unhide HB5) (Below.refl _ _) hb6)
                    clear hb6 HV5 HX5 HY5 HQ5 HB5
                    obtain ⟨y0c, y1c, y2c, y3c⟩ := (unhide HQ6).c4.1
                    have yl := (unhide HQ6).2
                    go_wp2_with fail
                    refine (same_nil _ _).mono ?_
                    rintro e w7 ⟨rfl, hb7⟩
                    clear y0c y1c y2c y3c yl
                    have HV7 := hide ((unhide HV6).later hb7)
                    have HX7 := hide ((unhide HX6).later hb7)
                    have HY7 := hide ((unhide HY6).later hb7)
                    have HQ7 := hide ((unhide HQ6).later hb7)
                    have HB7 := hide (bel3 (unhide HB6) (Below.refl _ _) hb7)
                    clear hb7 HV6 HX6 HY6 HQ6 HB6
                    obtain ⟨y0c, y1c, y2c, y3c⟩ := (unhide HQ7).c4.1
                    have yl := (unhide HQ7).2
                    go_wp2_with fail
                    refine (unhide CX _ (unhide HX7)).mono ?_
                    rintro e w' ⟨rfl, hw⟩
                    obtain rfl := hw.symm
                    clear hw
                    go_wp2_with fail
                    refine (same_nil _ _).mono ?_
                    rintro e w8 ⟨rfl, hb8⟩
                    clear y0c y1c y2c y3c yl
                    have HV8 := hide ((unhide HV7).later hb8)
                    have HX8 := hide ((unhide HX7).later hb8)
                    have HY8 := hide ((unhide HY7).later hb8)
                    have HQ8 := hide ((unhide HQ7).later hb8)
                    have HB8 := hide (bel3 (unhide HB7) (Below.refl _ _) hb8)
                    clear hb8 HV7 HX7 HY7 HQ7 HB7
                    obtain ⟨y0c, y1c, y2c, y3c⟩ := (unhide HQ8).c4.1
                    have yl := (unhide HQ8).2
                    go_wp2_with fail
                    refine (unhide CY _ (unhide HY8)).mono ?_
                    rintro e w' ⟨rfl, hw⟩
                    obtain rfl := hw.symm
                    clear hw
                    clear y0c y1c y2c y3c yl
                    go_wp2
                    go_roundw
                    case rel => exact ⟨k + 1, M, K, x3, n3', c3, x2, n2, c2, by omega, by go_num, rfl, rfl, GM, GK, HX8, HY8, HV8, HB8⟩
                    case measure => simp [intOf]; omega
                  | false =>
                    rw [hn, Bool.false_and, if_neg (by simp), errV_pos (by omega)] at CH CS
                    rw [hn] at CI
                    clear hn
                    go_wp2_with fail
                    refine (unhide CI _).mono ?_
                    rintro e w' ⟨rfl, hw⟩
                    obtain rfl := hw.symm
                    clear hw
                    go_wp2_with fail
                    refine (unhide CH _ (unhide HV4)).mono ?_
                    rintro e w5 ⟨rfl, hb5⟩
                    clear y0c y1c y2c y3c yl
                    have HV5 := hide ((unhide HV4).later hb5)
                    have HX5 := hide ((unhide HX4).later hb5)
                    have HY5 := hide ((unhide HY4).later hb5)
                    have HQ5 := hide ((unhide HQ4).later hb5)
                    have HB5 := hide (bel3 (unhide HB4) (Below.refl _ _) hb5)
                    clear hb5 HV4 HX4 HY4 HQ4 HB4
                    obtain ⟨y0c, y1c, y2c, y3c⟩ := (unhide HQ5).c4.1
                    have yl := (unhide HQ5).2
                    go_wp2_with fail
                    refine (unhide CS _ (unhide HV5)).mono ?_
                    rintro e w6 ⟨rfl, hb6⟩
                    clear y0c y1c y2c y3c yl
                    have HV6 := hide ((unhide HV5).later hb6)
                    have HX6 := hide ((unhide HX5).later hb6)
                    have HY6 := hide ((unhide HY5).later hb6)
                    have HQ6 := hide ((unhide HQ5).later hb6)
                    have HB6 := hide (bel3 (unhide HB5) (Below.refl _ _) hb6)
                    clear hb6 HV5 HX5 HY5 HQ5 HB5
                    obtain ⟨y0c, y1c, y2c, y3c⟩ := (unhide HQ6).c4.1
                    have yl := (unhide HQ6).2
                    go_wp2_with fail
                    refine (same_errno _ _ _ ((unhide HG).later (unhide HB6))).mono ?_
                    rintro e w7 ⟨rfl, hb7⟩
                    clear y0c y1c y2c y3c yl
                    have HV7 := hide ((unhide HV6).later hb7)
                    have HX7 := hide ((unhide HX6).later hb7)
                    have HY7 := hide ((unhide HY6).later hb7)
                    have HQ7 := hide ((unhide HQ6).later hb7)
                    have HB7 := hide (bel3 (unhide HB6) (Below.refl _ _) hb7)
                    clear hb7 HV6 HX6 HY6 HQ6 HB6
                    obtain ⟨y0c, y1c, y2c, y3c⟩ := (unhide HQ7).c4.1
                    have yl := (unhide HQ7).2
                    go_wp2_with fail
                    refine (same_errno _ _ _ ((unhide HG).later (unhide HB7))).mono ?_
                    rintro e w8 ⟨rfl, hb8⟩
                    clear y0c y1c y2c y3c yl
                    have HV8 := hide ((unhide HV7).later hb8)
                    have HX8 := hide ((unhide HX7).later hb8)
                    have HY8 := hide ((unhide HY7).later hb8)
                    have HQ8 := hide ((unhide HQ7).later hb8)
                    have HB8 := hide (bel3 (unhide HB7) (Below.refl _ _) hb8)
                    clear hb8 HV7 HX7 HY7 HQ7 HB7
                    obtain ⟨y0c, y1c, y2c, y3c⟩ := (unhide HQ8).c4.1
                    have yl := (unhide HQ8).2
                    clear y0c y1c y2c y3c yl
                    go_wp2
                    go_roundw
                    case rel => exact ⟨k + 1, M, K, x3, n3', c3, x2, n2, c2, by omega, by go_num, rfl, rfl, GM, GK, HX8, HY8, HV8, HB8⟩
                    case measure => simp [intOf]; omega
                · have CR := hide (fun (w' : World) (h : PRow w' x1 n1 c1 L) => ref_spend y1 y2 y3 w' (len16 h (SpentM.err_zero.2 (unhide GL))) h)
                  have CV := hide (fun (w' : World) (h : VAt w' w.heap.size L K) => vspend_any y1 y2 y3 w' h)
                  rw [VaultM.next_no (show ¬ SpentM.spendErr L y1 y2 y3 = 0 by rw [VaultM.err_rest (unhide GL)]; exact he), VaultM.err_rest (unhide GL), errV_pos he] at CV
                  generalize SpentM.restErr L y1 y2 y3 = E at CR CV he
                  have he2 : (E == 0) = false := by simp [he]
                  have hee : (E == E) = true := by simp
                  go_wp2_with fail
                  refine (unhide CR _ (unhide HX1)).mono ?_
                  rintro e w2 ⟨x3, n3', c3, rfl, hp2, hb2⟩
                  clear y0c y1c y2c y3c yl
                  clear hp2
                  have HV2 := hide ((unhide HV1).later hb2)
                  have HX2 := hide ((unhide HX1).later hb2)
                  have HY2 := hide ((unhide HY1).later hb2)
                  have HQ2 := hide ((unhide HQ1).later hb2)
                  have HB2 := hide (bel3 (unhide HB1) (Below.refl _ _) hb2)
                  clear hb2 HV1 HX1 HY1 HQ1 HB1
                  obtain ⟨y0c, y1c, y2c, y3c⟩ := (unhide HQ2).c4.1
                  have yl := (unhide HQ2).2
                  go_wp2_with fail
                  refine (unhide CV _ (unhide HV2)).mono ?_
                  rintro e w3 ⟨rfl, h3, k3⟩
                  clear y0c y1c y2c y3c yl
                  have HX3 := hide ((unhide HX2).kept (unhide HV2) k3)
                  have HY3 := hide ((unhide HY2).kept (unhide HV2) k3)
                  have HQ3 := hide (k3.held (unhide HQ2) (by simp; omega))
                  have HB3 := hide (vown k3 (unhide HB2) (Nat.le_refl _))
                  have HV3 := hide h3
                  clear h3 k3 HV2 HX2 HY2 HQ2 HB2
                  obtain ⟨y0c, y1c, y2c, y3c⟩ := (unhide HQ3).c4.1
                  have yl := (unhide HQ3).2
                  go_wp2_with fail
                  refine (same_errno _ _ _ ((unhide HG).later (unhide HB3))).mono ?_
                  rintro e w4 ⟨rfl, hb4⟩
                  clear y0c y1c y2c y3c yl
                  have HV4 := hide ((unhide HV3).later hb4)
                  have HX4 := hide ((unhide HX3).later hb4)
                  have HY4 := hide ((unhide HY3).later hb4)
                  have HQ4 := hide ((unhide HQ3).later hb4)
                  have HB4 := hide (bel3 (unhide HB3) (Below.refl _ _) hb4)
                  clear hb4 HV3 HX3 HY3 HQ3 HB3
                  obtain ⟨y0c, y1c, y2c, y3c⟩ := (unhide HQ4).c4.1
                  have yl := (unhide HQ4).2
                  have CH := hide (fun (w' : World) (h : VAt w' w.heap.size L K) => vhas_any y1 w' h)
                  have CS := hide (fun (w' : World) (h : VAt w' w.heap.size L K) => vsure_any y1 w' h)
                  rw [VaultM.has_good (unhide GL), VaultM.hasErr_good (unhide GL)] at CH
                  rw [VaultM.has_good (unhide GK), VaultM.hasErr_good (unhide GK)] at CS
                  have CI := hide (in_any y1)
                  cases hn : TagM.inB y1 with
                  | true =>
                    have CX := hide (fun (w' : World) (h : PRow w' x1 n1 c1 L) => ref_has y1 w' (len16 h (SpentM.err_zero.2 (unhide GL))) h)
                    have CY := hide (fun (w' : World) (h : PRow w' x2 n2 c2 K) => ref_has y1 w' (len16 h (SpentM.err_zero.2 (unhide GK))) h)
                    rw [hn, Bool.true_and, if_pos rfl, errV_zero rfl] at CH CS
                    rw [hn] at CI
                    generalize SpentM.hasB L y1 = bx at CH CX
                    generalize SpentM.hasB K y1 = by1 at CS CY
                    have hby : (by1 == by1) = true := by simp
                    have hbx : (bx == bx) = true := by simp
                    clear hn
                    go_wp2_with fail
                    refine (unhide CI _).mono ?_
                    rintro e w' ⟨rfl, hw⟩
                    obtain rfl := hw.symm
                    clear hw
                    go_wp2_with fail
                    refine (unhide CH _ (unhide HV4)).mono ?_
                    rintro e w5 ⟨rfl, hb5⟩
                    clear y0c y1c y2c y3c yl
                    have HV5 := hide ((unhide HV4).later hb5)
                    have HX5 := hide ((unhide HX4).later hb5)
                    have HY5 := hide ((unhide HY4).later hb5)
                    have HQ5 := hide ((unhide HQ4).later hb5)
                    have HB5 := hide (bel3 (unhide HB4) (Below.refl _ _) hb5)
                    clear hb5 HV4 HX4 HY4 HQ4 HB4
                    obtain ⟨y0c, y1c, y2c, y3c⟩ := (unhide HQ5).c4.1
                    have yl := (unhide HQ5).2
                    go_wp2_with fail
                    refine (unhide CS _ (unhide HV5)).mono ?_
                    rintro e w6 ⟨rfl, hb6⟩
                    clear y0c y1c y2c y3c yl
                    have HV6 := hide ((unhide HV5).later hb6)
                    have HX6 := hide ((unhide HX5).later hb6)
                    have HY6 := hide ((unhide HY5).later hb6)
                    have HQ6 := hide ((unhide HQ5).later hb6)
                    have HB6 := hide (bel3 (unhide HB5) (Below.refl _ _) hb6)
                    clear hb6 HV5 HX5 HY5 HQ5 HB5
                    obtain ⟨y0c, y1c, y2c, y3c⟩ := (unhide HQ6).c4.1
                    have yl := (unhide HQ6).2
                    go_wp2_with fail
                    refine (same_nil _ _).mono ?_
                    rintro e w7 ⟨rfl, hb7⟩
                    clear y0c y1c y2c y3c yl
                    have HV7 := hide ((unhide HV6).later hb7)
                    have HX7 := hide ((unhide HX6).later hb7)
                    have HY7 := hide ((unhide HY6).later hb7)
                    have HQ7 := hide ((unhide HQ6).later hb7)
                    have HB7 := hide (bel3 (unhide HB6) (Below.refl _ _) hb7)
                    clear hb7 HV6 HX6 HY6 HQ6 HB6
                    obtain ⟨y0c, y1c, y2c, y3c⟩ := (unhide HQ7).c4.1
                    have yl := (unhide HQ7).2
                    go_wp2_with fail
                    refine (unhide CX _ (unhide HX7)).mono ?_
                    rintro e w' ⟨rfl, hw⟩
                    obtain rfl := hw.symm
                    clear hw
                    go_wp2_with fail
                    refine (same_nil _ _).mono ?_
                    rintro e w8 ⟨rfl, hb8⟩
                    clear y0c y1c y2c y3c yl
                    have HV8 := hide ((unhide HV7).later hb8)
                    have HX8 := hide ((unhide HX7).later hb8)
                    have HY8 := hide ((unhide HY7).later hb8)
                    have HQ8 := hide ((unhide HQ7).later hb8)
                    have HB8 := hide (bel3 (unhide HB7) (Below.refl _ _) hb8)
                    clear hb8 HV7 HX7 HY7 HQ7 HB7
                    obtain ⟨y0c, y1c, y2c, y3c⟩ := (unhide HQ8).c4.1
                    have yl := (unhide HQ8).2
                    go_wp2_with fail
                    refine (unhide CY _ (unhide HY8)).mono ?_
                    rintro e w' ⟨rfl, hw⟩
                    obtain rfl := hw.symm
                    clear hw
                    clear y0c y1c y2c y3c yl
                    go_wp2
                    go_roundw
                    case rel => exact ⟨k + 1, L, K, x1, n1, c1, x2, n2, c2, by omega, by go_num, rfl, rfl, GL, GK, HX8, HY8, HV8, HB8⟩
                    case measure => simp [intOf]; omega
                  | false =>
                    rw [hn, Bool.false_and, if_neg (by simp), errV_pos (by omega)] at CH CS
                    rw [hn] at CI
                    clear hn
                    go_wp2_with fail
                    refine (unhide CI _).mono ?_
                    rintro e w' ⟨rfl, hw⟩
                    obtain rfl := hw.symm
                    clear hw
                    go_wp2_with fail
                    refine (unhide CH _ (unhide HV4)).mono ?_
                    rintro e w5 ⟨rfl, hb5⟩
                    clear y0c y1c y2c y3c yl
                    have HV5 := hide ((unhide HV4).later hb5)
                    have HX5 := hide ((unhide HX4).later hb5)
                    have HY5 := hide ((unhide HY4).later hb5)
                    have HQ5 := hide ((unhide HQ4).later hb5)
                    have HB5 := hide (bel3 (unhide HB4) (Below.refl _ _) hb5)
                    clear hb5 HV4 HX4 HY4 HQ4 HB4
                    obtain ⟨y0c, y1c, y2c, y3c⟩ := (unhide HQ5).c4.1
                    have yl := (unhide HQ5).2
                    go_wp2_with fail
                    refine (unhide CS _ (unhide HV5)).mono ?_
                    rintro e w6 ⟨rfl, hb6⟩
                    clear y0c y1c y2c y3c yl
                    have HV6 := hide ((unhide HV5).later hb6)
                    have HX6 := hide ((unhide HX5).later hb6)
                    have HY6 := hide ((unhide HY5).later hb6)
                    have HQ6 := hide ((unhide HQ5).later hb6)
                    have HB6 := hide (bel3 (unhide HB5) (Below.refl _ _) hb6)
                    clear hb6 HV5 HX5 HY5 HQ5 HB5
                    obtain ⟨y0c, y1c, y2c, y3c⟩ := (unhide HQ6).c4.1
                    have yl := (unhide HQ6).2
                    go_wp2_with fail
                    refine (same_errno _ _ _ ((unhide HG).later (unhide HB6))).mono ?_
                    rintro e w7 ⟨rfl, hb7⟩
                    clear y0c y1c y2c y3c yl
                    have HV7 := hide ((unhide HV6).later hb7)
                    have HX7 := hide ((unhide HX6).later hb7)
                    have HY7 := hide ((unhide HY6).later hb7)
                    have HQ7 := hide ((unhide HQ6).later hb7)
                    have HB7 := hide (bel3 (unhide HB6) (Below.refl _ _) hb7)
                    clear hb7 HV6 HX6 HY6 HQ6 HB6
                    obtain ⟨y0c, y1c, y2c, y3c⟩ := (unhide HQ7).c4.1
                    have yl := (unhide HQ7).2
                    go_wp2_with fail
                    refine (same_errno _ _ _ ((unhide HG).later (unhide HB7))).mono ?_
                    rintro e w8 ⟨rfl, hb8⟩
                    clear y0c y1c y2c y3c yl
                    have HV8 := hide ((unhide HV7).later hb8)
                    have HX8 := hide ((unhide HX7).later hb8)
                    have HY8 := hide ((unhide HY7).later hb8)
                    have HQ8 := hide ((unhide HQ7).later hb8)
                    have HB8 := hide (bel3 (unhide HB7) (Below.refl _ _) hb8)
                    clear hb8 HV7 HX7 HY7 HQ7 HB7
                    obtain ⟨y0c, y1c, y2c, y3c⟩ := (unhide HQ8).c4.1
                    have yl := (unhide HQ8).2
                    clear y0c y1c y2c y3c yl
                    go_wp2
                    go_roundw
                    case rel => exact ⟨k + 1, L, K, x1, n1, c1, x2, n2, c2, by omega, by go_num, rfl, rfl, GL, GK, HX8, HY8, HV8, HB8⟩
                    case measure => simp [intOf]; omega
      · go_wp2
        go_ret
        exact ⟨rfl, unhide HB⟩
    · go_wp2
      go_ret
      exact ⟨rfl, unhide HB⟩

theorem walk (a : Option Addr) (len cap : Nat) (A : Nat → Option Addr) (Lr C : Nat → Nat) (Z : Nat → List Int) (w : World) (hm : IsRows w a len cap A Lr C Z) (hg : ErrType w) :
    Calls Tryd.prog 3 #[.slice a len cap] w fun e w' => e = .returned (.bool true) ∧ Below w.heap.size w w' := walk1 a len cap A Lr C Z w hm hg


theorem gErr : Tryd.prog.globalNamed "errors.errorType" = some 0 := by kernel_rfl
theorem rtErr : (Tryd.prog.cutTypes.find? (·.1 == "internal/reflectlite.rtype")).map (·.2) = some 70 := by kernel_rfl
theorem oneRow : ((List.range 113).filter fun t => Tryd.prog.rowNamed t [101, 114, 114, 111, 114]) = [32] := by kernel_rfl
theorem sizeT : Tryd.prog.types.size = 113 := by kernel_rfl
theorem handle_of_laid {W : World} (h : laidMetH Tryd.prog Rows.vaultPlaysRow.laid W) : ErrType W := by
  have h' : laidMet Tryd.prog [] W ∧ handlesMet Tryd.prog Rows.vaultPlaysRow.laid W := h
  obtain ⟨name, u, ty, e1, e2, e3, e4, e5⟩ := h'.2 _ (List.mem_singleton.2 rfl)
  have en : name = [101, 114, 114, 111, 114] := (Option.some.inj e1).symm
  subst en
  obtain rfl := Option.some.inj (rtErr.symm.trans e2)
  have hm : ty ∈ (List.range 113).filter fun t => Tryd.prog.rowNamed t [101, 114, 114, 111, 114] := List.mem_filter.2 ⟨List.mem_range.2 (by rw [← sizeT]; exact e3), e4⟩
  rw [oneRow] at hm
  obtain rfl := List.mem_singleton.1 hm
  have hh : typeHandle Tryd.prog 32 = .pointer (some ⟨1, 32, none⟩) := by kernel_rfl
  rw [hh] at e5
  unfold ErrType
  simpa using World.var?_cell gErr e5 0
theorem door_met (os : Os) (args : Array Value) : laidMetH Tryd.prog Rows.vaultPlaysRow.laid ((World.doorLaid Tryd.prog 400 os).forCall (fun _ _ => 0) ⟨#[], args, []⟩).memory :=
  laidMetH_of_parts (laidMet_nil _ _) (by kernel_rfl)


set_option maxRecDepth 100000 in
theorem lifted (os : Os) (started : os.Started) (H : Type) (enc : TypeId × Value → H) :
    ReturnsInHanded {} Tryd.checked os 3 .any (fun w args => (Rows.vaultPlaysSpec.pre enc Tryd.prog Tryd.f3 [] false w args ∧ laidMetH Tryd.prog Rows.vaultPlaysRow.laid w) ∧ sizedMet enc Tryd.prog Tryd.f3 (OpenSpec.ofChange Rows.vaultPlaysSpec) false w args) (Rows.vaultPlaysSpec.post enc Tryd.prog Tryd.f3 false true false false) := by
  refine returnsInHanded_of_change_and (C := Tryd.checked) (X := fun w _ => laidMetH Tryd.prog Rows.vaultPlaysRow.laid w) (fun _ _ _ hh h => h.of_heap hh) own started (by kernel_rfl) Tryd.func3
    (ChangeSpec.witness_shaped (enc := enc) (C := Tryd.checked) (os := os) (X := fun w _ => laidMetH Tryd.prog Rows.vaultPlaysRow.laid w) false (World.doorLaid Tryd.prog 400 os) #[.slice none 0 0] 8 rfl (World.shaped_of_RefB (by kernel_rfl) (by kernel_rfl)) (by kernel_rfl) (by kernel_rfl) (by kernel_rfl) (door_met os _)) ?_
  intro W base args ds gs before hval0 hW _ hsz hL _
  have hg := handle_of_laid hL
  have hval : ∀ (j : Nat) t v, Tryd.f3.params[j]? = some t → args[j]? = some v → Value.okWide Tryd.prog W .any base t v := hval0
  have hW' := hW
  obtain ⟨p, q, hA0, hV, rfl, hfz, hnd⟩ := hW
  have hA : DataW.TrodAll enc Tryd.prog W 0 (fun _ => true) true Tryd.f3.params.toList args.toList ds p := hA0
  rw [Tryd.params3] at hA hval
  obtain ⟨v0, vs0, d0, ds0, p0, q0, hargs, rfl, rfl, h0, r0⟩ := trodAll_cons hA
  obtain ⟨rfl, rfl, rfl⟩ := trodAll_nil r0
  obtain rfl : args = #[v0] := by cases args; simp_all
  obtain ⟨rfl, rfl⟩ := trodVars_none hV
  have k0 := h0
  have lt0 : ∀ x ∈ p0, x.block < W.heap.size := by obtain ⟨m, hm⟩ := k0; exact DataW.trod_lt m _ _ _ hm
  obtain ⟨a0, len0, cap0, rfl⟩ := okWide_slice Tryd.underlying22 (hval 0 22 v0 rfl rfl)
  obtain ⟨A0, L0, C0, Z0, w0⟩ : ∃ A L C Z, IsRows W a0 len0 cap0 A L C Z := by
    obtain ⟨fuel, hf⟩ := h0
    rcases Go.Deep.open_int_rows Tryd.underlying22 Tryd.underlying27 Tryd.underlying3 (by kernel_rfl) (by kernel_rfl) hf with ⟨hcs, _⟩ | ⟨x, l, c, A, L, C, Z, hcs, _, hl, hm, _, hx⟩
    · simp [Value.cells] at hcs
      obtain ⟨rfl, rfl, rfl⟩ := hcs
      exact ⟨fun _ => none, fun _ => 0, fun _ => 0, fun _ => [], .inl ⟨rfl, rfl, rfl⟩⟩
    · simp [Value.cells] at hcs
      obtain ⟨rfl, rfl, rfl⟩ := hcs
      refine ⟨A, L, C, Z, .inr ⟨_, rfl, hl, hm, fun r hr => ?_⟩⟩
      obtain ⟨h1, h2, h3, h4, h5, h6, h7⟩ := hx r hr
      exact ⟨h1, h2, h3, h4, h5, h6, fun a' ha => (h7 a' ha).2⟩
  clear hA0 hval0
  refine (walk a0 len0 cap0 A0 L0 C0 Z0 W w0 hg).mono fun e W' ⟨he, bel⟩ => ?_
  subst he
  exact ⟨_, rfl, _, _, _, [], _, [], hW', trodAll_mk1 (shut_bool Tryd.underlying4 _), (trodAll_cons_mk (Below.trod laidOut (by kernel_rfl) (of_decide_eq_true (by kernel_rfl)) k0 bel lt0) trodAll_mk0), rfl, bel.frame _, fun h => by cases h⟩

theorem over : Rows.vaultPlaysRow.holds Tryd.pinned (OpenSpec.ofChange Rows.vaultPlaysSpec) :=
  OpenClaim.holds_of_wide 3 Tryd.f3 rfl rfl rfl rfl rfl rfl rfl ⟨rfl, rfl, rfl, rfl, rfl⟩ rfl rfl rfl rfl rfl (by kernel_rfl) Tryd.func3 (by kernel_rfl)
    (of_decide_eq_true (by kernel_rfl)) (by unfold Func.isWrapper; first | (rw [if_pos (by decide +kernel)]; kernel_rfl) | (rw [if_neg (by decide +kernel)]; exact ⟨rfl, rfl⟩))
    (fun os started H enc _ => lifted os started H enc)

theorem card : Rows.VaultPlaysCardSaid :=
  Claim7.holds_tied_plain_at .later [] [.handle] true (true, "346b328e0a40576764786fc5f50264c0f7c4b99b55a5fd45068852ec19aa8127") true
    over (fun _ h => by cases h) (by kernel_rfl) (fun _ h => by cases h) vaultPlays_row_tie rfl ⟨rfl, rfl⟩ (by kernel_rfl) rfl
    (fun f fn hf hfn => by
      obtain rfl : f = 3 := Option.some.inj ((show Tryd.prog.funcNamed "tokenfold/foldlaw2.VaultPlays" = some 3 by kernel_rfl).symm.trans hf) |>.symm
      obtain rfl : fn = Tryd.f3 := (Option.some.inj (Tryd.func3.symm.trans hfn)).symm
      exact ⟨by kernel_rfl, fun j t ht => by
        rw [Tryd.params3] at ht
        have hm : t ∈ [22] := by simpa using Array.mem_of_getElem? ht
        have hall : ([22].all fun u => !Tryd.prog.wantsStandIn u) = true := by kernel_rfl
        exact (show Tryd.prog.wantsStandIn t = false by simpa using List.all_eq_true.1 hall t hm)⟩)
    (by kernel_rfl)

end Go.Proofs.YtiklmcolodgnoaiDoor.vaultPlays
namespace Go.Proofs.YtiklmcolodgnoaiDoor
theorem vaultPlays_holds : Rows.VaultPlaysCardSaid := vaultPlays.card
#print axioms vaultPlays_holds
end Go.Proofs.YtiklmcolodgnoaiDoor

