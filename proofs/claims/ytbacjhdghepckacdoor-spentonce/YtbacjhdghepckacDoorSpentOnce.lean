/-
  SpentOnce holds for every list of what was spent, every number, all times and whatever is spent between: what was spent cannot be spent again up to its time, and is forgotten behind it. The listed variable errors.errorType starts as the program's text lays it (the card's tie). No other condition.
-/
import Derived.Test.YtbacjhdghepckacDoorSpendWalks
import Derived.Test.YtbacjhdghepckacDoorHeld
import Derived.Test.YtbacjhdghepckacDoorTie
import Derived.Test.YtbacjhdghepckacDoorCards
import Derived.ProofKit
import Derived.Lib.SmallJoins
import Derived.LaidMore
import Derived.LaidHandle
import Derived.LaidLaws
import Derived.Stop.Joined
import Derived.SevenTiedAt
import Derived.Deep.SlicePairs
import Derived.Deep.Matrix
namespace Go.Proofs.YtbacjhdghepckacDoor.spentOnce
open Go.ChangeShapes Go.WideShapes Go.ChangeAt Go.RowKit Go.Joins
set_option linter.unusedVariables false

theorem own : ownKnob Tryd.prog.godebug = none := by kernel_rfl
theorem laidOut : laidOutB Tryd.prog = true := by kernel_rfl
def IsRow (k : IntKind) (w : World) (a : Option Addr) (len cap : Nat) (zs : List Int) : Prop :=
  (a = none ∧ len = 0 ∧ cap = 0 ∧ zs = []) ∨
  ∃ x, a = some x ∧ len ≤ cap ∧ cap ≤ maxLen ∧ zs.length = cap ∧ (∀ i, i < zs.length → w.cell? (x.add i) = some (.int k (zs.getD i 0))) ∧ ∀ n ∈ zs, (Lit.int k n).wf = true
def IsPairs (w : World) (a : Option Addr) (len cap : Nat) (zs : List (Int × Int)) : Prop :=
  (a = none ∧ len = 0 ∧ cap = 0 ∧ zs = []) ∨
  ∃ x, a = some x ∧ len ≤ cap ∧ cap ≤ maxLen ∧ zs.length = cap ∧ ∀ i, i < cap → w.cell? (x.add (i * 2)) = some (.int .i64 (zs.getD i (0, 0)).1) ∧ w.cell? (x.add (i * 2 + 1)) = some (.int .i64 (zs.getD i (0, 0)).2)
def IsRows (w : World) (a : Option Addr) (len cap : Nat) (A : Nat → Option Addr) (L C : Nat → Nat) (Z : Nat → List Int) : Prop :=
  (a = none ∧ len = 0 ∧ cap = 0) ∨
  ∃ x, a = some x ∧ len ≤ cap ∧ cap ≤ maxLen ∧ ∀ r, r < cap → w.cell? (x.add r) = some (.slice (A r) (L r) (C r)) ∧ L r ≤ C r ∧ C r ≤ maxLen ∧ (Z r).length = C r ∧ (∀ n ∈ Z r, (Lit.int .i64 n).wf = true) ∧ (A r = none → C r = 0) ∧
    ∀ a', A r = some a' → ∀ c, c < C r → w.cell? (a'.add c) = some (.int .i64 ((Z r).getD c 0))

attribute [local go_sem ↓] Go.wp_at_zero Go.wp_at_succ

/-- A row of three numbers. -/
def Three (W : World) (ak : Option Addr) (lk : Nat) : Prop :=
  lk = 3 → ∃ b off x0 x1 x2, ak = some ⟨b, off, none⟩ ∧ W.cell? ⟨b, off, none⟩ = some (.int .i64 x0) ∧ W.cell? ⟨b, off + 1, none⟩ = some (.int .i64 x1) ∧ W.cell? ⟨b, off + 2, none⟩ = some (.int .i64 x2)
theorem Three.later {W W' : World} {ak : Option Addr} {lk : Nat} (h : Three W ak lk) (hb : Below W.heap.size W W') : Three W' ak lk := fun h3 => by
  obtain ⟨b, off, x0, x1, x2, e, c0, c1, c2⟩ := h h3
  exact ⟨b, off, x0, x1, x2, e, cell_later hb c0, cell_later hb c1, cell_later hb c2⟩
/-- What came in as rows: where they lie, and each of three numbers. -/
theorem rows_at {w : World} {a : Option Addr} {len cap : Nat} {A : Nat → Option Addr} {L C : Nat → Nat} {Z : Nat → List Int} (h : IsRows w a len cap A L C Z) (hz : 0 < len) :
    ∃ b off, a = some ⟨b, off, none⟩ ∧ ∀ r, r < len → w.cell? ⟨b, off + r, none⟩ = some (.slice (A r) (L r) (C r)) ∧ Three w (A r) (L r) := by
  rcases h with ⟨_, rfl, _⟩ | ⟨⟨b, off, spot⟩, rfl, hl, hm, hr⟩
  · omega
  · have hspot : spot = none := by simpa [Addr.add] using World.cell?_spot (hr 0 (by omega)).1
    subst hspot
    refine ⟨b, off, rfl, fun r hlt => ?_⟩
    obtain ⟨h1, h2, h3, h4, h5, h6, h7⟩ := hr r (by omega)
    rw [Go.WideShapes.add_plain] at h1
    refine ⟨h1, fun h33 => ?_⟩
    cases ha : A r with
    | none => have := h6 ha; omega
    | some a' =>
      obtain ⟨b', off', spot'⟩ := a'
      have q := h7 _ ha
      have hs' : spot' = none := by simpa [Addr.add] using World.cell?_spot (q 0 (by omega))
      subst hs'
      have q0 := q 0 (by omega)
      have q1 := q 1 (by omega)
      have q2 := q 2 (by omega)
      rw [Go.WideShapes.add_plain] at q0 q1 q2
      exact ⟨b', off', _, _, _, rfl, q0, q1, q2⟩
theorem reg_step4 {W W1 W2 : World} {c d0 d1 d2 : Addr} {v v0 v1 v2 : Value} (h : Hid (Below W.heap.size W W1) ∧ W1.cell? c = some v ∧ W1.cell? d0 = some v0 ∧ W1.cell? d1 = some v1 ∧ W1.cell? d2 = some v2) (hb : Below W1.heap.size W1 W2) :
    Hid (Below W.heap.size W W2) ∧ W2.cell? c = some v ∧ W2.cell? d0 = some v0 ∧ W2.cell? d1 = some v1 ∧ W2.cell? d2 = some v2 :=
  ⟨hide (Below.trans (unhide h.1) (hb.mono (unhide h.1).size)), cell_later hb h.2.1, cell_later hb h.2.2.1, cell_later hb h.2.2.2.1, cell_later hb h.2.2.2.2⟩
theorem reg_start4 {W : World} {c d0 d1 d2 : Addr} {v v0 v1 v2 : Value} (h : W.cell? c = some v) (h0 : W.cell? d0 = some v0) (h1 : W.cell? d1 = some v1) (h2 : W.cell? d2 = some v2) :
    Hid (Below W.heap.size W W.drew) ∧ W.drew.cell? c = some v ∧ W.drew.cell? d0 = some v0 ∧ W.drew.cell? d1 = some v1 ∧ W.drew.cell? d2 = some v2 :=
  ⟨hide ((Below.refl _ _).drew), by rw [World.cell?_drew]; exact h, by rw [World.cell?_drew]; exact h0, by rw [World.cell?_drew]; exact h1, by rw [World.cell?_drew]; exact h2⟩
theorem left_late {l : List (Int × Int)} {now : Int} {k : Nat} (h : k < (SpentM.left l now).length) : now ≤ ((SpentM.left l now).getD k (0, 0)).2 := by
  have hm : (SpentM.left l now).getD k (0, 0) ∈ SpentM.left l now := by simp [List.getD, h]
  simpa using (List.mem_filter.1 hm).2
theorem first1 : SpentM.spendErr [] 5 10 3 = 0 ∧ SpentM.spend [] 5 10 3 = [(5, 10)] := by decide +kernel
theorem first2 : SpentM.spendErr [(5, 10)] 5 20 10 = 7 := by decide +kernel
theorem first3 : SpentM.spendErr [(5, 10)] 5 20 11 = 0 ∧ SpentM.spend [(5, 10)] 5 20 11 = [(5, 20)] := by decide +kernel


set_option maxHeartbeats 3200000 in
set_option maxRecDepth 8000 in
theorem walk_bad {l : List (Int × Int)} {a : Option Addr} {len cap : Nat} (n till now : Int) (a4 : Option Addr) (len4 cap4 : Nat) (w : World) (hp : PRow w a len cap l) (he : ¬ SpentM.spendErr l n till now = 0) (hg : ErrType w) :
    Calls Tryd.prog 4 #[.slice a len cap, .int .i64 n, .int .i64 till, .int .i64 now, .slice a4 len4 cap4] w fun e w' => e = .returned (.bool true) ∧ Below w.heap.size w w' := by
  have C := hide (fun (W : World) (h : Below w.heap.size w W) => sspend_any n till now W (hp.later h))
  rw [SpentM.spend_no he, errV_pos he] at C
  generalize SpentM.spendErr l n till now = q at C
  clear he
  have HB0 := hide (Below.refl w.heap.size w)
  have P1 := hide (fun W => sspend_any 5 10 3 W (nil_row W))
  rw [first1.1, first1.2, errV_zero rfl] at P1
  have P2 := hide (fun (W : World) (a : Option Addr) (len cap : Nat) (hp : PRow W a len cap [(5, 10)]) => sspend_any 5 20 10 W hp)
  rw [SpentM.spend_no (by rw [first2]; omega), first2, errV_pos (by omega)] at P2
  have P3 := hide (fun (W : World) (a : Option Addr) (len cap : Nat) (hp : PRow W a len cap [(5, 10)]) => sspend_any 5 20 11 W hp)
  rw [first3.1, first3.2, errV_zero rfl] at P3
  have HG := hide hg
  have HP := hide hp
  clear hg hp
  go_enter Tryd.func4, Tryd.ntmps4
  go_wp2_with fail
  refine (unhide P1 _).mono ?_
  rintro e w1 ⟨o1, on, oc, rfl, ho, hb1⟩
  have HB1 := hide (bel3 (unhide HB0) (Below.refl _ _) hb1)
  have HO1 := hide ho
  clear hb1 ho
  go_wp2_with fail
  refine (unhide P2 _ _ _ _ (unhide HO1)).mono ?_
  rintro e w2 ⟨t1, tn, tc, rfl, -, hb2⟩
  have HO2 := hide ((unhide HO1).later hb2)
  have HB2 := hide (bel3 (unhide HB1) (Below.refl _ _) hb2)
  clear hb2
  go_wp2_with fail
  refine (unhide P3 _ _ _ _ (unhide HO2)).mono ?_
  rintro e w3 ⟨g1, gn, gc, rfl, hgn, hb3⟩
  have HO3 := hide ((unhide HO2).later hb3)
  have HB3 := hide (bel3 (unhide HB2) (Below.refl _ _) hb3)
  clear hb3
  obtain rfl : gn = 1 := hgn.1.symm
  clear hgn
  go_wp2_with fail
  refine (same_errno _ _ _ ((unhide HG).later (unhide HB3))).mono ?_
  rintro e w4 ⟨rfl, hb4⟩
  have HB4 := hide (bel3 (unhide HB3) (Below.refl _ _) hb4)
  clear hb4
  go_wp2_with fail
  refine (unhide C _ (unhide HB4)).mono ?_
  rintro e w5 ⟨x1, xn, xc, rfl, -, hb5⟩
  have HB5 := hide (bel3 (unhide HB4) (Below.refl _ _) hb5)
  clear hb5
  go_wp2
  go_ret
  exact ⟨rfl, unhide HB5⟩

set_option maxHeartbeats 12800000 in
set_option maxRecDepth 8000 in
theorem walk_good {l : List (Int × Int)} {a : Option Addr} {len cap : Nat} (n till now : Int) (a4 : Option Addr) (len4 cap4 : Nat) (A : Nat → Option Addr) (L C : Nat → Nat) (Z : Nat → List Int) (w : World) (hp : PRow w a len cap l) (hm : IsRows w a4 len4 cap4 A L C Z) (he : SpentM.spendErr l n till now = 0) (hg : ErrType w) :
    Calls Tryd.prog 4 #[.slice a len cap, .int .i64 n, .int .i64 till, .int .i64 now, .slice a4 len4 cap4] w fun e w' => e = .returned (.bool true) ∧ Below w.heap.size w w' := by
  have CC := hide (fun (W : World) (h : Below w.heap.size w W) => sspend_any n till now W (hp.later h))
  rw [he, errV_zero rfl] at CC
  have HGOOD := hide (SpentM.spend_good he)
  have HTHERE := hide (SpentM.spend_there he)
  obtain ⟨⟨-, hti, hno⟩, hnt, -⟩ := SpentM.rest_zero.1 (SpentM.spend_zero.1 he).2
  obtain ⟨ht0, ht1⟩ := (TokenM.timeB_iff till).1 hti
  have HNO := hide hno
  generalize SpentM.spend l n till now = X at CC HGOOD HTHERE
  have HM := hide (fun hz => rows_at hm hz)
  clear hm he hti hno
  have HB0 := hide (Below.refl w.heap.size w)
  have P1 := hide (fun W => sspend_any 5 10 3 W (nil_row W))
  rw [first1.1, first1.2, errV_zero rfl] at P1
  have P2 := hide (fun (W : World) (a : Option Addr) (len cap : Nat) (hp : PRow W a len cap [(5, 10)]) => sspend_any 5 20 10 W hp)
  rw [SpentM.spend_no (by rw [first2]; omega), first2, errV_pos (by omega)] at P2
  have P3 := hide (fun (W : World) (a : Option Addr) (len cap : Nat) (hp : PRow W a len cap [(5, 10)]) => sspend_any 5 20 11 W hp)
  rw [first3.1, first3.2, errV_zero rfl] at P3
  have HG := hide hg
  have HP := hide hp
  clear hg hp
  go_enter Tryd.func4, Tryd.ntmps4
  go_wp2_with fail
  refine (unhide P1 _).mono ?_
  rintro e w1 ⟨o1, on, oc, rfl, ho, hb1⟩
  have HB1 := hide (bel3 (unhide HB0) (Below.refl _ _) hb1)
  have HO1 := hide ho
  clear hb1 ho
  go_wp2_with fail
  refine (unhide P2 _ _ _ _ (unhide HO1)).mono ?_
  rintro e w2 ⟨t1, tn, tc, rfl, -, hb2⟩
  have HO2 := hide ((unhide HO1).later hb2)
  have HB2 := hide (bel3 (unhide HB1) (Below.refl _ _) hb2)
  clear hb2
  go_wp2_with fail
  refine (unhide P3 _ _ _ _ (unhide HO2)).mono ?_
  rintro e w3 ⟨g1, gn, gc, rfl, hgn, hb3⟩
  have HO3 := hide ((unhide HO2).later hb3)
  have HB3 := hide (bel3 (unhide HB2) (Below.refl _ _) hb3)
  clear hb3
  obtain rfl : gn = 1 := hgn.1.symm
  clear hgn
  go_wp2_with fail
  refine (same_errno _ _ _ ((unhide HG).later (unhide HB3))).mono ?_
  rintro e w4 ⟨rfl, hb4⟩
  have HB4 := hide (bel3 (unhide HB3) (Below.refl _ _) hb4)
  clear hb4
  go_wp2_with fail
  refine (unhide CC _ (unhide HB4)).mono ?_
  rintro e w5 ⟨x1, xn, xc, rfl, hx, hb5⟩
  have HB5 := hide (bel3 (unhide HB4) (Below.refl _ _) hb5)
  have HX5 := hide hx
  clear hb5 hx
  go_wp2
  go_loopw [17, 19, 20] (fun v t i wr => ∃ (k : Nat) (Q : List (Int × Int)) (aq : Option Addr) (mq cq : Nat) (tq : Int), k ≤ 30 ∧ i = .int .i64 k ∧ v = .slice aq mq cq ∧ t = .int .i64 tq ∧ Hid (PRow wr aq mq cq Q) ∧ Hid (SpentM.Good Q) ∧ Hid ((n, till) ∈ Q) ∧ Hid (TokenM.timeB tq = true) ∧ tq ≤ till ∧ Hid (Below w.heap.size w wr)) (fun _ _ i _ => 30 - (intOf i).toNat)
  case atStart => exact ⟨0, X, _, _, _, now, by omega, rfl, rfl, rfl, HX5, HGOOD, HTHERE, HNO, hnt, HB5⟩
  case round =>
    clear CC P1 P2 P3 HX5 HB5 HGOOD HTHERE HNO
    obtain ⟨k, Q, aq, mq, cq, tq, hk, rfl, rfl, rfl, HX0, HGQ, HTQ, htt, hle, HB0⟩ := hrel
    by_cases hgo : (k : Int) < (len4 : Int) ∧ (k : Int) < 30
    · obtain ⟨hkl, hk30⟩ := hgo
      obtain ⟨bm, om, rfl, hrow⟩ := unhide HM (by omega)
      obtain ⟨cm', three'⟩ := hrow k (by omega)
      have cm := cell_later (unhide HB0) cm'
      have three := three'.later (unhide HB0)
      clear hrow cm' three'
      generalize A k = ak at cm three
      generalize L k = lk at cm three
      generalize C k = ck at cm
      have hk0 : (0 : Int) ≤ (k : Int) := by omega
      by_cases h3 : lk = 3
      · subst h3
        obtain ⟨b3, o3, m0, m1, m2, rfl, d0, d1, d2⟩ := three rfl
        clear three
        by_cases hlt : m2 < tq
        · go_wp2
          go_roundw
          case rel => exact ⟨k + 1, Q, _, _, _, tq, by omega, by go_num, rfl, rfl, HX0, HGQ, HTQ, htt, hle, HB0⟩
          case measure => simp [intOf]; omega
        · have S1 := hide (fun (W : World) (h : PRow W aq mq cq Q) => sspend_any m0 m1 m2 W h)
          by_cases hE : SpentM.spendErr Q m0 m1 m2 = 0
          · rw [hE, errV_zero rfl] at S1
            have HG1 := hide (SpentM.spend_good hE)
            have HT1 := hide (fun (h : m2 ≤ till) => SpentM.spend_keeps hE (unhide HTQ) h)
            have htt := hide (SpentM.rest_zero.1 (SpentM.spend_zero.1 hE).2).1.2.2
            generalize SpentM.spend Q m0 m1 m2 = Q1 at S1 HG1 HT1
            clear hE
            go_wp2
            go_region_held3 (fun w' => Hid (Below wr.heap.size wr w') ∧ w'.cell? ⟨bm, om + k, none⟩ = some (.slice (some ⟨b3, o3, none⟩) 3 ck) ∧ w'.cell? ⟨b3, o3, none⟩ = some (.int .i64 m0) ∧ w'.cell? ⟨b3, o3 + 1, none⟩ = some (.int .i64 m1) ∧ w'.cell? ⟨b3, o3 + 2, none⟩ = some (.int .i64 m2)) (first | exact reg_step4 (by assumption) hb | exact reg_start4 cm d0 d1 d2)
              (first | (go_at_call 12; refine (unhide S1 _ ((unhide HX0).later (unhide (And.left ‹Hid (Below wr.heap.size wr _) ∧ _›)))).mono ?_; rintro e w' ⟨y1, yn, yc, rfl, hy, hb⟩))
            obtain ⟨hbs, cm, d0, d1, d2⟩ := ‹Hid (Below wr.heap.size wr _) ∧ _›
            have HB1 := hide (bel3 (unhide HB0) (Below.refl _ _) (unhide hbs))
            have HX1 := hide hy
            clear hbs hy
            by_cases hbr : till < m2
            · go_wp2_with fail
              clear cm d0 d1 d2
              have hu1 : till + 1 ≤ 100001 := by omega
              have D := hide (fun (W : World) (h : PRow W y1 yn yc Q1) => sdrop_any (till + 1) W h)
              have hD : SpentM.dropErr Q1 (till + 1) = if TokenM.timeB (till + 1) = true then 0 else 1 := by unfold SpentM.dropErr; rw [if_pos (SpentM.err_zero.2 (unhide HG1))]
              unfold SpentM.drop at D
              rw [hD] at D
              clear hD
              by_cases hend : till = 100000
              · rw [if_neg (by rw [TokenM.timeB_iff]; omega), SpentM.told_pos (by omega), errV_pos (by omega)] at D
                subst hend
                rw [show (100000 : Int) + 1 = 100001 from rfl] at D
                go_wp2_with fail
                refine (unhide D _ (unhide HX1)).mono ?_
                rintro e w2 ⟨y1, yn, yc, rfl, -, hb2⟩
                have HX2 := hide ((unhide HX1).later hb2)
                have HB2 := hide (bel3 (unhide HB1) (Below.refl _ _) hb2)
                clear hb2
                go_wp2_with fail
                refine (same_errno _ _ _ ((unhide HG).later (unhide HB2))).mono ?_
                rintro e w3 ⟨rfl, hb3⟩
                have HX3 := hide ((unhide HX2).later hb3)
                have HB3 := hide (bel3 (unhide HB2) (Below.refl _ _) hb3)
                clear hb3
                go_wp2
                go_ret
                exact ⟨rfl, unhide HB3⟩
              · rw [if_pos ((TokenM.timeB_iff _).2 (by omega)), SpentM.told_zero rfl, errV_zero rfl] at D
                have hend' : (till == 100000) = false := by simp [hend]
                have HLATE := hide (fun k (hk : k < (SpentM.left Q1 (till + 1)).length) => left_late hk)
                have HSH := hide (show (SpentM.left Q1 (till + 1)).length ≤ 16 from ((unhide HG1).left (till + 1)).1)
                generalize SpentM.left Q1 (till + 1) = Y at D HLATE HSH
                go_wp2_with fail
                refine (unhide D _ (unhide HX1)).mono ?_
                rintro e w2 ⟨y1, yn, yc, rfl, hy, hb2⟩
                have HX2 := hide ((unhide HX1).later hb2)
                have HB2 := hide (bel3 (unhide HB1) (Below.refl _ _) hb2)
                have HY2 := hide hy
                clear hb2 hy
                have HYL := hide (unhide HY2).1
                have hyn : yn ≤ 16 := by have := unhide HYL; have := unhide HSH; omega
                go_wp2
                go_loop [29] (fun v => ∃ j : Nat, j ≤ yn ∧ v = .int .i64 j) (fun v => yn - (intOf v).toNat)
                case atStart => exact ⟨0, Nat.zero_le _, rfl⟩
                case round =>
                  obtain ⟨j, hj, rfl⟩ := hrel
                  by_cases hjy : j < yn
                  · obtain ⟨by1, oy1, rfl, c1, c2⟩ := (unhide HY2).2.2 j (by rw [unhide HYL]; exact hjy)
                    have hlt := unhide HLATE j (by rw [unhide HYL]; exact hjy)
                    generalize Y.getD j (0, 0) = s at c1 c2 hlt
                    obtain ⟨x, t⟩ := s
                    dsimp only at c1 c2 hlt
                    have hnot : ¬ t ≤ till := by omega
                    go_wp2
                    go_round
                    case rel => exact ⟨j + 1, by omega, by go_num⟩
                    case measure => simp [intOf]; omega
                  · go_wp2
                    go_ret
                    exact ⟨rfl, unhide HB2⟩
            · have A1 := hide (fun (W : World) (h : PRow W y1 yn yc Q1) => shas_any n W h)
              rw [(SpentM.has_there (unhide HG1) (unhide HT1 (by omega))).1, (SpentM.has_there (unhide HG1) (unhide HT1 (by omega))).2, errV_zero rfl] at A1
              have A2 := hide (fun (W : World) (h : PRow W y1 yn yc Q1) => sspend_any n till m2 W h)
              have h7 := SpentM.again_there (now := m2) (unhide HG1) (unhide HT1 (by omega)) (unhide htt) (by omega)
              rw [SpentM.spend_no (by rw [h7]; omega), h7, errV_pos (by omega)] at A2
              have A3 := hide (fun (W : World) (h : PRow W y1 yn yc Q1) => scheck_any W h)
              rw [SpentM.err_zero.2 (unhide HG1), errV_zero rfl] at A3
              clear h7
              go_wp2_with fail
              refine (unhide A1 _ (unhide HX1)).mono ?_
              rintro e w2 ⟨rfl, hb2⟩
              have HX2 := hide ((unhide HX1).later hb2)
              have HB2 := hide (bel3 (unhide HB1) (Below.refl _ _) hb2)
              clear hb2
              go_wp2_with fail
              refine (unhide A2 _ (unhide HX2)).mono ?_
              rintro e w3 ⟨z1, zn, zc, rfl, -, hb3⟩
              have HX3 := hide ((unhide HX2).later hb3)
              have HB3 := hide (bel3 (unhide HB2) (Below.refl _ _) hb3)
              clear hb3
              go_wp2_with fail
              refine (same_errno _ _ _ ((unhide HG).later (unhide HB3))).mono ?_
              rintro e w4 ⟨rfl, hb4⟩
              have HX4 := hide ((unhide HX3).later hb4)
              have HB4 := hide (bel3 (unhide HB3) (Below.refl _ _) hb4)
              clear hb4
              go_wp2_with fail
              refine (unhide A3 _ (unhide HX4)).mono ?_
              rintro e w5 ⟨rfl, hb5⟩
              have HX5 := hide ((unhide HX4).later hb5)
              have HB5 := hide (bel3 (unhide HB4) (Below.refl _ _) hb5)
              clear hb5
              go_wp2
              go_roundw
              case rel => exact ⟨k + 1, Q1, _, _, _, m2, by omega, by go_num, rfl, rfl, HX5, hide (unhide HG1), hide (unhide HT1 (by omega)), htt, by omega, HB5⟩
              case measure => simp [intOf]; omega
          · rw [errV_pos hE] at S1
            generalize SpentM.spendErr Q m0 m1 m2 = qe at S1
            generalize SpentM.spend Q m0 m1 m2 = Q1 at S1
            clear hE
            go_wp2
            go_region_held3 (fun w' => Hid (Below wr.heap.size wr w') ∧ w'.cell? ⟨bm, om + k, none⟩ = some (.slice (some ⟨b3, o3, none⟩) 3 ck) ∧ w'.cell? ⟨b3, o3, none⟩ = some (.int .i64 m0) ∧ w'.cell? ⟨b3, o3 + 1, none⟩ = some (.int .i64 m1) ∧ w'.cell? ⟨b3, o3 + 2, none⟩ = some (.int .i64 m2)) (first | exact reg_step4 (by assumption) hb | exact reg_start4 cm d0 d1 d2)
              (first | (go_at_call 12; refine (unhide S1 _ ((unhide HX0).later (unhide (And.left ‹Hid (Below wr.heap.size wr _) ∧ _›)))).mono ?_; rintro e w' ⟨y1, yn, yc, rfl, hy, hb⟩))
            obtain ⟨hbs, cm, d0, d1, d2⟩ := ‹Hid (Below wr.heap.size wr _) ∧ _›
            have HB1 := hide (bel3 (unhide HB0) (Below.refl _ _) (unhide hbs))
            have HX1 := hide ((unhide HX0).later (unhide hbs))
            clear hbs hy
            have hbr : ¬ till < tq := by omega
            have A1 := hide (fun (W : World) (h : PRow W aq mq cq Q) => shas_any n W h)
            rw [(SpentM.has_there (unhide HGQ) (unhide HTQ)).1, (SpentM.has_there (unhide HGQ) (unhide HTQ)).2, errV_zero rfl] at A1
            have A2 := hide (fun (W : World) (h : PRow W aq mq cq Q) => sspend_any n till tq W h)
            have h7 := SpentM.again_there (now := tq) (unhide HGQ) (unhide HTQ) (unhide htt) (by omega)
            rw [SpentM.spend_no (by rw [h7]; omega), h7, errV_pos (by omega)] at A2
            have A3 := hide (fun (W : World) (h : PRow W aq mq cq Q) => scheck_any W h)
            rw [SpentM.err_zero.2 (unhide HGQ), errV_zero rfl] at A3
            clear h7
            go_wp2_with fail
            refine (unhide A1 _ (unhide HX1)).mono ?_
            rintro e w2 ⟨rfl, hb2⟩
            have HX2 := hide ((unhide HX1).later hb2)
            have HB2 := hide (bel3 (unhide HB1) (Below.refl _ _) hb2)
            clear hb2
            go_wp2_with fail
            refine (unhide A2 _ (unhide HX2)).mono ?_
            rintro e w3 ⟨z1, zn, zc, rfl, -, hb3⟩
            have HX3 := hide ((unhide HX2).later hb3)
            have HB3 := hide (bel3 (unhide HB2) (Below.refl _ _) hb3)
            clear hb3
            go_wp2_with fail
            refine (same_errno _ _ _ ((unhide HG).later (unhide HB3))).mono ?_
            rintro e w4 ⟨rfl, hb4⟩
            have HX4 := hide ((unhide HX3).later hb4)
            have HB4 := hide (bel3 (unhide HB3) (Below.refl _ _) hb4)
            clear hb4
            go_wp2_with fail
            refine (unhide A3 _ (unhide HX4)).mono ?_
            rintro e w5 ⟨rfl, hb5⟩
            have HX5 := hide ((unhide HX4).later hb5)
            have HB5 := hide (bel3 (unhide HB4) (Below.refl _ _) hb5)
            clear hb5
            go_wp2
            go_roundw
            case rel => exact ⟨k + 1, Q, _, _, _, tq, by omega, by go_num, rfl, rfl, HX5, hide (unhide HGQ), hide (unhide HTQ), htt, by omega, HB5⟩
            case measure => simp [intOf]; omega
      · have h3' : ¬ (lk : Int) = 3 := by omega
        have h3'' : ((lk : Int) == 3) = false := by simp; omega
        clear three
        go_wp2
        go_roundw
        case rel => exact ⟨k + 1, Q, _, _, _, tq, by omega, by go_num, rfl, rfl, HX0, HGQ, HTQ, htt, hle, HB0⟩
        case measure => simp [intOf]; omega
    · by_cases hkl : (k : Int) < (len4 : Int)
      · have hk30 : ¬ (k : Int) < 30 := fun h => hgo ⟨hkl, h⟩
        clear hgo
        have hu1 : till + 1 ≤ 100001 := by omega
        have D := hide (fun (W : World) (h : PRow W aq mq cq Q) => sdrop_any (till + 1) W h)
        have hD : SpentM.dropErr Q (till + 1) = if TokenM.timeB (till + 1) = true then 0 else 1 := by unfold SpentM.dropErr; rw [if_pos (SpentM.err_zero.2 (unhide HGQ))]
        unfold SpentM.drop at D
        rw [hD] at D
        clear hD
        by_cases hend : till = 100000
        · rw [if_neg (by rw [TokenM.timeB_iff]; omega), SpentM.told_pos (by omega), errV_pos (by omega)] at D
          subst hend
          rw [show (100000 : Int) + 1 = 100001 from rfl] at D
          go_wp2_with fail
          refine (unhide D _ (unhide HX0)).mono ?_
          rintro e w1 ⟨y1, yn, yc, rfl, -, hb1⟩
          have HX1 := hide ((unhide HX0).later hb1)
          have HB1 := hide (bel3 (unhide HB0) (Below.refl _ _) hb1)
          clear hb1
          go_wp2_with fail
          refine (same_errno _ _ _ ((unhide HG).later (unhide HB1))).mono ?_
          rintro e w2 ⟨rfl, hb2⟩
          have HX2 := hide ((unhide HX1).later hb2)
          have HB2 := hide (bel3 (unhide HB1) (Below.refl _ _) hb2)
          clear hb2
          go_wp2
          go_ret
          exact ⟨rfl, unhide HB2⟩
        · rw [if_pos ((TokenM.timeB_iff _).2 (by omega)), SpentM.told_zero rfl, errV_zero rfl] at D
          have hend' : (till == 100000) = false := by simp [hend]
          have HLATE := hide (fun k (hk : k < (SpentM.left Q (till + 1)).length) => left_late hk)
          have HSH := hide (show (SpentM.left Q (till + 1)).length ≤ 16 from ((unhide HGQ).left (till + 1)).1)
          generalize SpentM.left Q (till + 1) = Y at D HLATE HSH
          go_wp2_with fail
          refine (unhide D _ (unhide HX0)).mono ?_
          rintro e w1 ⟨y1, yn, yc, rfl, hy, hb1⟩
          have HX1 := hide ((unhide HX0).later hb1)
          have HB1 := hide (bel3 (unhide HB0) (Below.refl _ _) hb1)
          have HY1 := hide hy
          clear hb1 hy
          have HYL := hide (unhide HY1).1
          have hyn : yn ≤ 16 := by have := unhide HYL; have := unhide HSH; omega
          go_wp2
          go_loop [29] (fun v => ∃ j : Nat, j ≤ yn ∧ v = .int .i64 j) (fun v => yn - (intOf v).toNat)
          case atStart => exact ⟨0, Nat.zero_le _, rfl⟩
          case round =>
            obtain ⟨j, hj, rfl⟩ := hrel
            by_cases hjy : j < yn
            · obtain ⟨by1, oy1, rfl, c1, c2⟩ := (unhide HY1).2.2 j (by rw [unhide HYL]; exact hjy)
              have hlt := unhide HLATE j (by rw [unhide HYL]; exact hjy)
              generalize Y.getD j (0, 0) = s at c1 c2 hlt
              obtain ⟨x, t⟩ := s
              dsimp only at c1 c2 hlt
              have hnot : ¬ t ≤ till := by omega
              go_wp2
              go_round
              case rel => exact ⟨j + 1, by omega, by go_num⟩
              case measure => simp [intOf]; omega
            · go_wp2
              go_ret
              exact ⟨rfl, unhide HB1⟩
      · clear hgo
        have hu1 : till + 1 ≤ 100001 := by omega
        have D := hide (fun (W : World) (h : PRow W aq mq cq Q) => sdrop_any (till + 1) W h)
        have hD : SpentM.dropErr Q (till + 1) = if TokenM.timeB (till + 1) = true then 0 else 1 := by unfold SpentM.dropErr; rw [if_pos (SpentM.err_zero.2 (unhide HGQ))]
        unfold SpentM.drop at D
        rw [hD] at D
        clear hD
        by_cases hend : till = 100000
        · rw [if_neg (by rw [TokenM.timeB_iff]; omega), SpentM.told_pos (by omega), errV_pos (by omega)] at D
          subst hend
          rw [show (100000 : Int) + 1 = 100001 from rfl] at D
          go_wp2_with fail
          refine (unhide D _ (unhide HX0)).mono ?_
          rintro e w1 ⟨y1, yn, yc, rfl, -, hb1⟩
          have HX1 := hide ((unhide HX0).later hb1)
          have HB1 := hide (bel3 (unhide HB0) (Below.refl _ _) hb1)
          clear hb1
          go_wp2_with fail
          refine (same_errno _ _ _ ((unhide HG).later (unhide HB1))).mono ?_
          rintro e w2 ⟨rfl, hb2⟩
          have HX2 := hide ((unhide HX1).later hb2)
          have HB2 := hide (bel3 (unhide HB1) (Below.refl _ _) hb2)
          clear hb2
          go_wp2
          go_ret
          exact ⟨rfl, unhide HB2⟩
        · rw [if_pos ((TokenM.timeB_iff _).2 (by omega)), SpentM.told_zero rfl, errV_zero rfl] at D
          have hend' : (till == 100000) = false := by simp [hend]
          have HLATE := hide (fun k (hk : k < (SpentM.left Q (till + 1)).length) => left_late hk)
          have HSH := hide (show (SpentM.left Q (till + 1)).length ≤ 16 from ((unhide HGQ).left (till + 1)).1)
          generalize SpentM.left Q (till + 1) = Y at D HLATE HSH
          go_wp2_with fail
          refine (unhide D _ (unhide HX0)).mono ?_
          rintro e w1 ⟨y1, yn, yc, rfl, hy, hb1⟩
          have HX1 := hide ((unhide HX0).later hb1)
          have HB1 := hide (bel3 (unhide HB0) (Below.refl _ _) hb1)
          have HY1 := hide hy
          clear hb1 hy
          have HYL := hide (unhide HY1).1
          have hyn : yn ≤ 16 := by have := unhide HYL; have := unhide HSH; omega
          go_wp2
          go_loop [29] (fun v => ∃ j : Nat, j ≤ yn ∧ v = .int .i64 j) (fun v => yn - (intOf v).toNat)
          case atStart => exact ⟨0, Nat.zero_le _, rfl⟩
          case round =>
            obtain ⟨j, hj, rfl⟩ := hrel
            by_cases hjy : j < yn
            · obtain ⟨by1, oy1, rfl, c1, c2⟩ := (unhide HY1).2.2 j (by rw [unhide HYL]; exact hjy)
              have hlt := unhide HLATE j (by rw [unhide HYL]; exact hjy)
              generalize Y.getD j (0, 0) = s at c1 c2 hlt
              obtain ⟨x, t⟩ := s
              dsimp only at c1 c2 hlt
              have hnot : ¬ t ≤ till := by omega
              go_wp2
              go_round
              case rel => exact ⟨j + 1, by omega, by go_num⟩
              case measure => simp [intOf]; omega
            · go_wp2
              go_ret
              exact ⟨rfl, unhide HB1⟩

theorem walk (a0 : Option Addr) (len0 cap0 : Nat) (z0 : List (Int × Int)) (n till now : Int) (a4 : Option Addr) (len4 cap4 : Nat) (A : Nat → Option Addr) (L C : Nat → Nat) (Z : Nat → List Int) (w : World) (w0 : IsPairs w a0 len0 cap0 z0) (w1 : (Lit.int .i64 n).wf = true) (w2 : (Lit.int .i64 till).wf = true) (w3 : (Lit.int .i64 now).wf = true) (w4 : IsRows w a4 len4 cap4 A L C Z) (hg : ErrType w) :
    Calls Tryd.prog 4 #[.slice a0 len0 cap0, .int .i64 n, .int .i64 till, .int .i64 now, .slice a4 len4 cap4] w fun e w' => e = .returned (.bool true) ∧ Below w.heap.size w w' := by
  obtain ⟨l, hp⟩ := row_pairs w0
  by_cases he : SpentM.spendErr l n till now = 0
  · exact walk_good n till now a4 len4 cap4 A L C Z w hp w4 he hg
  · exact walk_bad n till now a4 len4 cap4 w hp he hg


theorem gErr : Tryd.prog.globalNamed "errors.errorType" = some 0 := by kernel_rfl
theorem rtErr : (Tryd.prog.cutTypes.find? (·.1 == "internal/reflectlite.rtype")).map (·.2) = some 80 := by kernel_rfl
theorem oneRow : ((List.range 123).filter fun t => Tryd.prog.rowNamed t [101, 114, 114, 111, 114]) = [26] := by kernel_rfl
theorem sizeT : Tryd.prog.types.size = 123 := by kernel_rfl
theorem handle_of_laid {W : World} (h : laidMetH Tryd.prog Rows.spentOnceRow.laid W) : ErrType W := by
  have h' : laidMet Tryd.prog [] W ∧ handlesMet Tryd.prog Rows.spentOnceRow.laid W := h
  obtain ⟨name, u, ty, e1, e2, e3, e4, e5⟩ := h'.2 _ (List.mem_singleton.2 rfl)
  have en : name = [101, 114, 114, 111, 114] := (Option.some.inj e1).symm
  subst en
  obtain rfl := Option.some.inj (rtErr.symm.trans e2)
  have hm : ty ∈ (List.range 123).filter fun t => Tryd.prog.rowNamed t [101, 114, 114, 111, 114] := List.mem_filter.2 ⟨List.mem_range.2 (by rw [← sizeT]; exact e3), e4⟩
  rw [oneRow] at hm
  obtain rfl := List.mem_singleton.1 hm
  have hh : typeHandle Tryd.prog 26 = .pointer (some ⟨1, 26, none⟩) := by kernel_rfl
  rw [hh] at e5
  unfold ErrType
  simpa using World.var?_cell gErr e5 0
theorem door_met (os : Os) (args : Array Value) : laidMetH Tryd.prog Rows.spentOnceRow.laid ((World.doorLaid Tryd.prog 400 os).forCall (fun _ _ => 0) ⟨#[], args, []⟩).memory :=
  laidMetH_of_parts (laidMet_nil _ _) (by kernel_rfl)


set_option maxRecDepth 100000 in
theorem lifted (os : Os) (started : os.Started) (H : Type) (enc : TypeId × Value → H) :
    ReturnsInHanded {} Tryd.checked os 4 .any (fun w args => (Rows.spentOnceSpec.pre enc Tryd.prog Tryd.f4 [] false w args ∧ laidMetH Tryd.prog Rows.spentOnceRow.laid w) ∧ sizedMet enc Tryd.prog Tryd.f4 (OpenSpec.ofChange Rows.spentOnceSpec) false w args) (Rows.spentOnceSpec.post enc Tryd.prog Tryd.f4 false true false false) := by
  refine returnsInHanded_of_change_and (C := Tryd.checked) (X := fun w _ => laidMetH Tryd.prog Rows.spentOnceRow.laid w) (fun _ _ _ hh h => h.of_heap hh) own started (by kernel_rfl) Tryd.func4
    (ChangeSpec.witness_shaped (enc := enc) (C := Tryd.checked) (os := os) (X := fun w _ => laidMetH Tryd.prog Rows.spentOnceRow.laid w) false (World.doorLaid Tryd.prog 400 os) #[.slice none 0 0, .int .i64 0, .int .i64 0, .int .i64 0, .slice none 0 0] 8 rfl (World.shaped_of_RefB (by kernel_rfl) (by kernel_rfl)) (by kernel_rfl) (by kernel_rfl) (by kernel_rfl) (door_met os _)) ?_
  intro W base args ds gs before hval0 hW _ hsz hL _
  have hg := handle_of_laid hL
  have hval : ∀ (j : Nat) t v, Tryd.f4.params[j]? = some t → args[j]? = some v → Value.okWide Tryd.prog W .any base t v := hval0
  have hW' := hW
  obtain ⟨p, q, hA0, hV, rfl, hfz, hnd⟩ := hW
  have hA : DataW.TrodAll enc Tryd.prog W 0 (fun _ => true) true Tryd.f4.params.toList args.toList ds p := hA0
  rw [Tryd.params4] at hA hval
  obtain ⟨v0, vs0, d0, ds0, p0, q0, hargs, rfl, rfl, h0, r0⟩ := trodAll_cons hA
  obtain ⟨v1, vs1, d1, ds1, p1, q1, rfl, rfl, rfl, h1, r1⟩ := trodAll_cons r0
  obtain ⟨v2, vs2, d2, ds2, p2, q2, rfl, rfl, rfl, h2, r2⟩ := trodAll_cons r1
  obtain ⟨v3, vs3, d3, ds3, p3, q3, rfl, rfl, rfl, h3, r3⟩ := trodAll_cons r2
  obtain ⟨v4, vs4, d4, ds4, p4, q4, rfl, rfl, rfl, h4, r4⟩ := trodAll_cons r3
  obtain ⟨rfl, rfl, rfl⟩ := trodAll_nil r4
  obtain rfl : args = #[v0, v1, v2, v3, v4] := by cases args; simp_all
  obtain ⟨rfl, rfl⟩ := trodVars_none hV
  have k0 := h0
  have lt0 : ∀ x ∈ p0, x.block < W.heap.size := by obtain ⟨m, hm⟩ := k0; exact DataW.trod_lt m _ _ _ hm
  obtain ⟨a0, len0, cap0, rfl⟩ := okWide_slice Tryd.underlying22 (hval 0 22 v0 rfl rfl)
  obtain ⟨z0, w0⟩ : ∃ zs, IsPairs W a0 len0 cap0 zs := by
    obtain ⟨fuel, hf⟩ := h0
    rcases Go.Deep.open_slice_pairs Tryd.underlying22 Tryd.underlying43 (by kernel_rfl) rfl rfl (by kernel_rfl) (by kernel_rfl) hf with ⟨hcs, _⟩ | ⟨x, l, c, m, n, V0, V1, D0, D1, P0, P1, hcs, _, hl, hm, hmm, _, hx⟩
    · simp [Value.cells] at hcs
      obtain ⟨rfl, rfl, rfl⟩ := hcs
      exact ⟨[], .inl ⟨rfl, rfl, rfl, rfl⟩⟩
    · simp [Value.cells] at hcs
      obtain ⟨rfl, rfl, rfl⟩ := hcs
      have hmc : m = cap0 := by simpa using hmm
      subst hmc
      have each : ∀ i, i < m → ∃ q : Int × Int, V0 i = .int .i64 q.1 ∧ V1 i = .int .i64 q.2 := fun i hi => by
        obtain ⟨_, _, g0, g1⟩ := hx i hi
        obtain ⟨y0, e0, _, _⟩ := DataW.trod_int Tryd.underlying3 g0
        obtain ⟨y1, e1, _, _⟩ := DataW.trod_int Tryd.underlying3 g1
        simp at e0 e1
        exact ⟨(y0, y1), e0, e1⟩
      obtain ⟨q, hq⟩ := Go.Deep.choose_lt each
      refine ⟨(List.range m).map q, .inr ⟨_, rfl, hl, hm, by simp, fun i hi => ?_⟩⟩
      obtain ⟨c0, c1, _, _⟩ := hx i hi
      obtain ⟨q0, q1⟩ := hq i hi
      rw [c0, c1, q0, q1]
      simp [List.getD, hi]
  have k1 := h1
  have lt1 : ∀ x ∈ p1, x.block < W.heap.size := by obtain ⟨m, hm⟩ := k1; exact DataW.trod_lt m _ _ _ hm
  obtain ⟨a1, rfl, rfl, rfl, w1⟩ := open_int Tryd.underlying3 (hval 1 3 v1 rfl rfl) h1
  have k2 := h2
  have lt2 : ∀ x ∈ p2, x.block < W.heap.size := by obtain ⟨m, hm⟩ := k2; exact DataW.trod_lt m _ _ _ hm
  obtain ⟨a2, rfl, rfl, rfl, w2⟩ := open_int Tryd.underlying3 (hval 2 3 v2 rfl rfl) h2
  have k3 := h3
  have lt3 : ∀ x ∈ p3, x.block < W.heap.size := by obtain ⟨m, hm⟩ := k3; exact DataW.trod_lt m _ _ _ hm
  obtain ⟨a3, rfl, rfl, rfl, w3⟩ := open_int Tryd.underlying3 (hval 3 3 v3 rfl rfl) h3
  have k4 := h4
  have lt4 : ∀ x ∈ p4, x.block < W.heap.size := by obtain ⟨m, hm⟩ := k4; exact DataW.trod_lt m _ _ _ hm
  obtain ⟨a4, len4, cap4, rfl⟩ := okWide_slice Tryd.underlying40 (hval 4 40 v4 rfl rfl)
  obtain ⟨A4, L4, C4, Z4, w4⟩ : ∃ A L C Z, IsRows W a4 len4 cap4 A L C Z := by
    obtain ⟨fuel, hf⟩ := h4
    rcases Go.Deep.open_int_rows Tryd.underlying40 Tryd.underlying41 Tryd.underlying3 (by kernel_rfl) (by kernel_rfl) hf with ⟨hcs, _⟩ | ⟨x, l, c, A, L, C, Z, hcs, _, hl, hm, _, hx⟩
    · simp [Value.cells] at hcs
      obtain ⟨rfl, rfl, rfl⟩ := hcs
      exact ⟨fun _ => none, fun _ => 0, fun _ => 0, fun _ => [], .inl ⟨rfl, rfl, rfl⟩⟩
    · simp [Value.cells] at hcs
      obtain ⟨rfl, rfl, rfl⟩ := hcs
      refine ⟨A, L, C, Z, .inr ⟨_, rfl, hl, hm, fun r hr => ?_⟩⟩
      obtain ⟨h1, h2, h3, h4, h5, h6, h7⟩ := hx r hr
      exact ⟨h1, h2, h3, h4, h5, h6, fun a' ha => (h7 a' ha).2⟩
  clear hA0 hval0
  refine (walk a0 len0 cap0 z0 a1 a2 a3 a4 len4 cap4 A4 L4 C4 Z4 W w0 w1 w2 w3 w4 hg).mono fun e W' ⟨he, bel⟩ => ?_
  subst he
  exact ⟨_, rfl, _, _, _, [], _, [], hW', trodAll_mk1 (shut_bool Tryd.underlying4 _), (trodAll_cons_mk (Below.trod laidOut (by kernel_rfl) (of_decide_eq_true (by kernel_rfl)) k0 bel lt0) (trodAll_cons_mk (Below.trod laidOut (by kernel_rfl) (of_decide_eq_true (by kernel_rfl)) k1 bel lt1) (trodAll_cons_mk (Below.trod laidOut (by kernel_rfl) (of_decide_eq_true (by kernel_rfl)) k2 bel lt2) (trodAll_cons_mk (Below.trod laidOut (by kernel_rfl) (of_decide_eq_true (by kernel_rfl)) k3 bel lt3) (trodAll_cons_mk (Below.trod laidOut (by kernel_rfl) (of_decide_eq_true (by kernel_rfl)) k4 bel lt4) trodAll_mk0))))), rfl, bel.frame _, fun h => by cases h⟩

theorem over : Rows.spentOnceRow.holds Tryd.pinned (OpenSpec.ofChange Rows.spentOnceSpec) :=
  OpenClaim.holds_of_wide 4 Tryd.f4 rfl rfl rfl rfl rfl rfl rfl ⟨rfl, rfl, rfl, rfl, rfl⟩ rfl rfl rfl rfl rfl (by kernel_rfl) Tryd.func4 (by kernel_rfl)
    (of_decide_eq_true (by kernel_rfl)) (by unfold Func.isWrapper; first | (rw [if_pos (by decide +kernel)]; kernel_rfl) | (rw [if_neg (by decide +kernel)]; exact ⟨rfl, rfl⟩))
    (fun os started H enc _ => lifted os started H enc)

theorem card : Rows.SpentOnceCardSaid :=
  Claim7.holds_tied_plain_at .later [] [.handle] true (true, "e8cbe923d7c0575d3f6fe6fc2d6ded02667df0b32199b21acacc92ab6a77b1b7") true
    over (fun _ h => by cases h) (by kernel_rfl) (fun _ h => by cases h) spentOnce_row_tie rfl ⟨rfl, rfl⟩ (by kernel_rfl) rfl
    (fun f fn hf hfn => by
      obtain rfl : f = 4 := Option.some.inj ((show Tryd.prog.funcNamed "tokenfold/foldlaw1.SpentOnce" = some 4 by kernel_rfl).symm.trans hf) |>.symm
      obtain rfl : fn = Tryd.f4 := (Option.some.inj (Tryd.func4.symm.trans hfn)).symm
      exact ⟨by kernel_rfl, fun j t ht => by
        rw [Tryd.params4] at ht
        have hm : t ∈ [22, 3, 3, 3, 40] := by simpa using Array.mem_of_getElem? ht
        have hall : ([22, 3, 3, 3, 40].all fun u => !Tryd.prog.wantsStandIn u) = true := by kernel_rfl
        exact (show Tryd.prog.wantsStandIn t = false by simpa using List.all_eq_true.1 hall t hm)⟩)
    (by kernel_rfl)

end Go.Proofs.YtbacjhdghepckacDoor.spentOnce
namespace Go.Proofs.YtbacjhdghepckacDoor
theorem spentOnce_holds : Rows.SpentOnceCardSaid := spentOnce.card
#print axioms spentOnce_holds
end Go.Proofs.YtbacjhdghepckacDoor

