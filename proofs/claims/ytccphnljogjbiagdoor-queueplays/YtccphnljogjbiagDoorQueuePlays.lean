/-
  QueuePlays holds for every list of deeds and every list of conns: what is refused, and who waits, are the document's. The listed variable errors.errorType starts as the program's text lays it (the card's tie). No other condition.
-/
import Derived.Test.YtccphnljogjbiagDoorQueueTwo
import Derived.Test.YtccphnljogjbiagDoorTie
import Derived.Test.YtccphnljogjbiagDoorCards
import Derived.ProofKit
import Derived.Lib.SmallJoins
import Derived.LaidMore
import Derived.LaidHandle
import Derived.LaidLaws
import Derived.Stop.Joined
import Derived.SevenTiedAt
import Derived.Deep.SlicePairs
import Derived.Deep.Cut
namespace Go.Proofs.YtccphnljogjbiagDoor.queuePlays
open Go.ChangeShapes Go.WideShapes Go.ChangeAt Go.RowKit Go.Joins
set_option linter.unusedVariables false

theorem own : ownKnob Tryd.prog.godebug = none := by kernel_rfl
theorem laidOut : laidOutB Tryd.prog = true := by kernel_rfl
def IsRow (k : IntKind) (w : World) (a : Option Addr) (len cap : Nat) (zs : List Int) : Prop :=
  (a = none ∧ len = 0 ∧ cap = 0 ∧ zs = []) ∨
  ∃ x, a = some x ∧ len ≤ cap ∧ cap ≤ maxLen ∧ zs.length = cap ∧ (∀ i, i < zs.length → w.cell? (x.add i) = some (.int k (zs.getD i 0))) ∧ ∀ n ∈ zs, (Lit.int k n).wf = true
def IsStrs (w : World) (a : Option Addr) (len cap : Nat) (zs : List ByteArray) : Prop :=
  (a = none ∧ len = 0 ∧ cap = 0 ∧ zs = []) ∨
  ∃ x, a = some x ∧ len ≤ cap ∧ cap ≤ maxLen ∧ zs.length = cap ∧ (∀ i, i < zs.length → w.cell? (x.add i) = some (.string (zs.getD i ByteArray.empty))) ∧ ∀ s ∈ zs, s.size ≤ maxLen
def IsPairs (w : World) (a : Option Addr) (len cap : Nat) (zs : List (Int × Int)) : Prop :=
  (a = none ∧ len = 0 ∧ cap = 0 ∧ zs = []) ∨
  ∃ x, a = some x ∧ len ≤ cap ∧ cap ≤ maxLen ∧ zs.length = cap ∧ ∀ i, i < cap → w.cell? (x.add (i * 2)) = some (.int .i64 (zs.getD i (0, 0)).1) ∧ w.cell? (x.add (i * 2 + 1)) = some (.int .i64 (zs.getD i (0, 0)).2)
def IsRows (w : World) (a : Option Addr) (len cap : Nat) (A : Nat → Option Addr) (L C : Nat → Nat) (Z : Nat → List Int) : Prop :=
  (a = none ∧ len = 0 ∧ cap = 0) ∨
  ∃ x, a = some x ∧ len ≤ cap ∧ cap ≤ maxLen ∧ ∀ r, r < cap → w.cell? (x.add r) = some (.slice (A r) (L r) (C r)) ∧ L r ≤ C r ∧ C r ≤ maxLen ∧ (Z r).length = C r ∧ (∀ n ∈ Z r, (Lit.int .i64 n).wf = true) ∧ (A r = none → C r = 0) ∧
    ∀ a', A r = some a' → ∀ c, c < C r → w.cell? (a'.add c) = some (.int .i64 ((Z r).getD c 0))


theorem reg_one {W W1 W2 : World} {a : Addr} {v : Value} (h : Hid (Below W.heap.size W W1) ∧ W1.cell? a = some v) (hb : Below W1.heap.size W1 W2) : Hid (Below W.heap.size W W2) ∧ W2.cell? a = some v :=
  ⟨hide (Below.trans (unhide h.1) (hb.mono (unhide h.1).size)), cell_later hb h.2⟩
theorem reg_l {w w' : World} {a b : Addr} {u v : Value} (c0 : w.cell? a = some u) (c1 : w.cell? b = some v) (hb : Below w.heap.size w w') : Hid (Below w.heap.size w w') ∧ w'.cell? a = some u ∧ w'.cell? b = some v :=
  ⟨hide hb, cell_later hb c0, cell_later hb c1⟩
theorem two_in {B : Nat} {w : World} {b c r : Nat} {L M : List (Int × Int)} (h : Two B w b c L M [r]) : r < w.heap.size := by
  obtain ⟨_, _, _, _, _, h4⟩ := h
  exact (h4 r (List.mem_singleton.2 rfl)).1

set_option maxHeartbeats 6400000 in
set_option maxRecDepth 8000 in
theorem walk1 (da : Option Addr) (dlen dcap : Nat) (ds : List Int) (a : Option Addr) (len cap : Nat) (l : List (Int × Int)) (w : World) (hdl : ds.length = dlen) (hd : Ints w da ds) (hp : PRow w a len cap l) (hg : ErrType w) :
    Calls Tryd.prog 6 #[.slice da dlen dcap, .slice a len cap] w fun e w' => e = .returned (.bool true) ∧ Below w.heap.size w w' := by
  have HG := hide hg
  have HP := hide hp
  have HDL := hide hdl
  have HD := hide hd
  clear hp hg hdl hd
  go_enter Tryd.func6, Tryd.ntmps6
  go_wp2_with fail
  refine (qnew_any _).mono ?_
  rintro e w1 ⟨rfl, hq1, hb1⟩
  have HT0 := hide (show Two w.heap.size (w1.alloc (.cells #[.slice none 0 0] 47)) w.heap.size w1.heap.size [] [] [] from ⟨none, none, hq1.later (Below.alloc (Below.refl _ _) (Nat.le_refl _) _), ⟨hb1.size, .slice none 0 0, rfl, heap_alloc_new w1 _, World.ownsRow_nil _ _ _ _⟩, by simp, by simp⟩)
  have HB0 := hide (show Below w.heap.size w (w1.alloc (.cells #[.slice none 0 0] 47)) from Below.alloc hb1 hb1.size _)
  have z1 := hb1.size
  clear hq1 hb1
  go_wp2
  generalize w1.heap.size = c at HT0 ⊢
  go_loopw [7] (fun i wr => ∃ (k : Nat) (L : List (Int × Int)), k ≤ 100 ∧ i = .int .i64 k ∧ L.length ≤ 8 ∧ Hid (Two w.heap.size wr w.heap.size c L L []) ∧ Hid (Below w.heap.size w wr)) (fun i _ => 100 - (intOf i).toNat)
  case atStart => exact ⟨0, [], by omega, rfl, by decide, HT0, HB0⟩
  case round =>
    clear HT0 HB0
    obtain ⟨k, L, hk, rfl, hl8, HT, HB⟩ := hrel
    have hk0 : (0 : Int) ≤ (k : Int) := by omega
    by_cases hkd : (k : Int) < (dlen : Int)
    · by_cases hkl : (k : Int) < (len : Int)
      · by_cases hk1 : (k : Int) < 100
        · obtain ⟨db, doff, rfl, hd'⟩ := (unhide HD).2 k (by rw [unhide HDL]; omega)
          have hd := cell_later (unhide HB) hd'
          have dbl : db < wr.heap.size := World.block_lt_of_cell? _ _ hd
          clear hd'
          generalize ds.getD k 0 = d at hd
          by_cases h0 : d = 0
          · subst h0
            cases hL : L with
            | nil =>
              subst hL
              obtain ⟨fa, fc, hf0, -, hfl⟩ := t_field (unhide HT)
              go_upto_region 12 with fail
              have HT1 := hide ((unhide HT).fresh (.cells #[.int .i64 0, .int .i64 0] 39))
              have HW1 := hide (show Held (wr.alloc (.cells #[.int .i64 0, .int .i64 0] 39)) wr.heap.size [.int .i64 0, .int .i64 0] from Held.fresh (w := wr) [.int .i64 0, .int .i64 0] 39 rfl)
              have HB1 := hide (show Below w.heap.size w (wr.alloc (.cells #[.int .i64 0, .int .i64 0] 39)) from Below.alloc (unhide HB) (unhide HB).size _)
              generalize (wr.alloc (.cells #[.int .i64 0, .int .i64 0] 39)) = w1 at HT1 HW1 HB1 ⊢
              have z1 := (unhide HB1).size
              obtain ⟨fa1, fc1, hf1, -, hfl1⟩ := t_field (unhide HT1)
              clear hf0 hfl
              go_wp2_with fail
              refine (t_none (unhide HT1) (unhide HB1) z1).mono ?_
              rintro e w2 ⟨rfl, ht2, hr2, hb2⟩
              have HT2 := hide ht2
              have HB2 := hide hb2
              have z2 := hb2.size
              have HW2 := hide ((unhide HW1).block (hr2 _ (List.mem_singleton.2 rfl)) (two_in ht2))
              clear ht2 hb2 hr2
              go_wp2_with fail
              have HT3 := hide ((unhide HT2).later (show Below w2.heap.size w2 (w2.alloc (.cells #[.int .i64 0, .int .i64 0] 39)) from Below.alloc (Below.refl _ _) (Nat.le_refl _) _))
              have HW3 := hide ((unhide HW2).later (show Below w2.heap.size w2 (w2.alloc (.cells #[.int .i64 0, .int .i64 0] 39)) from Below.alloc (Below.refl _ _) (Nat.le_refl _) _))
              have HX3 := hide (show Held (w2.alloc (.cells #[.int .i64 0, .int .i64 0] 39)) w2.heap.size [.int .i64 0, .int .i64 0] from Held.fresh (w := w2) [.int .i64 0, .int .i64 0] 39 rfl)
              have HB3 := hide (show Below w.heap.size w (w2.alloc (.cells #[.int .i64 0, .int .i64 0] 39)) from Below.alloc (unhide HB2) z2 _)
              generalize (w2.alloc (.cells #[.int .i64 0, .int .i64 0] 39)) = w3 at HT3 HW3 HB3 HX3 ⊢
              refine (same_errno _ _ _ ((unhide HG).later (unhide HB3))).mono ?_
              rintro e w4 ⟨rfl, hb4⟩
              have HT4 := hide ((unhide HT3).later hb4).bare
              have HB4 := hide (bel3 (unhide HB3) (Below.refl _ _) hb4)
              obtain ⟨x0, x1⟩ := ((unhide HX3).later hb4).c2.1
              obtain ⟨y0, y1⟩ := ((unhide HW3).later hb4).c2.1
              have xl := ((unhide HX3).later hb4).2
              have yl := ((unhide HW3).later hb4).2
              clear hb4 HT3 HW3 HX3 HB3 HT2 HW2 HB2
              have e1 : ((0 : Int) == 0) = true := by simp
              obtain ⟨fa, fc, hf0, hfp, hfl⟩ := t_field (unhide HT4)
              have HFP := hide hfp
              have HLE := hide (show ([] : List (Int × Int)).length ≤ 8 from by decide)
              have QA := hide (fun W (hW : Below w4.heap.size w4 W) => t_all ((unhide HT4).later hW) (unhide HLE))
              have QC := hide (fun a n cp W (hW : Below w4.heap.size w4 W) (hp : PRow W a n cp ([] : List (Int × Int))) => same_conns W (by have h1 := hp.1; have h2 := unhide HLE; omega) hp ((unhide HFP).later hW))
              clear hfp
              generalize ([] : List (Int × Int)).length = fn at hf0 QA QC HFP
              go_wp2
              go_region_held3 (fun w' => Hid (Below w4.heap.size w4 w') ∧ w'.cell? ⟨c, 0, none⟩ = some (.slice fa fn fc)) (first | exact reg_one (by assumption) hb | exact ⟨hide ((Below.refl _ _).drew), by rw [World.cell?_drew]; exact hf0⟩)
                (first | (go_at_call 15; refine (unhide QA _ (unhide (And.left ‹Hid (Below w4.heap.size w4 _) ∧ _›))).mono ?_; rintro e w' ⟨qa, qc, rfl, hqp, hb⟩; have HQP := hide hqp; clear hqp) | (go_at_call 21; refine (unhide QC _ _ _ _ (unhide (And.left ‹Hid (Below w4.heap.size w4 _) ∧ _›)) (unhide (by assumption))).mono ?_; rintro e w' ⟨rfl, hb⟩))
              have hbx := unhide (And.left ‹Hid (Below w4.heap.size w4 _) ∧ _›)
              have HTx := hide ((unhide HT4).later hbx)
              have HBx := hide (bel3 (unhide HB4) (Below.refl _ _) hbx)
              clear hbx
              go_wp2
              go_roundw
              case rel => exact ⟨k + 1, ([] : List (Int × Int)), by omega, by go_num, unhide HLE, HTx, HBx⟩
              case measure => simp [intOf]; omega
            | cons p r =>
              subst hL
              obtain ⟨x, y⟩ := p
              obtain ⟨fa, fc, hf0, hfp, hfl⟩ := t_field (unhide HT)
              go_upto_region 12 with fail
              have HT1 := hide ((unhide HT).fresh (.cells #[.int .i64 0, .int .i64 0] 39))
              have HW1 := hide (show Held (wr.alloc (.cells #[.int .i64 0, .int .i64 0] 39)) wr.heap.size [.int .i64 0, .int .i64 0] from Held.fresh (w := wr) [.int .i64 0, .int .i64 0] 39 rfl)
              have HB1 := hide (show Below w.heap.size w (wr.alloc (.cells #[.int .i64 0, .int .i64 0] 39)) from Below.alloc (unhide HB) (unhide HB).size _)
              generalize (wr.alloc (.cells #[.int .i64 0, .int .i64 0] 39)) = w1 at HT1 HW1 HB1 ⊢
              have z1 := (unhide HB1).size
              clear hf0 hfp hfl
              obtain ⟨fa1, fc1, hf1, hfp1, hfl1⟩ := t_field (unhide HT1)
              obtain ⟨g, off, rfl, d0, d1⟩ := hfp1.2.2 0 (by simp)
              have hgl : g < w1.heap.size := World.block_lt_of_cell? _ _ d0
              simp only [List.length_cons, List.getD_cons_zero, Nat.zero_mul, Nat.add_zero] at d0 d1 hf1
              clear hfp1
              obtain ⟨⟨y0, y1⟩, yf0, yf1⟩ := (unhide HW1).c2
              have yl := (unhide HW1).2
              have hrl : r.length < 8 := by simp at hl8; omega
              go_wp2_with fail
              have HT2 := hide (((unhide HT1).put 0 (.int .i64 x)).put 1 (.int .i64 y))
              have HW2 := hide (show Held ((w1.setCell ⟨wr.heap.size, 0, none⟩ (.int .i64 x)).setCell ⟨wr.heap.size, 1, none⟩ (.int .i64 y)) wr.heap.size [.int .i64 x, .int .i64 y] from ((unhide HW1).put 0 (.int .i64 x)).put 1 (.int .i64 y))
              have HB2 := hide (show Below w.heap.size w ((w1.setCell ⟨wr.heap.size, 0, none⟩ (.int .i64 x)).setCell ⟨wr.heap.size, 1, none⟩ (.int .i64 y)) from Below.setCell (Below.setCell (unhide HB1) (unhide HB).size _) (unhide HB).size _)
              generalize ((w1.setCell ⟨wr.heap.size, 0, none⟩ (.int .i64 x)).setCell ⟨wr.heap.size, 1, none⟩ (.int .i64 y)) = w2 at HT2 HW2 HB2 ⊢
              have z2 := (unhide HB2).size
              clear d0 d1 hf1 hfl1 y0 y1 yf0 yf1 yl HT1 HW1 HB1 hgl z1
              refine (t_out (i := 0) (unhide HT2) (by simp) (by simp; omega) (unhide HB2) z2).mono ?_
              rintro e w3 ⟨rfl, ht3, hr3, hb3⟩
              have ht3 : Two w.heap.size w3 w.heap.size c ((x, y) :: r) r [wr.heap.size] := ht3
              have HT3 := hide ht3
              have HB3 := hide hb3
              have z3 := hb3.size
              have HW3 := hide ((unhide HW2).block (hr3 _ (List.mem_singleton.2 rfl)) (two_in ht3))
              clear ht3 hb3 hr3 HT2 HW2 HB2
              go_wp2_with fail
              refine (t_pull (unhide HT3) hrl (unhide HB3) z3).mono ?_
              rintro e w4 ⟨rfl, ht4, hr4, hb4⟩
              have HT4 := hide ht4
              have HB4 := hide hb4
              have z4 := hb4.size
              have HW4 := hide ((unhide HW3).block (hr4 _ (List.mem_singleton.2 rfl)) (two_in ht4))
              clear ht4 hb4 hr4
              go_wp2_with fail
              have HT5 := hide ((unhide HT4).later (show Below w4.heap.size w4 (w4.alloc (.cells #[.int .i64 x, .int .i64 y] 39)) from Below.alloc (Below.refl _ _) (Nat.le_refl _) _))
              have HW5 := hide ((unhide HW4).later (show Below w4.heap.size w4 (w4.alloc (.cells #[.int .i64 x, .int .i64 y] 39)) from Below.alloc (Below.refl _ _) (Nat.le_refl _) _))
              have HX5 := hide (show Held (w4.alloc (.cells #[.int .i64 x, .int .i64 y] 39)) w4.heap.size [.int .i64 x, .int .i64 y] from Held.fresh (w := w4) [.int .i64 x, .int .i64 y] 39 rfl)
              have HB5 := hide (show Below w.heap.size w (w4.alloc (.cells #[.int .i64 x, .int .i64 y] 39)) from Below.alloc (unhide HB4) z4 _)
              generalize (w4.alloc (.cells #[.int .i64 x, .int .i64 y] 39)) = w5 at HT5 HW5 HB5 HX5 ⊢
              refine (same_nil _ _).mono ?_
              rintro e w6 ⟨rfl, hb6⟩
              have HT6 := hide ((unhide HT5).later hb6).bare
              have HB6 := hide (bel3 (unhide HB5) (Below.refl _ _) hb6)
              obtain ⟨x0, x1⟩ := ((unhide HX5).later hb6).c2.1
              obtain ⟨y0, y1⟩ := ((unhide HW5).later hb6).c2.1
              have xl := ((unhide HX5).later hb6).2
              have yl := ((unhide HW5).later hb6).2
              clear hb6 HT5 HW5 HX5 HB5 HT4 HW4 HB4
              have e1 : (x == x) = true := by simp
              have e2 : (y == y) = true := by simp
              obtain ⟨fa, fc, hf0, hfp, hfl⟩ := t_field (unhide HT6)
              have HFP := hide hfp
              have HLE := hide (show r.length ≤ 8 from by omega)
              have QA := hide (fun W (hW : Below w6.heap.size w6 W) => t_all ((unhide HT6).later hW) (unhide HLE))
              have QC := hide (fun a n cp W (hW : Below w6.heap.size w6 W) (hp : PRow W a n cp r) => same_conns W (by have h1 := hp.1; have h2 := unhide HLE; omega) hp ((unhide HFP).later hW))
              clear hfp
              generalize r.length = fn at hf0 QA QC HFP
              go_wp2
              go_region_held3 (fun w' => Hid (Below w6.heap.size w6 w') ∧ w'.cell? ⟨c, 0, none⟩ = some (.slice fa fn fc)) (first | exact reg_one (by assumption) hb | exact ⟨hide ((Below.refl _ _).drew), by rw [World.cell?_drew]; exact hf0⟩)
                (first | (go_at_call 15; refine (unhide QA _ (unhide (And.left ‹Hid (Below w6.heap.size w6 _) ∧ _›))).mono ?_; rintro e w' ⟨qa, qc, rfl, hqp, hb⟩; have HQP := hide hqp; clear hqp) | (go_at_call 21; refine (unhide QC _ _ _ _ (unhide (And.left ‹Hid (Below w6.heap.size w6 _) ∧ _›)) (unhide (by assumption))).mono ?_; rintro e w' ⟨rfl, hb⟩))
              have hbx := unhide (And.left ‹Hid (Below w6.heap.size w6 _) ∧ _›)
              have HTx := hide ((unhide HT6).later hbx)
              have HBx := hide (bel3 (unhide HB6) (Below.refl _ _) hbx)
              clear hbx
              go_wp2
              go_roundw
              case rel => exact ⟨k + 1, r, by omega, by go_num, unhide HLE, HTx, HBx⟩
              case measure => simp [intOf]; omega
          · by_cases h1 : d = 1
            · subst h1
              obtain ⟨pb, off, rfl, hc0', hc1'⟩ := (unhide HP).2.2 k (by rw [(unhide HP).1]; omega)
              have HC0 := hide hc0'
              have HC1 := hide hc1'
              clear hc0' hc1'
              generalize l.getD k (0, 0) = q at HC0 HC1
              obtain ⟨s, m⟩ := q
              dsimp only at HC0 HC1
              have C := hide (fun w => rconn_any s m w)
              rw [conn_ok] at C
              have QP := hide (fun W (hT : Two w.heap.size W w.heap.size c L L []) => t_place s m hT hl8)
              by_cases hbad : QueueM.bad (s, m)
              · rw [decide_eq_true hbad] at C
                have QD := hide (fun W (hT : Two w.heap.size W w.heap.size c L L []) (hB : Below w.heap.size w W) => t_drop s m hT hl8 hB hB.size)
                rw [QueueM.dropped_no (by rw [QueueM.drop_bad hbad]; decide), QueueM.drop_bad hbad, errV_pos (by omega)] at QD
                generalize QueueM.place L (s, m) = pl at QP
                clear hbad
                have hc0r := cell_later (unhide HB) (unhide HC0)
                have hc1r := cell_later (unhide HB) (unhide HC1)
                have pblr : pb < wr.heap.size := World.block_lt_of_cell? _ _ hc0r
                go_wp2_with fail
                refine (unhide C wr).mono ?_
                rintro e w1 ⟨rfl, hb1⟩
                have HT1 := hide ((unhide HT).later hb1)
                have HB1 := hide (bel3 (unhide HB) (Below.refl _ _) hb1)
                have z1 := (unhide HB1).size
                clear hb1
                have hc01 := cell_later (unhide HB1) (unhide HC0)
                have hc11 := cell_later (unhide HB1) (unhide HC1)
                have pbl1 : pb < w1.heap.size := World.block_lt_of_cell? _ _ hc01
                go_wp2_with fail
                refine (unhide QP _ (unhide HT1)).mono ?_
                rintro e w2 ⟨rfl, hb2⟩
                have HT2 := hide ((unhide HT1).later hb2)
                have HB2 := hide (bel3 (unhide HB1) (Below.refl _ _) hb2)
                have z2 := (unhide HB2).size
                clear hb2
                clear HT1 HB1 hc0r hc1r pblr hc01 hc11 pbl1 z1
                have hc02 := cell_later (unhide HB2) (unhide HC0)
                have hc12 := cell_later (unhide HB2) (unhide HC1)
                have pbl2 : pb < w2.heap.size := World.block_lt_of_cell? _ _ hc02
                go_wp2_with fail
                refine (unhide QD _ (unhide HT2) (unhide HB2)).mono ?_
                rintro e w3 ⟨rfl, ht3, hr3, hb3⟩
                have HT3 := hide ht3
                have HB3 := hide hb3
                have z3 := hb3.size
                clear ht3 hb3 hr3
                go_wp2_with fail
                refine (same_errno _ _ _ ((unhide HG).later (unhide HB3))).mono ?_
                rintro e w4 ⟨rfl, hb4⟩
                have HT4 := hide ((unhide HT3).later hb4)
                have HB4 := hide (bel3 (unhide HB3) (Below.refl _ _) hb4)
                have z4 := (unhide HB4).size
                clear hb4
                clear hc02 hc12 pbl2
                obtain ⟨fa, fc, hf0, hfp, hfl⟩ := t_field (unhide HT4)
                have HFP := hide hfp
                have HLE := hide (show L.length ≤ 8 from hl8)
                have QA := hide (fun W (hW : Below w4.heap.size w4 W) => t_all ((unhide HT4).later hW) (unhide HLE))
                have QC := hide (fun a n cp W (hW : Below w4.heap.size w4 W) (hp : PRow W a n cp L) => same_conns W (by have h1 := hp.1; have h2 := unhide HLE; omega) hp ((unhide HFP).later hW))
                clear hfp
                generalize L.length = fn at hf0 QA QC HFP
                go_wp2
                go_region_held3 (fun w' => Hid (Below w4.heap.size w4 w') ∧ w'.cell? ⟨c, 0, none⟩ = some (.slice fa fn fc)) (first | exact reg_one (by assumption) hb | exact ⟨hide ((Below.refl _ _).drew), by rw [World.cell?_drew]; exact hf0⟩)
                  (first | (go_at_call 15; refine (unhide QA _ (unhide (And.left ‹Hid (Below w4.heap.size w4 _) ∧ _›))).mono ?_; rintro e w' ⟨qa, qc, rfl, hqp, hb⟩; have HQP := hide hqp; clear hqp) | (go_at_call 21; refine (unhide QC _ _ _ _ (unhide (And.left ‹Hid (Below w4.heap.size w4 _) ∧ _›)) (unhide (by assumption))).mono ?_; rintro e w' ⟨rfl, hb⟩))
                have hbx := unhide (And.left ‹Hid (Below w4.heap.size w4 _) ∧ _›)
                have HTx := hide ((unhide HT4).later hbx)
                have HBx := hide (bel3 (unhide HB4) (Below.refl _ _) hbx)
                clear hbx
                go_wp2
                go_roundw
                case rel => exact ⟨k + 1, L, by omega, by go_num, unhide HLE, HTx, HBx⟩
                case measure => simp [intOf]; omega
              · by_cases hin : (s, m) ∈ L
                · rw [decide_eq_false hbad] at C
                  have QD := hide (fun W M (hT : Two w.heap.size W w.heap.size c L M []) (hB : Below w.heap.size w W) => t_drop s m hT hl8 hB hB.size)
                  rw [QueueM.dropped_yes (QueueM.drop_yes hbad hin), QueueM.drop_yes hbad hin, errV_zero rfl] at QD
                  rw [QueueM.place_yes hin] at QP
                  have hj := QueueM.idx_lt hin
                  generalize L.idxOf (s, m) = j at QP QD hj
                  have hj0 : (0 : Int) ≤ (j : Int) := by omega
                  have HLJ := hide (show (L.eraseIdx j).length ≤ 8 by have := List.length_eraseIdx_le L j; omega)
                  clear hbad hin
                  have hc0r := cell_later (unhide HB) (unhide HC0)
                  have hc1r := cell_later (unhide HB) (unhide HC1)
                  have pblr : pb < wr.heap.size := World.block_lt_of_cell? _ _ hc0r
                  go_wp2_with fail
                  refine (unhide C wr).mono ?_
                  rintro e w1 ⟨rfl, hb1⟩
                  have HT1 := hide ((unhide HT).later hb1)
                  have HB1 := hide (bel3 (unhide HB) (Below.refl _ _) hb1)
                  have z1 := (unhide HB1).size
                  clear hb1
                  have hc01 := cell_later (unhide HB1) (unhide HC0)
                  have hc11 := cell_later (unhide HB1) (unhide HC1)
                  have pbl1 : pb < w1.heap.size := World.block_lt_of_cell? _ _ hc01
                  go_wp2_with fail
                  refine (unhide QP _ (unhide HT1)).mono ?_
                  rintro e w2 ⟨rfl, hb2⟩
                  have HT2 := hide ((unhide HT1).later hb2)
                  have HB2 := hide (bel3 (unhide HB1) (Below.refl _ _) hb2)
                  have z2 := (unhide HB2).size
                  clear hb2
                  clear HT1 HB1 hc0r hc1r pblr hc01 hc11 pbl1 z1
                  go_wp2_with fail
                  refine (t_out (unhide HT2) hj hl8 (unhide HB2) z2).mono ?_
                  rintro e w3 ⟨rfl, ht3, hr3, hb3⟩
                  have HT3 := hide ht3
                  have HB3 := hide hb3
                  have z3 := hb3.size
                  clear ht3 hb3 hr3
                  clear HT2 HB2
                  have hc03 := cell_later (unhide HB3) (unhide HC0)
                  have hc13 := cell_later (unhide HB3) (unhide HC1)
                  have pbl3 : pb < w3.heap.size := World.block_lt_of_cell? _ _ hc03
                  go_wp2_with fail
                  refine (unhide QD _ _ (unhide HT3) (unhide HB3)).mono ?_
                  rintro e w4 ⟨rfl, ht4, hr4, hb4⟩
                  have HT4 := hide ht4
                  have HB4 := hide hb4
                  have z4 := hb4.size
                  clear ht4 hb4 hr4
                  go_wp2_with fail
                  refine (same_nil _ _).mono ?_
                  rintro e w5 ⟨rfl, hb5⟩
                  have HT5 := hide ((unhide HT4).later hb5)
                  have HB5 := hide (bel3 (unhide HB4) (Below.refl _ _) hb5)
                  have z5 := (unhide HB5).size
                  clear hb5
                  clear hc03 hc13 pbl3
                  obtain ⟨fa, fc, hf0, hfp, hfl⟩ := t_field (unhide HT5)
                  have HFP := hide hfp
                  have HLE := hide (show (L.eraseIdx j).length ≤ 8 from unhide HLJ)
                  have QA := hide (fun W (hW : Below w5.heap.size w5 W) => t_all ((unhide HT5).later hW) (unhide HLE))
                  have QC := hide (fun a n cp W (hW : Below w5.heap.size w5 W) (hp : PRow W a n cp (L.eraseIdx j)) => same_conns W (by have h1 := hp.1; have h2 := unhide HLE; omega) hp ((unhide HFP).later hW))
                  clear hfp
                  generalize (L.eraseIdx j).length = fn at hf0 QA QC HFP
                  go_wp2
                  go_region_held3 (fun w' => Hid (Below w5.heap.size w5 w') ∧ w'.cell? ⟨c, 0, none⟩ = some (.slice fa fn fc)) (first | exact reg_one (by assumption) hb | exact ⟨hide ((Below.refl _ _).drew), by rw [World.cell?_drew]; exact hf0⟩)
                    (first | (go_at_call 15; refine (unhide QA _ (unhide (And.left ‹Hid (Below w5.heap.size w5 _) ∧ _›))).mono ?_; rintro e w' ⟨qa, qc, rfl, hqp, hb⟩; have HQP := hide hqp; clear hqp) | (go_at_call 21; refine (unhide QC _ _ _ _ (unhide (And.left ‹Hid (Below w5.heap.size w5 _) ∧ _›)) (unhide (by assumption))).mono ?_; rintro e w' ⟨rfl, hb⟩))
                  have hbx := unhide (And.left ‹Hid (Below w5.heap.size w5 _) ∧ _›)
                  have HTx := hide ((unhide HT5).later hbx)
                  have HBx := hide (bel3 (unhide HB5) (Below.refl _ _) hbx)
                  clear hbx
                  go_wp2
                  go_roundw
                  case rel => exact ⟨k + 1, (L.eraseIdx j), by omega, by go_num, unhide HLE, HTx, HBx⟩
                  case measure => simp [intOf]; omega
                · rw [decide_eq_false hbad] at C
                  have QD := hide (fun W (hT : Two w.heap.size W w.heap.size c L L []) (hB : Below w.heap.size w W) => t_drop s m hT hl8 hB hB.size)
                  rw [QueueM.dropped_no (by rw [QueueM.drop_none hbad hin]; decide), QueueM.drop_none hbad hin, errV_pos (by omega)] at QD
                  rw [QueueM.place_no hin] at QP
                  clear hbad hin
                  have hc0r := cell_later (unhide HB) (unhide HC0)
                  have hc1r := cell_later (unhide HB) (unhide HC1)
                  have pblr : pb < wr.heap.size := World.block_lt_of_cell? _ _ hc0r
                  go_wp2_with fail
                  refine (unhide C wr).mono ?_
                  rintro e w1 ⟨rfl, hb1⟩
                  have HT1 := hide ((unhide HT).later hb1)
                  have HB1 := hide (bel3 (unhide HB) (Below.refl _ _) hb1)
                  have z1 := (unhide HB1).size
                  clear hb1
                  have hc01 := cell_later (unhide HB1) (unhide HC0)
                  have hc11 := cell_later (unhide HB1) (unhide HC1)
                  have pbl1 : pb < w1.heap.size := World.block_lt_of_cell? _ _ hc01
                  go_wp2_with fail
                  refine (unhide QP _ (unhide HT1)).mono ?_
                  rintro e w2 ⟨rfl, hb2⟩
                  have HT2 := hide ((unhide HT1).later hb2)
                  have HB2 := hide (bel3 (unhide HB1) (Below.refl _ _) hb2)
                  have z2 := (unhide HB2).size
                  clear hb2
                  clear HT1 HB1 hc0r hc1r pblr hc01 hc11 pbl1 z1
                  have hc02 := cell_later (unhide HB2) (unhide HC0)
                  have hc12 := cell_later (unhide HB2) (unhide HC1)
                  have pbl2 : pb < w2.heap.size := World.block_lt_of_cell? _ _ hc02
                  go_wp2_with fail
                  refine (unhide QD _ (unhide HT2) (unhide HB2)).mono ?_
                  rintro e w3 ⟨rfl, ht3, hr3, hb3⟩
                  have HT3 := hide ht3
                  have HB3 := hide hb3
                  have z3 := hb3.size
                  clear ht3 hb3 hr3
                  go_wp2_with fail
                  refine (same_errno _ _ _ ((unhide HG).later (unhide HB3))).mono ?_
                  rintro e w4 ⟨rfl, hb4⟩
                  have HT4 := hide ((unhide HT3).later hb4)
                  have HB4 := hide (bel3 (unhide HB3) (Below.refl _ _) hb4)
                  have z4 := (unhide HB4).size
                  clear hb4
                  clear hc02 hc12 pbl2
                  obtain ⟨fa, fc, hf0, hfp, hfl⟩ := t_field (unhide HT4)
                  have HFP := hide hfp
                  have HLE := hide (show L.length ≤ 8 from hl8)
                  have QA := hide (fun W (hW : Below w4.heap.size w4 W) => t_all ((unhide HT4).later hW) (unhide HLE))
                  have QC := hide (fun a n cp W (hW : Below w4.heap.size w4 W) (hp : PRow W a n cp L) => same_conns W (by have h1 := hp.1; have h2 := unhide HLE; omega) hp ((unhide HFP).later hW))
                  clear hfp
                  generalize L.length = fn at hf0 QA QC HFP
                  go_wp2
                  go_region_held3 (fun w' => Hid (Below w4.heap.size w4 w') ∧ w'.cell? ⟨c, 0, none⟩ = some (.slice fa fn fc)) (first | exact reg_one (by assumption) hb | exact ⟨hide ((Below.refl _ _).drew), by rw [World.cell?_drew]; exact hf0⟩)
                    (first | (go_at_call 15; refine (unhide QA _ (unhide (And.left ‹Hid (Below w4.heap.size w4 _) ∧ _›))).mono ?_; rintro e w' ⟨qa, qc, rfl, hqp, hb⟩; have HQP := hide hqp; clear hqp) | (go_at_call 21; refine (unhide QC _ _ _ _ (unhide (And.left ‹Hid (Below w4.heap.size w4 _) ∧ _›)) (unhide (by assumption))).mono ?_; rintro e w' ⟨rfl, hb⟩))
                  have hbx := unhide (And.left ‹Hid (Below w4.heap.size w4 _) ∧ _›)
                  have HTx := hide ((unhide HT4).later hbx)
                  have HBx := hide (bel3 (unhide HB4) (Below.refl _ _) hbx)
                  clear hbx
                  go_wp2
                  go_roundw
                  case rel => exact ⟨k + 1, L, by omega, by go_num, unhide HLE, HTx, HBx⟩
                  case measure => simp [intOf]; omega
            · have h0' : (d == 0) = false := by simp [h0]
              have h1' : (d == 1) = false := by simp [h1]
              obtain ⟨pb, off, rfl, hc0', hc1'⟩ := (unhide HP).2.2 k (by rw [(unhide HP).1]; omega)
              have HC0 := hide hc0'
              have HC1 := hide hc1'
              clear hc0' hc1'
              generalize l.getD k (0, 0) = q at HC0 HC1
              obtain ⟨s, m⟩ := q
              dsimp only at HC0 HC1
              have QO := hide (fun W M (hT : Two w.heap.size W w.heap.size c L M []) (hB : Below w.heap.size w W) => t_offer s m hT hl8 hB hB.size)
              have QR := hide (fun W L1 (hT : Two w.heap.size W w.heap.size c L1 L []) (hB : Below w.heap.size w W) => t_roffer s m hT hl8 hB hB.size)
              have HL2 := hide (QueueM.offered_le (c := (s, m)) hl8)
              generalize QueueM.offerErr L (s, m) = E at QO QR
              generalize QueueM.offered L (s, m) = L2 at QO QR HL2
              have QS := hide (fun W (hB : Below w.heap.size w W) => same_self E W ((unhide HG).later hB))
              have HTd := hide (show Two w.heap.size wr.drew w.heap.size c L L [] from unhide HT)
              have HBd := hide ((unhide HB).drew)
              have hc0 := cell_later (unhide HB) (unhide HC0)
              have hc1 := cell_later (unhide HB) (unhide HC1)
              go_wp2
              go_region_held3 (fun w' => Hid (Below w.heap.size w w') ∧ w'.cell? ⟨pb, off + k * 2, none⟩ = some (.int .i64 s) ∧ w'.cell? ⟨pb, off + k * 2 + 1, none⟩ = some (.int .i64 m)) (first | exact reg_l (unhide HC0) (unhide HC1) hb | exact reg_l (unhide HC0) (unhide HC1) (unhide HBd))
                (first | (go_at_call 13; refine (unhide QO _ _ (unhide (by assumption)) (unhide (And.left ‹Hid (Below w.heap.size w _) ∧ _›))).mono ?_; rintro e w' ⟨rfl, ht, -, hb⟩; have HTq := hide ht; clear ht) | (go_at_call 20; refine (unhide QR _ _ (unhide (by assumption)) (unhide (And.left ‹Hid (Below w.heap.size w _) ∧ _›))).mono ?_; rintro e w' ⟨rfl, ht, -, hb⟩; have HTq := hide ht; clear ht) | (go_at_call 8; refine (unhide QS _ (unhide (And.left ‹Hid (Below w.heap.size w _) ∧ _›))).mono ?_; rintro e w9 ⟨rfl, hbs⟩; have HT9 := hide ((unhide HTq).later hbs); have hb := bel3 hb (Below.refl _ _) hbs))
              all_goals
                have HB9 := hide hb
                clear hc0 hc1 hb
                obtain ⟨fa, fc, hf0, hfp, hfl⟩ := t_field (unhide HT9)
                have HFP := hide hfp
                have HLE := hide (show L2.length ≤ 8 from unhide HL2)
                have QA := hide (fun W (hW : Below w9.heap.size w9 W) => t_all ((unhide HT9).later hW) (unhide HLE))
                have QC := hide (fun a n cp W (hW : Below w9.heap.size w9 W) (hp : PRow W a n cp L2) => same_conns W (by have h1 := hp.1; have h2 := unhide HLE; omega) hp ((unhide HFP).later hW))
                clear hfp
                generalize L2.length = fn at hf0 QA QC HFP
                go_wp2
                go_region_held3 (fun w' => Hid (Below w9.heap.size w9 w') ∧ w'.cell? ⟨c, 0, none⟩ = some (.slice fa fn fc)) (first | exact reg_one (by assumption) hb | exact ⟨hide ((Below.refl _ _).drew), by rw [World.cell?_drew]; exact hf0⟩)
                  (first | (go_at_call 15; refine (unhide QA _ (unhide (And.left ‹Hid (Below w9.heap.size w9 _) ∧ _›))).mono ?_; rintro e w' ⟨qa, qc, rfl, hqp, hb⟩; have HQP := hide hqp; clear hqp) | (go_at_call 21; refine (unhide QC _ _ _ _ (unhide (And.left ‹Hid (Below w9.heap.size w9 _) ∧ _›)) (unhide (by assumption))).mono ?_; rintro e w' ⟨rfl, hb⟩))
                have hbx := unhide (And.left ‹Hid (Below w9.heap.size w9 _) ∧ _›)
                have HTx := hide ((unhide HT9).later hbx)
                have HBx := hide (bel3 (unhide HB9) (Below.refl _ _) hbx)
                clear hbx
                go_wp2
                go_roundw
                case rel => exact ⟨k + 1, L2, by omega, by go_num, unhide HLE, HTx, HBx⟩
                case measure => simp [intOf]; omega
        · go_wp2
          go_ret
          exact ⟨rfl, unhide HB⟩
      · go_wp2
        go_ret
        exact ⟨rfl, unhide HB⟩
    · go_wp2
      go_ret
      exact ⟨rfl, unhide HB⟩

theorem walk (a0 : Option Addr) (len0 cap0 : Nat) (z0 : List Int) (a1 : Option Addr) (len1 cap1 : Nat) (z1 : List (Int × Int)) (w : World) (w0 : IsRow .i64 w a0 len0 cap0 z0) (w1 : IsPairs w a1 len1 cap1 z1) (hg : ErrType w) :
    Calls Tryd.prog 6 #[.slice a0 len0 cap0, .slice a1 len1 cap1] w fun e w' => e = .returned (.bool true) ∧ Below w.heap.size w w' := by
  obtain ⟨ts, htl, hT, _, _⟩ := row_ints rfl w0
  obtain ⟨l, hp⟩ := row_pairs w1
  exact walk1 a0 len0 cap0 ts a1 len1 cap1 l w htl hT hp hg


theorem gErr : Tryd.prog.globalNamed "errors.errorType" = some 0 := by kernel_rfl
theorem rtErr : (Tryd.prog.cutTypes.find? (·.1 == "internal/reflectlite.rtype")).map (·.2) = some 82 := by kernel_rfl
theorem oneRow : ((List.range 123).filter fun t => Tryd.prog.rowNamed t [101, 114, 114, 111, 114]) = [26] := by kernel_rfl
theorem sizeT : Tryd.prog.types.size = 123 := by kernel_rfl
theorem handle_of_laid {W : World} (h : laidMetH Tryd.prog Rows.queuePlaysRow.laid W) : ErrType W := by
  have h' : laidMet Tryd.prog [] W ∧ handlesMet Tryd.prog Rows.queuePlaysRow.laid W := h
  obtain ⟨name, u, ty, e1, e2, e3, e4, e5⟩ := h'.2 _ (List.mem_singleton.2 rfl)
  have en : name = [101, 114, 114, 111, 114] := (Option.some.inj e1).symm
  subst en
  obtain rfl := Option.some.inj (rtErr.symm.trans e2)
  have hm : ty ∈ (List.range 123).filter fun t => Tryd.prog.rowNamed t [101, 114, 114, 111, 114] := List.mem_filter.2 ⟨List.mem_range.2 (by rw [← sizeT]; exact e3), e4⟩
  rw [oneRow] at hm
  obtain rfl := List.mem_singleton.1 hm
  have hh : typeHandle Tryd.prog 26 = .pointer (some ⟨1, 26, none⟩) := by kernel_rfl
  rw [hh] at e5
  unfold ErrType
  simpa using World.var?_cell gErr e5 0
theorem door_met (os : Os) (args : Array Value) : laidMetH Tryd.prog Rows.queuePlaysRow.laid ((World.doorLaid Tryd.prog 400 os).forCall (fun _ _ => 0) ⟨#[], args, []⟩).memory :=
  laidMetH_of_parts (laidMet_nil _ _) (by kernel_rfl)


set_option maxRecDepth 100000 in
theorem lifted (os : Os) (started : os.Started) (H : Type) (enc : TypeId × Value → H) :
    ReturnsInHanded {} Tryd.checked os 6 .any (fun w args => (Rows.queuePlaysSpec.pre enc Tryd.prog Tryd.f6 [] false w args ∧ laidMetH Tryd.prog Rows.queuePlaysRow.laid w) ∧ sizedMet enc Tryd.prog Tryd.f6 (OpenSpec.ofChange Rows.queuePlaysSpec) false w args) (Rows.queuePlaysSpec.post enc Tryd.prog Tryd.f6 false true false false) := by
  refine returnsInHanded_of_change_and (C := Tryd.checked) (X := fun w _ => laidMetH Tryd.prog Rows.queuePlaysRow.laid w) (fun _ _ _ hh h => h.of_heap hh) own started (by kernel_rfl) Tryd.func6
    (ChangeSpec.witness_shaped (enc := enc) (C := Tryd.checked) (os := os) (X := fun w _ => laidMetH Tryd.prog Rows.queuePlaysRow.laid w) false (World.doorLaid Tryd.prog 400 os) #[.slice none 0 0, .slice none 0 0] 8 rfl (World.shaped_of_RefB (by kernel_rfl) (by kernel_rfl)) (by kernel_rfl) (by kernel_rfl) (by kernel_rfl) (door_met os _)) ?_
  intro W base args ds gs before hval0 hW _ hsz hL _
  have hg := handle_of_laid hL
  have hval : ∀ (j : Nat) t v, Tryd.f6.params[j]? = some t → args[j]? = some v → Value.okWide Tryd.prog W .any base t v := hval0
  have hW' := hW
  obtain ⟨p, q, hA0, hV, rfl, hfz, hnd⟩ := hW
  have hA : DataW.TrodAll enc Tryd.prog W 0 (fun _ => true) true Tryd.f6.params.toList args.toList ds p := hA0
  rw [Tryd.params6] at hA hval
  obtain ⟨v0, vs0, d0, ds0, p0, q0, hargs, rfl, rfl, h0, r0⟩ := trodAll_cons hA
  obtain ⟨v1, vs1, d1, ds1, p1, q1, rfl, rfl, rfl, h1, r1⟩ := trodAll_cons r0
  obtain ⟨rfl, rfl, rfl⟩ := trodAll_nil r1
  obtain rfl : args = #[v0, v1] := by cases args; simp_all
  obtain ⟨rfl, rfl⟩ := trodVars_none hV
  have k0 := h0
  have lt0 : ∀ x ∈ p0, x.block < W.heap.size := by obtain ⟨m, hm⟩ := k0; exact DataW.trod_lt m _ _ _ hm
  obtain ⟨a0, len0, cap0, rfl⟩ := okWide_slice Tryd.underlying23 (hval 0 23 v0 rfl rfl)
  obtain ⟨z0, w0⟩ : ∃ zs, IsRow .i64 W a0 len0 cap0 zs := by
    obtain ⟨fuel, hf⟩ := h0
    rcases open_ints Tryd.underlying23 Tryd.underlying3 (by kernel_rfl) hf with ⟨hcs, _⟩ | ⟨x, l, c, zs, hcs, _, hl, hm, hz, _, hcell, hwz⟩
    · simp [Value.cells] at hcs
      obtain ⟨rfl, rfl, rfl⟩ := hcs
      exact ⟨[], .inl ⟨rfl, rfl, rfl, rfl⟩⟩
    · simp [Value.cells] at hcs
      obtain ⟨rfl, rfl, rfl⟩ := hcs
      exact ⟨zs, .inr ⟨_, rfl, hl, hm, by simpa using hz, hcell, hwz⟩⟩
  have k1 := h1
  have lt1 : ∀ x ∈ p1, x.block < W.heap.size := by obtain ⟨m, hm⟩ := k1; exact DataW.trod_lt m _ _ _ hm
  obtain ⟨a1, len1, cap1, rfl⟩ := okWide_slice Tryd.underlying34 (hval 1 34 v1 rfl rfl)
  obtain ⟨z1, w1⟩ : ∃ zs, IsPairs W a1 len1 cap1 zs := by
    obtain ⟨fuel, hf⟩ := h1
    rcases Go.Deep.open_slice_pairs Tryd.underlying34 Tryd.underlying39 (by kernel_rfl) rfl rfl (by kernel_rfl) (by kernel_rfl) hf with ⟨hcs, _⟩ | ⟨x, l, c, m, n, V0, V1, D0, D1, P0, P1, hcs, _, hl, hm, hmm, _, hx⟩
    · simp [Value.cells] at hcs
      obtain ⟨rfl, rfl, rfl⟩ := hcs
      exact ⟨[], .inl ⟨rfl, rfl, rfl, rfl⟩⟩
    · simp [Value.cells] at hcs
      obtain ⟨rfl, rfl, rfl⟩ := hcs
      have hmc : m = cap1 := by simpa using hmm
      subst hmc
      have each : ∀ i, i < m → ∃ q : Int × Int, V0 i = .int .i64 q.1 ∧ V1 i = .int .i64 q.2 := fun i hi => by
        obtain ⟨_, _, g0, g1⟩ := hx i hi
        obtain ⟨y0, e0, _, _⟩ := DataW.trod_int Tryd.underlying3 g0
        obtain ⟨y1, e1, _, _⟩ := DataW.trod_int Tryd.underlying3 g1
        simp at e0 e1
        exact ⟨(y0, y1), e0, e1⟩
      obtain ⟨q, hq⟩ := Go.Deep.choose_lt each
      refine ⟨(List.range m).map q, .inr ⟨_, rfl, hl, hm, by simp, fun i hi => ?_⟩⟩
      obtain ⟨c0, c1, _, _⟩ := hx i hi
      obtain ⟨q0, q1⟩ := hq i hi
      rw [c0, c1, q0, q1]
      simp [List.getD, hi]
  clear hA0 hval0
  refine (walk a0 len0 cap0 z0 a1 len1 cap1 z1 W w0 w1 hg).mono fun e W' ⟨he, bel⟩ => ?_
  subst he
  exact ⟨_, rfl, _, _, _, [], _, [], hW', trodAll_mk1 (shut_bool Tryd.underlying4 _), (trodAll_cons_mk (Below.trod laidOut (by kernel_rfl) (of_decide_eq_true (by kernel_rfl)) k0 bel lt0) (trodAll_cons_mk (Below.trod laidOut (by kernel_rfl) (of_decide_eq_true (by kernel_rfl)) k1 bel lt1) trodAll_mk0)), rfl, bel.frame _, fun h => by cases h⟩

theorem over : Rows.queuePlaysRow.holds Tryd.pinned (OpenSpec.ofChange Rows.queuePlaysSpec) :=
  OpenClaim.holds_of_wide 6 Tryd.f6 rfl rfl rfl rfl rfl rfl rfl ⟨rfl, rfl, rfl, rfl, rfl⟩ rfl rfl rfl rfl rfl (by kernel_rfl) Tryd.func6 (by kernel_rfl)
    (of_decide_eq_true (by kernel_rfl)) (by unfold Func.isWrapper; first | (rw [if_pos (by decide +kernel)]; kernel_rfl) | (rw [if_neg (by decide +kernel)]; exact ⟨rfl, rfl⟩))
    (fun os started H enc _ => lifted os started H enc)

theorem card : Rows.QueuePlaysCardSaid :=
  Claim7.holds_tied_plain_at .later [] [.handle] true (true, "940edae229ac3d63cb437d09b758a7e3f28d7ed594961a7ae43a102f17c97691") true
    over (fun _ h => by cases h) (by kernel_rfl) (fun _ h => by cases h) queuePlays_row_tie rfl ⟨rfl, rfl⟩ (by kernel_rfl) rfl
    (fun f fn hf hfn => by
      obtain rfl : f = 6 := Option.some.inj ((show Tryd.prog.funcNamed "tokenfold/foldlaw2.QueuePlays" = some 6 by kernel_rfl).symm.trans hf) |>.symm
      obtain rfl : fn = Tryd.f6 := (Option.some.inj (Tryd.func6.symm.trans hfn)).symm
      exact ⟨by kernel_rfl, fun j t ht => by
        rw [Tryd.params6] at ht
        have hm : t ∈ [23, 34] := by simpa using Array.mem_of_getElem? ht
        have hall : ([23, 34].all fun u => !Tryd.prog.wantsStandIn u) = true := by kernel_rfl
        exact (show Tryd.prog.wantsStandIn t = false by simpa using List.all_eq_true.1 hall t hm)⟩)
    (by kernel_rfl)

end Go.Proofs.YtccphnljogjbiagDoor.queuePlays
namespace Go.Proofs.YtccphnljogjbiagDoor
theorem queuePlays_holds : Rows.QueuePlaysCardSaid := queuePlays.card
#print axioms queuePlays_holds
end Go.Proofs.YtccphnljogjbiagDoor

