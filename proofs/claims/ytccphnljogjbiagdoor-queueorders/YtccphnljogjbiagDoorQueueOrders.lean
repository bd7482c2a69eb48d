/-
  QueueOrders holds for every list of conns: who waits is pulled in the order in which it came, each once, and never more than eight wait. The listed variable errors.errorType starts as the program's text lays it (the card's tie). No other condition.
-/
import Derived.Test.YtccphnljogjbiagDoorQueueWalks
import Derived.Test.YtccphnljogjbiagDoorTie
import Derived.Test.YtccphnljogjbiagDoorCards
import Derived.ProofKit
import Derived.Lib.SmallJoins
import Derived.LaidMore
import Derived.LaidHandle
import Derived.LaidLaws
import Derived.Stop.Joined
import Derived.SevenTiedAt
import Derived.Deep.SlicePairs
namespace Go.Proofs.YtccphnljogjbiagDoor.queueOrders
open Go.ChangeShapes Go.WideShapes Go.ChangeAt Go.RowKit Go.Joins
set_option linter.unusedVariables false

theorem own : ownKnob Tryd.prog.godebug = none := by kernel_rfl
theorem laidOut : laidOutB Tryd.prog = true := by kernel_rfl
def IsRow (k : IntKind) (w : World) (a : Option Addr) (len cap : Nat) (zs : List Int) : Prop :=
  (a = none ∧ len = 0 ∧ cap = 0 ∧ zs = []) ∨
  ∃ x, a = some x ∧ len ≤ cap ∧ cap ≤ maxLen ∧ zs.length = cap ∧ (∀ i, i < zs.length → w.cell? (x.add i) = some (.int k (zs.getD i 0))) ∧ ∀ n ∈ zs, (Lit.int k n).wf = true
def IsStrs (w : World) (a : Option Addr) (len cap : Nat) (zs : List ByteArray) : Prop :=
  (a = none ∧ len = 0 ∧ cap = 0 ∧ zs = []) ∨
  ∃ x, a = some x ∧ len ≤ cap ∧ cap ≤ maxLen ∧ zs.length = cap ∧ (∀ i, i < zs.length → w.cell? (x.add i) = some (.string (zs.getD i ByteArray.empty))) ∧ ∀ s ∈ zs, s.size ≤ maxLen
def IsPairs (w : World) (a : Option Addr) (len cap : Nat) (zs : List (Int × Int)) : Prop :=
  (a = none ∧ len = 0 ∧ cap = 0 ∧ zs = []) ∨
  ∃ x, a = some x ∧ len ≤ cap ∧ cap ≤ maxLen ∧ zs.length = cap ∧ ∀ i, i < cap → w.cell? (x.add (i * 2)) = some (.int .i64 (zs.getD i (0, 0)).1) ∧ w.cell? (x.add (i * 2 + 1)) = some (.int .i64 (zs.getD i (0, 0)).2)
def IsRows (w : World) (a : Option Addr) (len cap : Nat) (A : Nat → Option Addr) (L C : Nat → Nat) (Z : Nat → List Int) : Prop :=
  (a = none ∧ len = 0 ∧ cap = 0) ∨
  ∃ x, a = some x ∧ len ≤ cap ∧ cap ≤ maxLen ∧ ∀ r, r < cap → w.cell? (x.add r) = some (.slice (A r) (L r) (C r)) ∧ L r ≤ C r ∧ C r ≤ maxLen ∧ (Z r).length = C r ∧ (∀ n ∈ Z r, (Lit.int .i64 n).wf = true) ∧ (A r = none → C r = 0) ∧
    ∀ a', A r = some a' → ∀ c, c < C r → w.cell? (a'.add c) = some (.int .i64 ((Z r).getD c 0))


set_option maxHeartbeats 6400000 in
set_option maxRecDepth 8000 in
theorem walk1 (a : Option Addr) (len cap : Nat) (l : List (Int × Int)) (w : World) (hp : PRow w a len cap l) (hg : ErrType w) :
    Calls Tryd.prog 4 #[.slice a len cap] w fun e w' => e = .returned (.bool true) ∧ Below w.heap.size w w' := by
  obtain ⟨i0, hi, hz0, hz1, hz2'⟩ := info_parts infoConn
  have HG := hide hg
  have HP := hide hp
  clear hp hg
  go_enter Tryd.func4, Tryd.ntmps4
  go_wp2_with fail
  refine (qnew_any _).mono ?_
  rintro e w1 ⟨rfl, hq1, hb1⟩
  have HQ1 := hide hq1
  have HB1 := hide hb1
  clear hq1 hb1
  have C2 := hide (qoffer_any 0 1 w1 (unhide HQ1) (by decide) (unhide HB1).size)
  rw [show QueueM.offerErr [] (0, 1) = 0 by decide, show QueueM.offered [] (0, 1) = [(0, 1)] by decide, errV_zero rfl] at C2
  go_wp2_with fail
  refine (unhide C2).mono ?_
  rintro e w2 ⟨rfl, hs2⟩
  have HB2 := hide (hs2.below (unhide HQ1) (unhide HB1) (unhide HB1).size)
  obtain ⟨o2, hq2, -, -⟩ := hs2
  have HQ2 := hide hq2
  clear hq2
  clear C2 HQ1 HB1
  have C3 := hide (qoffer_any 0 2 w2 (unhide HQ2) (by decide) (unhide HB2).size)
  rw [show QueueM.offerErr [(0, 1)] (0, 2) = 0 by decide, show QueueM.offered [(0, 1)] (0, 2) = [(0, 1), (0, 2)] by decide, errV_zero rfl] at C3
  go_wp2_with fail
  refine (unhide C3).mono ?_
  rintro e w3 ⟨rfl, hs3⟩
  have HB3 := hide (hs3.below (unhide HQ2) (unhide HB2) (unhide HB2).size)
  obtain ⟨o3, hq3, -, -⟩ := hs3
  have HQ3 := hide hq3
  clear hq3
  clear C3 HQ2 HB2
  have C4 := hide (qoffer_any 0 1 w3 (unhide HQ3) (by decide) (unhide HB3).size)
  rw [show QueueM.offerErr [(0, 1), (0, 2)] (0, 1) = 7 by decide, show QueueM.offered [(0, 1), (0, 2)] (0, 1) = [(0, 1), (0, 2)] by decide, errV_pos (by omega)] at C4
  go_wp2_with fail
  refine (unhide C4).mono ?_
  rintro e w4 ⟨rfl, hs4⟩
  have HB4 := hide (hs4.below (unhide HQ3) (unhide HB3) (unhide HB3).size)
  obtain ⟨o4, hq4, -, -⟩ := hs4
  have HQ4 := hide hq4
  clear hq4
  clear C4 HQ3 HB3
  go_wp2_with fail
  refine (qpull_yes w4 (unhide HQ4) (by decide)).mono ?_
  rintro e w5 ⟨rfl, hs5⟩
  have HB5 := hide (hs5.below (unhide HQ4) (unhide HB4) (unhide HB4).size)
  obtain ⟨o5, hq5, -, -⟩ := hs5
  have HQ5 := hide hq5
  clear hq5
  clear HQ4 HB4 HQ5
  go_wp2_with fail
  have HF := hide (Held.fresh (w := w5) [.int .i64 0, .int .i64 1] 39 rfl)
  have HBa := hide (show Below w.heap.size w (w5.alloc (.cells #[.int .i64 0, .int .i64 1] 39)) from Below.alloc (unhide HB5) (unhide HB5).size _)
  change Hid (Held (w5.alloc (.cells #[.int .i64 0, .int .i64 1] 39)) _ _) at HF
  generalize (w5.alloc (.cells #[.int .i64 0, .int .i64 1] 39)) = wa at HF HBa ⊢
  refine (same_errno _ _ _ ((unhide HG).later (unhide HBa))).mono ?_
  rintro e w6 ⟨rfl, hb6⟩
  have HB6 := hide (bel3 (unhide HBa) (Below.refl _ _) hb6)
  obtain ⟨-, f1⟩ := ((unhide HF).later hb6).c2.1
  have fl := ((unhide HF).later hb6).2
  clear hb6 HF HBa HB5
  go_wp2_with fail
  refine (qnew_any _).mono ?_
  rintro e w7 ⟨rfl, hq7, hb7⟩
  have HQ7 := hide (show QIn 59 w.heap.size w7 w6.heap.size [] (.slice none 0 0) [] from ⟨none, hq7.down (unhide HB6).size, World.ownsRow_nil _ _ _ _, by simp⟩)
  have HB7 := hide (bel3 (unhide HB6) (Below.refl _ _) hb7)
  clear hq7 hb7 f1 fl HB6
  generalize w6.heap.size = b at HQ7 ⊢
  go_wp2
  go_loopw [10, 11] (fun v0 i wr => ∃ (k n vc : Nat) (va : Option Addr) (L : List (Int × Int)), k ≤ 40 ∧ i = .int .i64 k ∧ v0 = .slice va n vc ∧ n ≤ 8 ∧ Hid (L.length = n) ∧ Hid L.Nodup ∧ Hid (QIn 59 w.heap.size wr b L (.slice va n vc) L) ∧ Hid (Below w.heap.size w wr)) (fun _ i _ => 40 - (intOf i).toNat)
  case atStart => exact ⟨0, 0, 0, none, [], by omega, rfl, rfl, by decide, hide rfl, hide List.nodup_nil, HQ7, HB7⟩
  case round =>
    clear HQ7 HB7
    obtain ⟨k, n, vc, va, L, hk, rfl, rfl, hl8, HLn, HN, HQ, HB⟩ := hrel
    by_cases hkl : (k : Int) < (len : Int)
    · by_cases hk1 : (k : Int) < 40
      · obtain ⟨pb, off, rfl, hc0', hc1'⟩ := (unhide HP).2.2 k (by rw [(unhide HP).1]; omega)
        have hc0 := cell_later (unhide HB) hc0'
        have hc1 := cell_later (unhide HB) hc1'
        have hk0 : (0 : Int) ≤ (k : Int) := by omega
        have hbl : pb < wr.heap.size := World.block_lt_of_cell? _ _ hc0
        have HC0 := hide hc0'
        have HC1 := hide hc1'
        clear hc0' hc1'
        generalize l.getD k (0, 0) = c at hc0 hc1 HC0 HC1
        obtain ⟨s, m⟩ := c
        dsimp only at hc0 hc1 HC0 HC1
        obtain ⟨o, hq, hv, hap⟩ := unhide HQ
        have C := hide (qoffer_any s m wr hq (by rw [unhide HLn]; exact hl8) (unhide HB).size)
        have HT := hide (fun w' (hs : QStep 59 w.heap.size wr w' b o (QueueM.offered L (s, m))) => QIn.step (by decide) hq hv hap hs)
        have HU := hide (fun w' (hs : QStep 59 w.heap.size wr w' b o (QueueM.offered L (s, m))) => hs.below hq (unhide HB) (unhide HB).size)
        clear hq hv hap
        by_cases he : QueueM.offerErr L (s, m) = 0
        · obtain ⟨-, hni, h8⟩ := QueueM.offer_zero he
          rw [QueueM.offered_yes he] at C HT HU
          rw [he, errV_zero rfl] at C
          have HN2 := hide (show (L ++ [(s, m)]).Nodup from List.nodup_append.2 ⟨unhide HN, by simp, by intro a ha b hb; rw [List.mem_singleton.1 hb]; intro e; exact hni (e ▸ ha)⟩)
          clear he hni
          go_wp2_with fail
          refine (unhide C).mono ?_
          rintro e w2 ⟨rfl, hs⟩
          have HQ2 := hide (unhide HT _ hs)
          have HB2 := hide (unhide HU _ hs)
          clear hs C HT HU hc0 hc1
          have hc0 := cell_later (unhide HB2) (unhide HC0)
          have hc1 := cell_later (unhide HB2) (unhide HC1)
          have hbl2 : pb < w2.heap.size := World.block_lt_of_cell? _ _ hc0
          have hz2 := (unhide HB2).size
          obtain ⟨o2, -, hv2, -⟩ := unhide HQ2
          rw [unhide HLn] at hv2
          have HV2 := hide hv2
          have h8n : n < 8 := by rw [← unhide HLn]; exact h8
          clear hv2 h8
          go_wp2_with (at_builtin; refine wpList_append_lies _ rfl _ _ 34 rfl w.heap.size 39 i0 (.agg #[.int .i64 0, .int .i64 0]) 2 16 Tryd.underlying34 hi hz0 hz1 hz2' rfl (by decide) (.slice va n vc) n (flat L) rfl ((unhide HV2).alloc _) ⟨w2.heap.size, 0, none⟩ 1 1 [.int .i64 s, .int .i64 m] rfl rfl ?c1 ?c2 (by omega) ?c3 ?c4 ?c5 (w2.heap.size + 1) ?c6 ?_)
          case c1 => exact World.news_of_block (cs := #[.int .i64 s, .int .i64 m]) (t := 39) (fr := (0, 0)) (heap_alloc_new w2 _)
          case c2 => exact flat_one [(s, m)]
          case c3 => unfold maxLen; omega
          case c4 => omega
          case c5 => simp; omega
          case c6 => simp
          intro gg cp w3 hown1 hgrow hat hlt
          have HB3 := hide ((unhide HQ2).below (unhide HB2) (unhide HB2).size hgrow)
          have HQ3 := hide (QIn.snoc (by decide) (unhide HLn) (unhide HQ2) hown1 hgrow hat)
          clear hown1 hgrow hat hlt hc0 hc1
          go_wp2
          go_roundw
          case rel => exact ⟨k + 1, n + 1, cp, some ⟨gg, 0, none⟩, L ++ [(s, m)], by omega, by go_num, rfl, by omega, hide (by rw [List.length_append, unhide HLn]; rfl), HN2, HQ3, HB3⟩
          case measure => simp [intOf]; omega
        · rw [QueueM.offered_no he] at C HT HU
          rw [errV_pos he] at C
          clear he
          go_wp2_with fail
          refine (unhide C).mono ?_
          rintro e w2 ⟨rfl, hs⟩
          have HQ2 := hide (unhide HT _ hs)
          have HB2 := hide (unhide HU _ hs)
          clear hs C HT HU hc0 hc1
          go_wp2
          go_roundw
          case rel => exact ⟨k + 1, n, vc, va, L, by omega, by go_num, rfl, hl8, HLn, HN, HQ2, HB2⟩
          case measure => simp [intOf]; omega
      · clear HP
        go_wp2
        go_loopw [12] (fun i wr => ∃ j : Nat, j ≤ n ∧ i = .int .i64 j ∧ Hid (QIn 59 w.heap.size wr b (L.drop j) (.slice va n vc) L) ∧ Hid (Below w.heap.size w wr)) (fun i _ => n - (intOf i).toNat)
        case atStart => exact ⟨0, Nat.zero_le _, rfl, HQ, HB⟩
        case round =>
          clear HQ HB
          obtain ⟨j, hj, rfl, HQ, HB⟩ := hrel
          by_cases hjn : j < n
          · obtain ⟨wo, rfl⟩ : ∃ x, x = wr := ⟨_, rfl⟩
            have HR := hide (show PRow wo va n vc L by
              obtain ⟨_, _, hv, _⟩ := unhide HQ
              rw [unhide HLn] at hv
              obtain ⟨va4, vc4, he, hr4⟩ := own_row hv
              simp only [Value.slice.injEq] at he
              obtain ⟨rfl, -, rfl⟩ := he
              exact hr4)
            go_wp2
            go_loopw [13] (fun i wr => ∃ t : Nat, t ≤ j ∧ i = .int .i64 t ∧ Hid (Below wo.heap.size wo wr)) (fun i _ => j - (intOf i).toNat)
            case atStart => exact ⟨0, Nat.zero_le _, rfl, hide (Below.refl _ _)⟩
            case round =>
              obtain ⟨t, ht, rfl, HI⟩ := hrel
              by_cases htj : t < j
              · have HNE := hide (QueueM.unlike (unhide HN) htj (by rw [unhide HLn]; exact hjn))
                obtain ⟨rb, ro, rfl, c1, c2⟩ := ((unhide HR).later (unhide HI)).2.2 t (by rw [unhide HLn]; omega)
                obtain ⟨rb', ro', he, d1, d2⟩ := ((unhide HR).later (unhide HI)).2.2 j (by rw [unhide HLn]; exact hjn)
                simp only [Option.some.injEq, Addr.mk.injEq] at he
                obtain ⟨rfl, rfl, -⟩ := he
                generalize L.getD t (0, 0) = p at c1 c2 HNE
                generalize L.getD j (0, 0) = q at d1 d2 HNE
                obtain ⟨x, y⟩ := p
                obtain ⟨s, m⟩ := q
                dsimp only at c1 c2 d1 d2
                have HNE := hide (show ¬ (x = s ∧ y = m) from fun e => unhide HNE (by rw [e.1, e.2]))
                have ht0 : (0 : Int) ≤ (t : Int) := by omega
                have hj0 : (0 : Int) ≤ (j : Int) := by omega
                have htn : (t : Int) < (n : Int) := by omega
                have hjn' : (j : Int) < (n : Int) := by omega
                by_cases hy : x = s
                · have hz : ¬ y = m := fun e => unhide HNE ⟨hy, e⟩
                  subst hy
                  have e1 : (x == x) = true := by simp
                  have e2 : (y == m) = false := by simp [hz]
                  go_wp2
                  go_quiet (fail)
                  go_wp2
                  go_roundw
                  case rel => exact ⟨t + 1, by omega, by go_num, hide (below_drewN (unhide HI) _)⟩
                  case measure => simp [intOf]; omega
                · have e1 : (x == s) = false := by simp [hy]
                  go_wp2
                  go_quiet (fail)
                  go_wp2
                  go_roundw
                  case rel => exact ⟨t + 1, by omega, by go_num, hide (below_drewN (unhide HI) _)⟩
                  case measure => simp [intOf]; omega
              · skip
                have HQ3 := hide ((unhide HQ).later (unhide HI))
                have HR3 := hide ((unhide HR).later (unhide HI))
                have HB3 := hide (bel3 (unhide HB) (Below.refl _ _) (unhide HI))
                clear HQ HB HI HR
                generalize wr = w3 at HQ3 HR3 HB3 ⊢
                obtain ⟨o, hq, hv, hap⟩ := unhide HQ3
                rw [QueueM.drop_at (show j < L.length by rw [unhide HLn]; exact hjn)] at hq
                obtain ⟨rb, ro, rfl, d1', d2'⟩ := (unhide HR3).2.2 j (by rw [unhide HLn]; exact hjn)
                clear d1' d2'
                have HD := hide (fun W (h : PRow W (some ⟨rb, ro, none⟩) n vc L) => h.2.2 j (by rw [unhide HLn]; exact hjn))
                generalize L.getD j (0, 0) = q at hq HD
                obtain ⟨s, m⟩ := q
                have C := hide (qpull_yes w3 hq (by rw [List.length_drop, unhide HLn]; omega))
                have HT := hide (fun w' (hs : QStep 59 w.heap.size w3 w' b o (L.drop (j + 1))) => QIn.step (by decide) hq hv hap hs)
                have HU := hide (fun w' (hs : QStep 59 w.heap.size w3 w' b o (L.drop (j + 1))) => hs.below hq (unhide HB3) (unhide HB3).size)
                clear hq hv hap HQ3 HR3
                go_wp2_with fail
                refine (unhide C).mono ?_
                rintro e w4 ⟨rfl, hs⟩
                have HQ4 := hide (unhide HT _ hs)
                have HB4 := hide (unhide HU _ hs)
                clear hs C HT HU HB3
                obtain ⟨o4, -, hv4, -⟩ := unhide HQ4
                rw [unhide HLn] at hv4
                obtain ⟨va4, vc4, he, hr4⟩ := own_row hv4
                simp only [Value.slice.injEq] at he
                obtain ⟨rfl, -, rfl⟩ := he
                obtain ⟨rb', ro', he, d1, d2⟩ := unhide HD w4 hr4
                simp only [Option.some.injEq, Addr.mk.injEq] at he
                obtain ⟨rfl, rfl, -⟩ := he
                have rl : rb < w4.heap.size := World.block_lt_of_cell? _ _ d1
                clear hv4 hr4 HD
                have e1 : (s == s) = true := by simp
                have e2 : (m == m) = true := by simp
                have hj0 : (0 : Int) ≤ (j : Int) := by omega
                have hjn' : (j : Int) < (n : Int) := by omega
                go_wp2
                go_quiet (fail)
                go_wp2
                go_roundw
                case rel => exact ⟨j + 1, by omega, by go_num, hide ((unhide HQ4).later (below_drewN (Below.alloc (Below.refl _ _) (Nat.le_refl _) _) _)), hide (below_drewN (Below.alloc (unhide HB4) (unhide HB4).size _) _)⟩
                case measure => simp [intOf]; omega
          · obtain ⟨o, hq, -, -⟩ := unhide HQ
            rw [List.drop_of_length_le (by rw [unhide HLn]; omega)] at hq
            have C := hide (qpull_none wr hq)
            clear hq HQ
            go_wp2_with fail
            refine (unhide C).mono ?_
            rintro e w4 ⟨rfl, hb4⟩
            have HB4 := hide (bel3 (unhide HB) (Below.refl _ _) hb4)
            clear hb4 C
            go_wp2_with fail
            have HBa := hide (show Below w.heap.size w (w4.alloc (.cells #[.int .i64 0, .int .i64 0] 39)) from Below.alloc (unhide HB4) (unhide HB4).size _)
            generalize (w4.alloc (.cells #[.int .i64 0, .int .i64 0] 39)) = wa at HBa ⊢
            refine (same_errno _ _ _ ((unhide HG).later (unhide HBa))).mono ?_
            rintro e w5 ⟨rfl, hb5⟩
            have HB5 := hide (bel3 (unhide HBa) (Below.refl _ _) hb5)
            clear hb5
            go_wp2
            go_ret
            exact ⟨rfl, unhide HB5⟩
    · clear HP
      go_wp2
      go_loopw [12] (fun i wr => ∃ j : Nat, j ≤ n ∧ i = .int .i64 j ∧ Hid (QIn 59 w.heap.size wr b (L.drop j) (.slice va n vc) L) ∧ Hid (Below w.heap.size w wr)) (fun i _ => n - (intOf i).toNat)
      case atStart => exact ⟨0, Nat.zero_le _, rfl, HQ, HB⟩
      case round =>
        clear HQ HB
        obtain ⟨j, hj, rfl, HQ, HB⟩ := hrel
        by_cases hjn : j < n
        · obtain ⟨wo, rfl⟩ : ∃ x, x = wr := ⟨_, rfl⟩
          have HR := hide (show PRow wo va n vc L by
            obtain ⟨_, _, hv, _⟩ := unhide HQ
            rw [unhide HLn] at hv
            obtain ⟨va4, vc4, he, hr4⟩ := own_row hv
            simp only [Value.slice.injEq] at he
            obtain ⟨rfl, -, rfl⟩ := he
            exact hr4)
          go_wp2
          go_loopw [13] (fun i wr => ∃ t : Nat, t ≤ j ∧ i = .int .i64 t ∧ Hid (Below wo.heap.size wo wr)) (fun i _ => j - (intOf i).toNat)
          case atStart => exact ⟨0, Nat.zero_le _, rfl, hide (Below.refl _ _)⟩
          case round =>
            obtain ⟨t, ht, rfl, HI⟩ := hrel
            by_cases htj : t < j
            · have HNE := hide (QueueM.unlike (unhide HN) htj (by rw [unhide HLn]; exact hjn))
              obtain ⟨rb, ro, rfl, c1, c2⟩ := ((unhide HR).later (unhide HI)).2.2 t (by rw [unhide HLn]; omega)
              obtain ⟨rb', ro', he, d1, d2⟩ := ((unhide HR).later (unhide HI)).2.2 j (by rw [unhide HLn]; exact hjn)
              simp only [Option.some.injEq, Addr.mk.injEq] at he
              obtain ⟨rfl, rfl, -⟩ := he
              generalize L.getD t (0, 0) = p at c1 c2 HNE
              generalize L.getD j (0, 0) = q at d1 d2 HNE
              obtain ⟨x, y⟩ := p
              obtain ⟨s, m⟩ := q
              dsimp only at c1 c2 d1 d2
              have HNE := hide (show ¬ (x = s ∧ y = m) from fun e => unhide HNE (by rw [e.1, e.2]))
              have ht0 : (0 : Int) ≤ (t : Int) := by omega
              have hj0 : (0 : Int) ≤ (j : Int) := by omega
              have htn : (t : Int) < (n : Int) := by omega
              have hjn' : (j : Int) < (n : Int) := by omega
              by_cases hy : x = s
              · have hz : ¬ y = m := fun e => unhide HNE ⟨hy, e⟩
                subst hy
                have e1 : (x == x) = true := by simp
                have e2 : (y == m) = false := by simp [hz]
                go_wp2
                go_quiet (fail)
                go_wp2
                go_roundw
                case rel => exact ⟨t + 1, by omega, by go_num, hide (below_drewN (unhide HI) _)⟩
                case measure => simp [intOf]; omega
              · have e1 : (x == s) = false := by simp [hy]
                go_wp2
                go_quiet (fail)
                go_wp2
                go_roundw
                case rel => exact ⟨t + 1, by omega, by go_num, hide (below_drewN (unhide HI) _)⟩
                case measure => simp [intOf]; omega
            · skip
              have HQ3 := hide ((unhide HQ).later (unhide HI))
              have HR3 := hide ((unhide HR).later (unhide HI))
              have HB3 := hide (bel3 (unhide HB) (Below.refl _ _) (unhide HI))
              clear HQ HB HI HR
              generalize wr = w3 at HQ3 HR3 HB3 ⊢
              obtain ⟨o, hq, hv, hap⟩ := unhide HQ3
              rw [QueueM.drop_at (show j < L.length by rw [unhide HLn]; exact hjn)] at hq
              obtain ⟨rb, ro, rfl, d1', d2'⟩ := (unhide HR3).2.2 j (by rw [unhide HLn]; exact hjn)
              clear d1' d2'
              have HD := hide (fun W (h : PRow W (some ⟨rb, ro, none⟩) n vc L) => h.2.2 j (by rw [unhide HLn]; exact hjn))
              generalize L.getD j (0, 0) = q at hq HD
              obtain ⟨s, m⟩ := q
              have C := hide (qpull_yes w3 hq (by rw [List.length_drop, unhide HLn]; omega))
              have HT := hide (fun w' (hs : QStep 59 w.heap.size w3 w' b o (L.drop (j + 1))) => QIn.step (by decide) hq hv hap hs)
              have HU := hide (fun w' (hs : QStep 59 w.heap.size w3 w' b o (L.drop (j + 1))) => hs.below hq (unhide HB3) (unhide HB3).size)
              clear hq hv hap HQ3 HR3
              go_wp2_with fail
              refine (unhide C).mono ?_
              rintro e w4 ⟨rfl, hs⟩
              have HQ4 := hide (unhide HT _ hs)
              have HB4 := hide (unhide HU _ hs)
              clear hs C HT HU HB3
              obtain ⟨o4, -, hv4, -⟩ := unhide HQ4
              rw [unhide HLn] at hv4
              obtain ⟨va4, vc4, he, hr4⟩ := own_row hv4
              simp only [Value.slice.injEq] at he
              obtain ⟨rfl, -, rfl⟩ := he
              obtain ⟨rb', ro', he, d1, d2⟩ := unhide HD w4 hr4
              simp only [Option.some.injEq, Addr.mk.injEq] at he
              obtain ⟨rfl, rfl, -⟩ := he
              have rl : rb < w4.heap.size := World.block_lt_of_cell? _ _ d1
              clear hv4 hr4 HD
              have e1 : (s == s) = true := by simp
              have e2 : (m == m) = true := by simp
              have hj0 : (0 : Int) ≤ (j : Int) := by omega
              have hjn' : (j : Int) < (n : Int) := by omega
              go_wp2
              go_quiet (fail)
              go_wp2
              go_roundw
              case rel => exact ⟨j + 1, by omega, by go_num, hide ((unhide HQ4).later (below_drewN (Below.alloc (Below.refl _ _) (Nat.le_refl _) _) _)), hide (below_drewN (Below.alloc (unhide HB4) (unhide HB4).size _) _)⟩
              case measure => simp [intOf]; omega
        · obtain ⟨o, hq, -, -⟩ := unhide HQ
          rw [List.drop_of_length_le (by rw [unhide HLn]; omega)] at hq
          have C := hide (qpull_none wr hq)
          clear hq HQ
          go_wp2_with fail
          refine (unhide C).mono ?_
          rintro e w4 ⟨rfl, hb4⟩
          have HB4 := hide (bel3 (unhide HB) (Below.refl _ _) hb4)
          clear hb4 C
          go_wp2_with fail
          have HBa := hide (show Below w.heap.size w (w4.alloc (.cells #[.int .i64 0, .int .i64 0] 39)) from Below.alloc (unhide HB4) (unhide HB4).size _)
          generalize (w4.alloc (.cells #[.int .i64 0, .int .i64 0] 39)) = wa at HBa ⊢
          refine (same_errno _ _ _ ((unhide HG).later (unhide HBa))).mono ?_
          rintro e w5 ⟨rfl, hb5⟩
          have HB5 := hide (bel3 (unhide HBa) (Below.refl _ _) hb5)
          clear hb5
          go_wp2
          go_ret
          exact ⟨rfl, unhide HB5⟩

theorem walk (a0 : Option Addr) (len0 cap0 : Nat) (z0 : List (Int × Int)) (w : World) (w0 : IsPairs w a0 len0 cap0 z0) (hg : ErrType w) :
    Calls Tryd.prog 4 #[.slice a0 len0 cap0] w fun e w' => e = .returned (.bool true) ∧ Below w.heap.size w w' := by
  obtain ⟨l, hp⟩ := row_pairs w0
  exact walk1 a0 len0 cap0 l w hp hg


theorem gErr : Tryd.prog.globalNamed "errors.errorType" = some 0 := by kernel_rfl
theorem rtErr : (Tryd.prog.cutTypes.find? (·.1 == "internal/reflectlite.rtype")).map (·.2) = some 82 := by kernel_rfl
theorem oneRow : ((List.range 123).filter fun t => Tryd.prog.rowNamed t [101, 114, 114, 111, 114]) = [26] := by kernel_rfl
theorem sizeT : Tryd.prog.types.size = 123 := by kernel_rfl
theorem handle_of_laid {W : World} (h : laidMetH Tryd.prog Rows.queueOrdersRow.laid W) : ErrType W := by
  have h' : laidMet Tryd.prog [] W ∧ handlesMet Tryd.prog Rows.queueOrdersRow.laid W := h
  obtain ⟨name, u, ty, e1, e2, e3, e4, e5⟩ := h'.2 _ (List.mem_singleton.2 rfl)
  have en : name = [101, 114, 114, 111, 114] := (Option.some.inj e1).symm
  subst en
  obtain rfl := Option.some.inj (rtErr.symm.trans e2)
  have hm : ty ∈ (List.range 123).filter fun t => Tryd.prog.rowNamed t [101, 114, 114, 111, 114] := List.mem_filter.2 ⟨List.mem_range.2 (by rw [← sizeT]; exact e3), e4⟩
  rw [oneRow] at hm
  obtain rfl := List.mem_singleton.1 hm
  have hh : typeHandle Tryd.prog 26 = .pointer (some ⟨1, 26, none⟩) := by kernel_rfl
  rw [hh] at e5
  unfold ErrType
  simpa using World.var?_cell gErr e5 0
theorem door_met (os : Os) (args : Array Value) : laidMetH Tryd.prog Rows.queueOrdersRow.laid ((World.doorLaid Tryd.prog 400 os).forCall (fun _ _ => 0) ⟨#[], args, []⟩).memory :=
  laidMetH_of_parts (laidMet_nil _ _) (by kernel_rfl)


set_option maxRecDepth 100000 in
theorem lifted (os : Os) (started : os.Started) (H : Type) (enc : TypeId × Value → H) :
    ReturnsInHanded {} Tryd.checked os 4 .any (fun w args => (Rows.queueOrdersSpec.pre enc Tryd.prog Tryd.f4 [] false w args ∧ laidMetH Tryd.prog Rows.queueOrdersRow.laid w) ∧ sizedMet enc Tryd.prog Tryd.f4 (OpenSpec.ofChange Rows.queueOrdersSpec) false w args) (Rows.queueOrdersSpec.post enc Tryd.prog Tryd.f4 false true false false) := by
  refine returnsInHanded_of_change_and (C := Tryd.checked) (X := fun w _ => laidMetH Tryd.prog Rows.queueOrdersRow.laid w) (fun _ _ _ hh h => h.of_heap hh) own started (by kernel_rfl) Tryd.func4
    (ChangeSpec.witness_shaped (enc := enc) (C := Tryd.checked) (os := os) (X := fun w _ => laidMetH Tryd.prog Rows.queueOrdersRow.laid w) false (World.doorLaid Tryd.prog 400 os) #[.slice none 0 0] 8 rfl (World.shaped_of_RefB (by kernel_rfl) (by kernel_rfl)) (by kernel_rfl) (by kernel_rfl) (by kernel_rfl) (door_met os _)) ?_
  intro W base args ds gs before hval0 hW _ hsz hL _
  have hg := handle_of_laid hL
  have hval : ∀ (j : Nat) t v, Tryd.f4.params[j]? = some t → args[j]? = some v → Value.okWide Tryd.prog W .any base t v := hval0
  have hW' := hW
  obtain ⟨p, q, hA0, hV, rfl, hfz, hnd⟩ := hW
  have hA : DataW.TrodAll enc Tryd.prog W 0 (fun _ => true) true Tryd.f4.params.toList args.toList ds p := hA0
  rw [Tryd.params4] at hA hval
  obtain ⟨v0, vs0, d0, ds0, p0, q0, hargs, rfl, rfl, h0, r0⟩ := trodAll_cons hA
  obtain ⟨rfl, rfl, rfl⟩ := trodAll_nil r0
  obtain rfl : args = #[v0] := by cases args; simp_all
  obtain ⟨rfl, rfl⟩ := trodVars_none hV
  have k0 := h0
  have lt0 : ∀ x ∈ p0, x.block < W.heap.size := by obtain ⟨m, hm⟩ := k0; exact DataW.trod_lt m _ _ _ hm
  obtain ⟨a0, len0, cap0, rfl⟩ := okWide_slice Tryd.underlying34 (hval 0 34 v0 rfl rfl)
  obtain ⟨z0, w0⟩ : ∃ zs, IsPairs W a0 len0 cap0 zs := by
    obtain ⟨fuel, hf⟩ := h0
    rcases Go.Deep.open_slice_pairs Tryd.underlying34 Tryd.underlying39 (by kernel_rfl) rfl rfl (by kernel_rfl) (by kernel_rfl) hf with ⟨hcs, _⟩ | ⟨x, l, c, m, n, V0, V1, D0, D1, P0, P1, hcs, _, hl, hm, hmm, _, hx⟩
    · simp [Value.cells] at hcs
      obtain ⟨rfl, rfl, rfl⟩ := hcs
      exact ⟨[], .inl ⟨rfl, rfl, rfl, rfl⟩⟩
    · simp [Value.cells] at hcs
      obtain ⟨rfl, rfl, rfl⟩ := hcs
      have hmc : m = cap0 := by simpa using hmm
      subst hmc
      have each : ∀ i, i < m → ∃ q : Int × Int, V0 i = .int .i64 q.1 ∧ V1 i = .int .i64 q.2 := fun i hi => by
        obtain ⟨_, _, g0, g1⟩ := hx i hi
        obtain ⟨y0, e0, _, _⟩ := DataW.trod_int Tryd.underlying3 g0
        obtain ⟨y1, e1, _, _⟩ := DataW.trod_int Tryd.underlying3 g1
        simp at e0 e1
        exact ⟨(y0, y1), e0, e1⟩
      obtain ⟨q, hq⟩ := Go.Deep.choose_lt each
      refine ⟨(List.range m).map q, .inr ⟨_, rfl, hl, hm, by simp, fun i hi => ?_⟩⟩
      obtain ⟨c0, c1, _, _⟩ := hx i hi
      obtain ⟨q0, q1⟩ := hq i hi
      rw [c0, c1, q0, q1]
      simp [List.getD, hi]
  clear hA0 hval0
  refine (walk a0 len0 cap0 z0 W w0 hg).mono fun e W' ⟨he, bel⟩ => ?_
  subst he
  exact ⟨_, rfl, _, _, _, [], _, [], hW', trodAll_mk1 (shut_bool Tryd.underlying4 _), (trodAll_cons_mk (Below.trod laidOut (by kernel_rfl) (of_decide_eq_true (by kernel_rfl)) k0 bel lt0) trodAll_mk0), rfl, bel.frame _, fun h => by cases h⟩

theorem over : Rows.queueOrdersRow.holds Tryd.pinned (OpenSpec.ofChange Rows.queueOrdersSpec) :=
  OpenClaim.holds_of_wide 4 Tryd.f4 rfl rfl rfl rfl rfl rfl rfl ⟨rfl, rfl, rfl, rfl, rfl⟩ rfl rfl rfl rfl rfl (by kernel_rfl) Tryd.func4 (by kernel_rfl)
    (of_decide_eq_true (by kernel_rfl)) (by unfold Func.isWrapper; first | (rw [if_pos (by decide +kernel)]; kernel_rfl) | (rw [if_neg (by decide +kernel)]; exact ⟨rfl, rfl⟩))
    (fun os started H enc _ => lifted os started H enc)

theorem card : Rows.QueueOrdersCardSaid :=
  Claim7.holds_tied_plain_at .later [] [.handle] true (true, "940edae229ac3d63cb437d09b758a7e3f28d7ed594961a7ae43a102f17c97691") true
    over (fun _ h => by cases h) (by kernel_rfl) (fun _ h => by cases h) queueOrders_row_tie rfl ⟨rfl, rfl⟩ (by kernel_rfl) rfl
    (fun f fn hf hfn => by
      obtain rfl : f = 4 := Option.some.inj ((show Tryd.prog.funcNamed "tokenfold/foldlaw2.QueueOrders" = some 4 by kernel_rfl).symm.trans hf) |>.symm
      obtain rfl : fn = Tryd.f4 := (Option.some.inj (Tryd.func4.symm.trans hfn)).symm
      exact ⟨by kernel_rfl, fun j t ht => by
        rw [Tryd.params4] at ht
        have hm : t ∈ [34] := by simpa using Array.mem_of_getElem? ht
        have hall : ([34].all fun u => !Tryd.prog.wantsStandIn u) = true := by kernel_rfl
        exact (show Tryd.prog.wantsStandIn t = false by simpa using List.all_eq_true.1 hall t hm)⟩)
    (by kernel_rfl)

end Go.Proofs.YtccphnljogjbiagDoor.queueOrders
namespace Go.Proofs.YtccphnljogjbiagDoor
theorem queueOrders_holds : Rows.QueueOrdersCardSaid := queueOrders.card
#print axioms queueOrders_holds
end Go.Proofs.YtccphnljogjbiagDoor

