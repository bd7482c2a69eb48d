/-
  What log.records hands back, round by round; and what log.replayed comes to.
-/
import Derived.RangeFuncNested
import Derived.RangeFuncBound
import Derived.RangeFuncCalls
import Derived.RangeFuncLeaves
import Derived.RangeFuncBox
import Derived.RangeFuncWrites
import Derived.Shelf.Abstract
import Derived.Shelf.RegionOpen
import Derived.WalkKit
import Derived.OwnWalkIn
import Derived.TacticsInMore
import Derived.LoopNIn
import Derived.LoopIn
import Derived.Test.YtfhpfdlbgmgclakDoorLogRead
import Derived.Test.YtfhpfdlbgmgclakDoorLogMem
namespace Go.Proofs.YtfhpfdlbgmgclakDoor
open Go.RowKit Go.Shelf
attribute [local go_sem] Oper.semAt_some

def recVs (r : LogM.Rec) : Array Value := #[.agg #[.int .i64 r.1, .int .i64 r.2.1, .int .i64 r.2.2]]
/-- The bytes of some records lie in a block, from its start on. -/
def RecsAt (w : World) (b : Nat) (R : List LogM.Rec) : Prop := ∀ k, k < R.length → ∀ i v, (LogM.enc (R.getD k (0, 0, 0)))[i]? = some v → w.cell? ⟨b, 9 * k + i, none⟩ = some (.int .u8 v)
/-- What a round keeps. -/
def KpLog (n₀ Bs : Nat) (W W' : World) : Prop := Below n₀ W W' ∧ ∀ v, W.cell? ⟨Bs, 0, none⟩ = some v → W'.cell? ⟨Bs, 0, none⟩ = some v
theorem kplog_t {n₀ Bs : Nat} {A B C : World} (h : KpLog n₀ Bs A B) (k : KpLog n₀ Bs B C) : KpLog n₀ Bs A C := ⟨h.1.trans k.1, fun v hv => k.2 v (h.2 v hv)⟩
theorem kplog_b {n₀ Bs : Nat} {w : World} (hn : n₀ ≤ w.heap.size) (W : World) (l : Nat) (o o' : Obj) (hl : w.heap.size ≤ l) (h : W.heap[l]? = some o) (h1 : o.isCells = false) (h2 : o.isWalk = false) : KpLog n₀ Bs W (W.putObj l o') :=
  ⟨belowK_b hn W l o o' hl h h1 h2, fun v hv => cell_kept hv (grownBy_putObj' W l o') (fun r e => by cases e; exact ⟨o, h, h1⟩)⟩
theorem grown_none {w w' : World} (h : Below w.heap.size w w') : w.grownBy w' none := ⟨h.os, h.tape, h.output, h.size, fun k hk _ => h.block k hk⟩

set_option maxRecDepth 100000 in
set_option maxHeartbeats 2000000 in
theorem lrec1_in (l Bs n₀ b cap : Nat) (sv : Option Addr) (R : List LogM.Rec) (hw : LogM.Well R) (hlen : R.length ≤ 30) (hcap : 9 * R.length ≤ cap) (hb : R.length = 0 ∨ sv = some ⟨b, 0, none⟩ ∧ b < n₀) (n : Nat) (hn : 2 ≤ n) (J Jx : List LogM.Rec → World → Prop) (W : World) (hn₀ : n₀ ≤ W.heap.size) (hJ : AbidesFrom W.heap.size J)
    (hY : ∀ pre x W1, J pre W1 → pre.length < R.length → YieldAt Fence.wide (n - 1) Tryd.prog l (recVs x) W1 fun e W' =>
      (e = .returned (.bool true) ∧ J (pre ++ [x]) W' ∧ KpLog n₀ Bs W1 W') ∨ (e = .returned (.bool false) ∧ Jx (pre ++ [x]) W'))
    (hBs : W.cell? ⟨Bs, 0, none⟩ = some (.slice sv (9 * R.length) cap)) (hc : RecsAt W b R) (h0 : J [] W) :
    CallsIn Fence.wide n Tryd.prog 62 #[.func (.yield l) #[] #[], .pointer (some ⟨Bs, 0, none⟩)] W fun e W' => (∃ v, e = .returned v) ∧ ((∃ ys, ys = R ∧ J ys W') ∨ (∃ pre, pre <+: R ∧ Jx pre W')) := by
  refine callsIn_of_wp Tryd.func62 rfl trivial ?_ rfl
  simp only [Tryd.ntmps62, List.size_toArray, List.length_cons, List.length_nil, Nat.reduceAdd, Nat.reduceSub, Array.replicate_succ, Array.replicate_zero, List.push_toArray, List.append_toArray, List.nil_append, List.cons_append]
  have HC := hide hc
  have HY := hide hY
  have HJ := hide hJ
  have HW := hide hw
  have HBS := hide hBs
  clear hc hY hJ hw
  generalize hL : 9 * R.length = L at *
  have HL := hide hL
  clear hL
  gi_wp2
  gi_loopw [3] (fun i wr => ∃ k p : Nat, k ≤ R.length ∧ Hid (p = 9 * k) ∧ i = .int .i64 p ∧ Hid (J (R.take k) wr) ∧ Hid (Below n₀ W wr) ∧ wr.cell? ⟨Bs, 0, none⟩ = some (.slice sv L cap)) (fun i _ => L - (intOf i).toNat)
  case atStart => exact ⟨0, 0, by omega, hide rfl, rfl, hide h0, hide (Below.refl _ _), hBs⟩
  case round =>
    obtain ⟨k, p, hk, HP, rfl, HJs, HB, hcb⟩ := hrel
    by_cases hlt : k < R.length
    · obtain ⟨rfl, hbn⟩ := hb.resolve_left (by omega)
      obtain ⟨q, hq⟩ : ∃ q, q = p + 9 := ⟨_, rfl⟩
      have HQ := hide hq
      have hP := unhide HP
      have hLL := unhide HL
      have hqp := hide (show q - p = 9 by omega)
      have hqL : (q : Int) ≤ (L : Int) := by omega
      have hqL2 : q ≤ L := by omega
      have hqc : q ≤ cap := by omega
      have hqc2 : (q : Int) ≤ (cap : Int) := by omega
      have hpq : p ≤ q := by omega
      have hpq2 : (p : Int) ≤ (q : Int) := by omega
      have hpc : ¬ cap = p := by omega
      have hw9 : wrap64 ((p : Int) + 9) = (q : Int) := by rw [hq]; unfold wrap64; omega
      clear hq hP hLL
      obtain ⟨x, hx⟩ : ∃ x, R.getD k (0, 0, 0) = x := ⟨_, rfl⟩
      have hfit := (unhide HW).fits k hlt
      rw [hx] at hfit
      have hs := hide (LogM.take_snoc hlt)
      rw [hx] at hs
      obtain ⟨n1, u1, t1⟩ := x
      have CR := hide (fun (m cap' : Nat) (hm : m = 9) => show Calls Tryd.prog 63 #[.slice (some ⟨b, p, none⟩) m cap'] wr (fun e w' => e = .returned (.agg #[.int .i64 n1, .int .i64 u1, .int .i64 t1]) ∧ Below wr.heap.size wr w') from by
        subst hm
        exact lread_any n1 u1 t1 b p cap' wr hfit (fun i v hv => by
          have q := unhide HC k hlt i v (by rw [hx]; exact hv)
          rw [unhide HP]
          exact ((unhide HB).cell (p := ⟨b, 9 * k + i, none⟩) hbn).trans q))
      have hz : n₀ ≤ wr.heap.size := Nat.le_trans hn₀ (unhide HB).size
      have hlk : (R.take k).length < R.length := by simp; omega
      clear hx hfit
      gi_wp2_with (refine ⟨trivial, fun _ => by omega, ?_⟩; refine (callsIn_wide.2 (unhide CR _ _ (unhide hqp))).mono ?_; rintro e W1 ⟨rfl, hb1⟩; obtain ⟨fn, tmps, assign, body, hy, hR⟩ := unhide HY (R.take k) (n1, u1, t1) W1 (unhide HJ _ _ _ none (unhide HJs) (grown_none hb1) (fun r q => by cases q)) hlk; dsimp only [recVs] at hy)
      refine ⟨fun _ => by omega, hR.mono ?_⟩
      rintro e W3 (⟨rfl, hJ3, hk3⟩ | ⟨rfl, hJx3⟩)
      · have hc3 := hk3.2 _ (cell_later hb1 hcb)
        have HB3 := hide (((unhide HB).trans (hb1.mono hz)).trans hk3.1)
        have HJ3 := hide hJ3
        rw [← unhide hs] at HJ3
        clear hb1 hJ3 hk3 hcb
        gi_wp2
        go_roundw
        case rel => exact ⟨k + 1, q, by omega, hide (by rw [unhide HQ, unhide HP]; omega), by rw [hw9], HJ3, HB3, hc3⟩
        case measure =>
          rw [hw9]
          show L - (q : Int).toNat < L - (p : Int).toNat
          have e1 := unhide HQ
          clear hw9
          omega
      · gi_wp2
        refine bodyPost_ret (results_none rfl _ _ _) rfl ?_
        exact ⟨⟨_, rfl⟩, .inr ⟨R.take k ++ [(n1, u1, t1)], by rw [← unhide hs]; exact List.take_prefix _ _, hJx3⟩⟩
    · have hP := unhide HP
      have hLL := unhide HL
      have hp : ¬ (p : Int) + 9 ≤ (L : Int) := by omega
      have hw9 : wrap64 ((p : Int) + 9) = (p : Int) + 9 := by unfold wrap64; omega
      clear hP hLL
      gi_wp2
      go_end0
      exact ⟨⟨_, rfl⟩, .inl (by have q := unhide HJs; rwa [List.take_of_length_le (by omega)] at q)⟩

theorem lrecords_any (v : Value) (a : Option Addr) (n c : Nat) (hv : v = .slice a n c) (w : World) :
    Calls Tryd.prog 55 #[v] w fun e w' => e = .returned (.func (.func 62) #[] #[.pointer (some ⟨w.heap.size, 0, none⟩)]) ∧ w' = w.alloc (.cells #[v] 64) := by
  subst hv
  go_enter Tryd.func55, Tryd.ntmps55
  go_wp2
  go_ret
  exact ⟨rfl, rfl⟩
theorem lrecs_stops (n : Nat) (hn : 2 ≤ n) (Bs n₀ b cap : Nat) (sv : Option Addr) (R : List LogM.Rec) (hw : LogM.Well R) (hlen : R.length ≤ 30) (hcap : 9 * R.length ≤ cap) (hb : R.length = 0 ∨ sv = some ⟨b, 0, none⟩ ∧ b < n₀) (w : World) (hBl : Bs < w.heap.size) (hn₀ : n₀ ≤ w.heap.size)
    (hBs : w.cell? ⟨Bs, 0, none⟩ = some (.slice sv (9 * R.length) cap)) (hc : RecsAt w b R) :
    SeqStopsK Fence.wide n Tryd.prog 62 #[.pointer (some ⟨Bs, 0, none⟩)] recVs (KpLog n₀ Bs) (fun ys => ys = R) (fun pre => pre <+: R) R.length w := fun l J Jx W hW hJ _ hY h0 =>
  lrec1_in l Bs n₀ b cap sv R hw hlen hcap hb n hn J Jx W (Nat.le_trans hn₀ hW.size) hJ hY ((hW.cell (p := ⟨Bs, 0, none⟩) hBl).trans hBs)
    (fun k hk i v hv => (hW.cell (p := ⟨b, 9 * k + i, none⟩) (Nat.lt_of_lt_of_le (hb.resolve_left (by omega)).2 hn₀)).trans (hc k hk i v hv)) h0
set_option maxRecDepth 100000 in
set_option maxHeartbeats 4000000 in
theorem lreplayed_any (R : List LogM.Rec) (hw : LogM.Well R) (hlen : R.length ≤ 30) (b cap : Nat) (sv : Option Addr) (hcap : 9 * R.length ≤ cap) (w : World) (hb : R.length = 0 ∨ sv = some ⟨b, 0, none⟩ ∧ b < w.heap.size) (hc : RecsAt w b R) :
    Calls Tryd.prog 32 #[.slice sv (9 * R.length) cap] w fun e w' => ∃ a n c, e = .returned (.slice a n c) ∧ KRow w' a n c (LogM.hist R) ∧ Below w.heap.size w w' := by
  have HC := hide hc
  have HW := hide hw
  clear hc hw
  refine (callsIn_wide (n := 5)).1 ?_
  refine callsIn_of_wp_marks Tryd.func32 rfl trivial ?_ rfl
  simp only [Tryd.ntmps32, List.size_toArray, List.length_cons, List.length_nil, Nat.reduceAdd, Nat.reduceSub, Array.replicate_succ, Array.replicate_zero, List.push_toArray, List.append_toArray, List.nil_append, List.cons_append]
  gi_wp2_with (refine ⟨trivial, ?_⟩; refine (callsIn_wide.2 (lrecords_any _ _ _ _ rfl _)).mono ?_; rintro e w1 ⟨rfl, rfl⟩)
  have bO := Boxed.new w 31 (.slice none 0 0)
  have hcN : ((w.alloc (.cells #[.slice none 0 0] 31)).alloc (.cells #[.slice sv (9 * R.length) cap] 64)).cell? ⟨w.heap.size + 1, 0, none⟩ = some (.slice sv (9 * R.length) cap) := by simp
  have hB0 : Below w.heap.size w ((w.alloc (.cells #[.slice none 0 0] 31)).alloc (.cells #[.slice sv (9 * R.length) cap] 64)) := ((Below.refl _ w).alloc (Nat.le_refl _) _).alloc (by simp) _
  refine wpIn_rangeFunc_ownH rfl (by omega) (gf := 62) (lb := #[.pointer (some ⟨w.heap.size + 1, 0, none⟩)]) rfl trivial (enters_of Tryd.func62 (by kernel_rfl) rfl)
    (lrecs_stops (5 - 1) (by omega) (w.heap.size + 1) w.heap.size b cap sv R (unhide HW) hlen hcap hb _ (by simp) (by simp; omega) hcN (fun k hk i v hv => (hB0.cell (p := ⟨b, 9 * k + i, none⟩) (hb.resolve_left (by omega)).2).trans (unhide HC k hk i v hv))) kplog_t (kplog_b (by simp; omega)) (Below.refl _ _) (fun _ => rfl)
    (fun pre W => (∃ a n c, Boxed W w.heap.size 31 (.slice a n c) ∧ KRow W a n c (LogM.hist pre)) ∧ Below w.heap.size w W)
    (fun _ _ _ => False)
    (OwnFrom.and (Own.from (fun s A B row hs hg hr => by
      obtain ⟨a, n, c, h1, h2⟩ := hs
      exact ⟨a, n, c, h1.kept hg (fun e' => by obtain ⟨o, ho, hc⟩ := hr _ e'.symm; rw [show A.heap[w.heap.size]? = _ from h1] at ho; cases ho; cases hc), row_typed h2.1 h2.2 (fun k cs fr h => (grownBy_keeps_cells hg hr h rfl).trans h)⟩) _) (ownFrom_below (Nat.le_refl _) (by simp; omega)))
    (fun _ _ _ _ _ hs _ _ => hs)
    ⟨⟨none, 0, 0, bO.alloc _, nil_krow _⟩, hB0⟩
    (fun x a' W => ∃ Bx, W.heap[Bx]? = some (.cells #[.int .i64 x.1, .int .i64 x.2.1, .int .i64 x.2.2] 72 (0, 0)) ∧ a' = { tmps := #[.slice sv (9 * R.length) cap, undef, .slice none 0 0, .pointer (some ⟨w.heap.size, 0, none⟩), .pointer (some ⟨Bx, 0, none⟩), undef, undef, .slice sv (9 * R.length) cap, .func (.func 62) #[] #[.pointer (some ⟨w.heap.size + 1, 0, none⟩)], .agg #[.int .i64 x.1, .int .i64 x.2.1, .int .i64 x.2.2], undef, undef, undef, undef, undef, undef, undef, undef, undef, undef, undef, undef, undef, undef, undef], defers := [] })
    (fun x a' => Own.from (fun s A B row hs hg hr => by
      obtain ⟨Bx, h2, h3⟩ := hs
      exact ⟨Bx, (grownBy_keeps_cells hg hr h2 rfl).trans h2, h3⟩) _) ?assign ?body ?done ?stop
  case assign =>
    rintro l pre ⟨n1, u1, t1⟩ W K hi hK
    have HI := hide hi
    have HK := hide hK
    clear hi hK
    dsimp only [recVs]
    gi_wp2
    obtain ⟨⟨a, n, c, h1, h2⟩, hB⟩ := unhide HI
    exact unhide HK _ _ ((KeepsOthers.alloc _ _).from _) ⟨(Below.refl _ W).alloc hB.size _, fun v hv => cell_later ((Below.refl _ W).alloc (Nat.le_refl _) _) hv⟩ ⟨⟨a, n, c, h1.alloc _, h2.later ((Below.refl _ W).alloc (Nat.le_refl _) _)⟩, hB.alloc hB.size _⟩ ⟨W.heap.size, heap_alloc_new W _, rfl⟩
  case body =>
    rintro l pre ⟨n1, u1, t1⟩ a' W hl ⟨r, hr⟩ ⟨⟨a, n, c, hv, hrow⟩, hB⟩ ⟨Bx, hBx, rfl⟩ hlt
    dsimp only at hBx
    have c0 := hv.cell
    have b0 : W.cell? ⟨Bx, 0, none⟩ = some (.int .i64 n1) := by rw [Go.Lib.cell_of_heap hBx]; rfl
    have b1 : W.cell? ⟨Bx, 1, none⟩ = some (.int .i64 u1) := by rw [Go.Lib.cell_of_heap hBx]; rfl
    have b2 : W.cell? ⟨Bx, 2, none⟩ = some (.int .i64 t1) := by rw [Go.Lib.cell_of_heap hBx]; rfl
    have CS := hide (sspend_typed n1 u1 t1 W hrow.1)
    have HV := hide hv
    have HR := hide hrow
    have HB := hide hB
    clear hv hrow hB hBx hr HC hcN bO hB0
    by_cases he : LogM.err (LogM.hist pre) (n1, u1, t1) = 0
    · have HN := hide (show SpentM.spend (LogM.hist pre) n1 u1 t1 = LogM.hist (pre ++ [(n1, u1, t1)]) by rw [LogM.hist_snoc, LogM.next_yes he])
      rw [errV_zero (show SpentM.spendErr (LogM.hist pre) n1 u1 t1 = 0 from he), unhide HN] at CS
      clear he
      gi_wp2_with (refine ⟨trivial, ?_⟩; refine (CallsIn.inRound l (callsIn_wide.2 (unhide CS))).mono ?_; rintro e W1 ⟨a1, n2, c1, rfl, hp1, ⟨_, hk1⟩, hb1⟩; have hv1 : Boxed W1 w.heap.size 31 (.slice a n c) := (hb1.block _ (unhide HV).lt).trans (unhide HV); have d0 := hv1.cell; have f0 := hv1.frozen; have hl1 := hv1.lt; have HV1 := hide hv1; have HB1 := hide hb1; have HP1 := hide (And.intro hp1 hk1); clear hv1 hb1 hp1 hk1 c0 b0 b1 b2)
      have hz := (unhide HB).size
      have hb2 := (unhide HB1).mono hz
      have hs := Still.set (S := [31]) (show W1.heap[w.heap.size]? = some (.cells #[.slice a n c] 31 (0, 0)) from unhide HV1) (by simp) 0 (.slice a1 n2 c1)
      refine ⟨(KeepsOthers.trans ⟨(unhide HB1).size, fun k o h _ => ((unhide HB1).block k (Array.getElem?_eq_some_iff.1 h).1).trans h⟩ (KeepsOthers.setCell _ _ _)).from _, ⟨hb2.setCell (p := ⟨w.heap.size, 0, none⟩) (Nat.le_refl _) _, fun v hv => ?_⟩, ⟨a1, n2, c1, heap_put (unhide HV1) _, KRow.still (unhide HP1) hs (by decide)⟩, ((unhide HB).trans hb2).setCell (p := ⟨w.heap.size, 0, none⟩) (Nat.le_refl _) _⟩
      rw [World.cell?_setCell_other (h := by simp)]
      exact cell_later (unhide HB1) hv
    · have HN := hide (show LogM.hist pre = LogM.hist (pre ++ [(n1, u1, t1)]) by rw [LogM.hist_snoc, LogM.next_no he])
      rw [errV_pos (show ¬ SpentM.spendErr (LogM.hist pre) n1 u1 t1 = 0 from he)] at CS
      clear he
      gi_wp2_with (refine ⟨trivial, ?_⟩; refine (CallsIn.inRound l (callsIn_wide.2 (unhide CS))).mono ?_; rintro e W1 ⟨a1, n2, c1, rfl, -, -, hb1⟩; have hv1 : Boxed W1 w.heap.size 31 (.slice a n c) := (hb1.block _ (unhide HV).lt).trans (unhide HV); have HV1 := hide hv1; have HB1 := hide hb1; clear hv1 hb1 c0 b0 b1 b2)
      have hz := (unhide HB).size
      have hb2 := (unhide HB1).mono hz
      exact ⟨KeepsOthers.from ⟨(unhide HB1).size, fun k o h _ => ((unhide HB1).block k (Array.getElem?_eq_some_iff.1 h).1).trans h⟩ _, ⟨hb2, fun v hv => cell_later (unhide HB1) hv⟩, ⟨a, n, c, unhide HV1, by rw [← unhide HN]; exact (unhide HR).later (unhide HB1)⟩, (unhide HB).trans hb2⟩
  case done =>
    rintro D ys W hD rfl ⟨⟨a, n, c, hv, hrow⟩, hB⟩ hK
    have hc := hv.cell
    gi_wp2
    refine ⟨by simp, .inl ⟨_, _, rfl, run_takeDeferred hK, ?_⟩⟩
    exact ⟨_, results_tmp rfl _ _ _, a, n, c, rfl, row_typed hrow.1 hrow.2 (fun k cs fr h => (grownBy_keeps_cells (grownBy_putObj' W D _) (fun r e => by cases e; exact ⟨_, hK, rfl⟩) h rfl).trans h), hB.trans (belowK_b (w := w) (Nat.le_refl _) W D _ _ (by simp at hD; omega) hK rfl rfl)⟩
  case stop =>
    rintro D c pre W _ _ h _
    exact h.elim
end Go.Proofs.YtfhpfdlbgmgclakDoor
