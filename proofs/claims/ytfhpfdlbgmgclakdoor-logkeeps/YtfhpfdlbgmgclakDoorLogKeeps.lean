/-
  LogKeeps holds for every list of steps, syncs, fails and keeps: what is safe is kept: behind a crash there is what as many records as are whole among the bytes that are left come to; what stopped did nothing. The listed variable errors.errorType starts as the program's text lays it (the card's tie). No other condition.
-/
import Derived.Test.YtfhpfdlbgmgclakDoorLogKeepsMem
import Derived.Test.YtfhpfdlbgmgclakDoorTie
import Derived.Test.YtfhpfdlbgmgclakDoorCards
import Derived.ProofKit
import Derived.Lib.SmallJoins
import Derived.LaidMore
import Derived.LaidHandle
import Derived.LaidLaws
import Derived.Stop.Joined
import Derived.SevenTiedAt
import Derived.Deep.SlicePairs
import Derived.Deep.Matrix
import Derived.Deep.Cut
import Derived.Deep.CutRange
namespace Go.Proofs.YtfhpfdlbgmgclakDoor.logKeeps
open Go.ChangeShapes Go.WideShapes Go.ChangeAt Go.RowKit Go.Joins
set_option linter.unusedVariables false

theorem own : ownKnob Tryd.prog.godebug = none := by kernel_rfl
theorem laidOut : laidOutB Tryd.prog = true := by kernel_rfl
def IsRow (k : IntKind) (w : World) (a : Option Addr) (len cap : Nat) (zs : List Int) : Prop :=
  (a = none ∧ len = 0 ∧ cap = 0 ∧ zs = []) ∨
  ∃ x, a = some x ∧ len ≤ cap ∧ cap ≤ maxLen ∧ zs.length = cap ∧ (∀ i, i < zs.length → w.cell? (x.add i) = some (.int k (zs.getD i 0))) ∧ ∀ n ∈ zs, (Lit.int k n).wf = true
def IsStrs (w : World) (a : Option Addr) (len cap : Nat) (zs : List ByteArray) : Prop :=
  (a = none ∧ len = 0 ∧ cap = 0 ∧ zs = []) ∨
  ∃ x, a = some x ∧ len ≤ cap ∧ cap ≤ maxLen ∧ zs.length = cap ∧ (∀ i, i < zs.length → w.cell? (x.add i) = some (.string (zs.getD i ByteArray.empty))) ∧ ∀ s ∈ zs, s.size ≤ maxLen
def IsPairs (w : World) (a : Option Addr) (len cap : Nat) (zs : List (Int × Int)) : Prop :=
  (a = none ∧ len = 0 ∧ cap = 0 ∧ zs = []) ∨
  ∃ x, a = some x ∧ len ≤ cap ∧ cap ≤ maxLen ∧ zs.length = cap ∧ ∀ i, i < cap → w.cell? (x.add (i * 2)) = some (.int .i64 (zs.getD i (0, 0)).1) ∧ w.cell? (x.add (i * 2 + 1)) = some (.int .i64 (zs.getD i (0, 0)).2)
def IsRows (w : World) (a : Option Addr) (len cap : Nat) (A : Nat → Option Addr) (L C : Nat → Nat) (Z : Nat → List Int) : Prop :=
  (a = none ∧ len = 0 ∧ cap = 0) ∨
  ∃ x, a = some x ∧ len ≤ cap ∧ cap ≤ maxLen ∧ ∀ r, r < cap → w.cell? (x.add r) = some (.slice (A r) (L r) (C r)) ∧ L r ≤ C r ∧ C r ≤ maxLen ∧ (Z r).length = C r ∧ (∀ n ∈ Z r, (Lit.int .i64 n).wf = true) ∧ (A r = none → C r = 0) ∧
    ∀ a', A r = some a' → ∀ c, c < C r → w.cell? (a'.add c) = some (.int .i64 ((Z r).getD c 0))

attribute [local go_sem ↓] Go.wp_at_zero Go.wp_at_succ

theorem infoRow : (Tryd.prog.info? 31).map (fun i => (i.zero, i.size, i.bytes)) = some (some (.slice none 0 0), 1, 24) := by kernel_rfl
theorem infoInt : (Tryd.prog.info? 3).map (fun i => (i.zero, i.size, i.bytes)) = some (some (.int .i64 0), 1, 8) := by kernel_rfl
/-- What came in as rows: where they lie, and each as a list. -/
theorem rows_in {w : World} {a : Option Addr} {len cap : Nat} {A : Nat → Option Addr} {L C : Nat → Nat} {Z : Nat → List Int} (h : IsRows w a len cap A L C Z) (hz : 0 < len) :
    ∃ b off, a = some ⟨b, off, none⟩ ∧ ∀ r, r < len → w.cell? ⟨b, off + r, none⟩ = some (.slice (A r) (L r) (C r)) ∧ ∀ k, k < L r → ∃ b' off' z, A r = some ⟨b', off', none⟩ ∧ w.cell? ⟨b', off' + k, none⟩ = some (.int .i64 z) := by
  rcases h with ⟨_, rfl, _⟩ | ⟨⟨b, off, spot⟩, rfl, hl, hm, hr⟩
  · omega
  · have hspot : spot = none := by simpa [Addr.add] using World.cell?_spot (hr 0 (by omega)).1
    subst hspot
    refine ⟨b, off, rfl, fun r hlt => ?_⟩
    obtain ⟨h1, h2, h3, h4, h5, h6, h7⟩ := hr r (by omega)
    rw [Go.WideShapes.add_plain] at h1
    refine ⟨h1, fun k hk => ?_⟩
    cases ha : A r with
    | none => have := h6 ha; omega
    | some a' =>
      obtain ⟨b', off', spot'⟩ := a'
      have q := h7 _ ha
      have hs' : spot' = none := by simpa [Addr.add] using World.cell?_spot (q 0 (by omega))
      subst hs'
      have q0 := q k (by omega)
      rw [Go.WideShapes.add_plain] at q0
      exact ⟨b', off', _, rfl, q0⟩
/-- What came in as ints, by its place. -/
theorem ints_in {w : World} {a : Option Addr} {len cap : Nat} {z : List Int} (h : IsRow .i64 w a len cap z) : ∀ k, k < len → ∃ b off n, a = some ⟨b, off, none⟩ ∧ w.cell? ⟨b, off + k, none⟩ = some (.int .i64 n) ∧ -9223372036854775808 ≤ n ∧ n ≤ 9223372036854775807 := by
  obtain ⟨l, hl, hi, hw, -⟩ := row_ints rfl h
  intro k hk
  obtain ⟨b, off, e, hc⟩ := hi.2 k (by omega)
  refine ⟨b, off, _, e, hc, ?_⟩
  have hm : l.getD k 0 ∈ l := by rw [List.getD, List.getElem?_eq_getElem (by omega)]; exact List.getElem_mem _
  have q := hw _ hm
  generalize l.getD k 0 = z at q ⊢
  simp [Lit.wf, IntKind.min, IntKind.max, IntKind.bits, IntKind.signed] at q
  omega
theorem reg_step4 {W W1 W2 : World} {c d0 d1 d2 : Addr} {v v0 v1 v2 : Value} (h : Hid (Below W.heap.size W W1) ∧ W1.cell? c = some v ∧ W1.cell? d0 = some v0 ∧ W1.cell? d1 = some v1 ∧ W1.cell? d2 = some v2) (hb : Below W1.heap.size W1 W2) :
    Hid (Below W.heap.size W W2) ∧ W2.cell? c = some v ∧ W2.cell? d0 = some v0 ∧ W2.cell? d1 = some v1 ∧ W2.cell? d2 = some v2 :=
  ⟨hide (Below.trans (unhide h.1) (hb.mono (unhide h.1).size)), cell_later hb h.2.1, cell_later hb h.2.2.1, cell_later hb h.2.2.2.1, cell_later hb h.2.2.2.2⟩
theorem reg_start4 {W : World} {c d0 d1 d2 : Addr} {v v0 v1 v2 : Value} (h : W.cell? c = some v) (h0 : W.cell? d0 = some v0) (h1 : W.cell? d1 = some v1) (h2 : W.cell? d2 = some v2) :
    Hid (Below W.heap.size W W.drew) ∧ W.drew.cell? c = some v ∧ W.drew.cell? d0 = some v0 ∧ W.drew.cell? d1 = some v1 ∧ W.drew.cell? d2 = some v2 :=
  ⟨hide ((Below.refl _ _).drew), by rw [World.cell?_drew]; exact h, by rw [World.cell?_drew]; exact h0, by rw [World.cell?_drew]; exact h1, by rw [World.cell?_drew]; exact h2⟩
theorem reg_step1 {W W1 W2 : World} {c : Addr} {v : Value} (h : Hid (Below W.heap.size W W1) ∧ W1.cell? c = some v) (hb : Below W1.heap.size W1 W2) : Hid (Below W.heap.size W W2) ∧ W2.cell? c = some v := ⟨hide (Below.trans (unhide h.1) (hb.mono (unhide h.1).size)), cell_later hb h.2⟩
theorem reg_start1 {W : World} {c : Addr} {v : Value} (h : W.cell? c = some v) : Hid (Below W.heap.size W W.drew) ∧ W.drew.cell? c = some v := ⟨hide ((Below.refl _ _).drew), by rw [World.cell?_drew]; exact h⟩
theorem reg_step2 {W W1 W2 : World} {c d : Addr} {v u : Value} (h : Hid (Below W.heap.size W W1) ∧ W1.cell? c = some v ∧ W1.cell? d = some u) (hb : Below W1.heap.size W1 W2) : Hid (Below W.heap.size W W2) ∧ W2.cell? c = some v ∧ W2.cell? d = some u := ⟨hide (Below.trans (unhide h.1) (hb.mono (unhide h.1).size)), cell_later hb h.2.1, cell_later hb h.2.2⟩
theorem reg_beg2 {W : World} {c d : Addr} {v u : Value} (h : W.cell? c = some v) (h2 : W.cell? d = some u) : Hid (Below W.heap.size W W.drew) ∧ W.drew.cell? c = some v ∧ W.drew.cell? d = some u := ⟨hide ((Below.refl _ _).drew), by rw [World.cell?_drew]; exact h, by rw [World.cell?_drew]; exact h2⟩

def x1 : LogM.St := ⟨[(5, 10, 1)], [], 0, -1, false⟩
def x2 : LogM.St := ⟨[(5, 10, 1)], [], 1, -1, false⟩
def x3 : LogM.St := ⟨[(5, 10, 1), (6, 10, 1)], [], 1, -1, false⟩
theorem one_ways : (LogM.spendErr LogM.new (5, 10, 1) = 0 ∧ LogM.spend LogM.new (5, 10, 1) = x1) ∧ (LogM.syncErr x1 = 0 ∧ LogM.sync x1 = x2) ∧ (LogM.spendErr x2 (6, 10, 1) = 0 ∧ LogM.spend x2 (6, 10, 1) = x3) ∧ LogM.crash x3 0 = x2 ∧ LogM.hist x2.R = [(5, 10)] ∧ LogM.size x2 = 9 :=
  ⟨⟨by decide, rfl⟩, ⟨by decide, rfl⟩, ⟨by decide, rfl⟩, rfl, by decide, rfl⟩
/-- What the reference tells of a Spend, with what the play adds. -/
def refErr (E : Int) (full : Bool) : Int := if E = 0 ∧ full = true then 4 else E
theorem sync_right {x : LogM.St} (hg : LogM.Good x) (h : LogM.syncErr x = 0) : 9 * (LogM.sync x).s = LogM.size (LogM.sync x) := by
  unfold LogM.syncErr at h
  unfold LogM.sync
  by_cases hs : x.stop = true
  · rw [if_pos hs] at h; omega
  · rw [if_neg hs] at h ⊢
    by_cases hz : x.left = 0
    · rw [if_pos hz] at h; omega
    · rw [if_neg hz]
      have hh := hg.whole (by simpa using hs)
      unfold LogM.size
      simp [hh]
theorem sync_R (x : LogM.St) : (LogM.sync x).R = x.R := by
  unfold LogM.sync; split
  · rfl
  · split <;> rfl
theorem spend_told {x : LogM.St} (hg : LogM.Good x) (r : LogM.Rec) : (LogM.spendErr x r = 0 ∧ refErr (LogM.err (LogM.hist x.R) r) (decide (x.R.length = 30)) = 0 ∧ LogM.err (LogM.hist x.R) r = 0 ∧ (LogM.spend x r).R = x.R ++ [r] ∧ LogM.size (LogM.spend x r) = LogM.size x + 9 ∧ LogM.size x = 9 * x.R.length) ∨
    (¬ LogM.spendErr x r = 0 ∧ (LogM.spend x r).R = x.R ∧ (LogM.spendErr x r = 6 ∨ LogM.spendErr x r = refErr (LogM.err (LogM.hist x.R) r) (decide (x.R.length = 30)))) := by
  unfold refErr
  rcases LogM.spend_ways x r with ⟨h1, e, s⟩ | ⟨h1, h2, e, s⟩ | ⟨h1, h2, h3, e, s⟩ | ⟨h1, h2, h3, h4, e, s⟩ | ⟨h1, h2, h3, h4, e, s⟩
  · exact .inr ⟨by omega, by rw [s], .inl e⟩
  · exact .inr ⟨by rw [e]; exact h2, by rw [s], .inr (by rw [e, if_neg (fun q => h2 q.1)])⟩
  · exact .inr ⟨by omega, by rw [s], .inr (by rw [e, if_pos ⟨h2, by simp [h3]⟩])⟩
  · exact .inr ⟨by omega, by rw [s], .inl e⟩
  · refine .inl ⟨e, by rw [if_neg (by simp [h3])]; exact h2, h2, by rw [s], ?_, ?_⟩
    · rw [s]
      unfold LogM.size
      simp
      omega
    · unfold LogM.size
      rw [hg.whole h1]
      simp
theorem crash_high (x : LogM.St) (K : Int) : LogM.keeps x K = (9 * x.s + (min (max K 0) ((LogM.size x : Int) - 9 * x.s)).toNat) / 9 := rfl

set_option maxHeartbeats 25600000 in
set_option maxRecDepth 16000 in
theorem walk1 (a0 : Option Addr) (len0 cap0 : Nat) (A : Nat → Option Addr) (Lr C : Nat → Nat) (Zr : Nat → List Int) (a1 : Option Addr) (len1 cap1 : Nat) (z1 : List Int) (a2 : Option Addr) (len2 cap2 : Nat) (z2 : List Int) (a3 : Option Addr) (len3 cap3 : Nat) (z3 : List Int) (w : World)
    (hm : IsRows w a0 len0 cap0 A Lr C Zr) (h1 : IsRow .i64 w a1 len1 cap1 z1) (h2 : IsRow .i64 w a2 len2 cap2 z2) (h3 : IsRow .i64 w a3 len3 cap3 z3) (hb0 : len0 ≤ 9223372036854775807 ∧ len1 ≤ 9223372036854775807 ∧ len2 ≤ 9223372036854775807 ∧ len3 ≤ 9223372036854775807) (hg : ErrType w) :
    Calls Tryd.prog 3 #[.slice a0 len0 cap0, .slice a1 len1 cap1, .slice a2 len2 cap2, .slice a3 len3 cap3] w fun e w' => e = .returned (.bool true) ∧ Below w.heap.size w w' := by
  have HG0 := hide hg
  have HM := hide (fun hz => rows_in hm hz)
  have HI1 := hide (ints_in h1)
  have HI2 := hide (ints_in h2)
  have HI3 := hide (ints_in h3)
  obtain ⟨bl0, bl1, bl2, bl3⟩ := hb0
  clear hg hm h1 h2 h3
  obtain ⟨⟨o1, o2⟩, ⟨o3, o4⟩, ⟨o5, o6⟩, o7, o8, o9⟩ := one_ways
  have K1 := hide (fun (W : World) (h : LogAt w.heap.size W w.heap.size LogM.new) (hb : Below w.heap.size w W) => lspend_any 5 10 1 W w h hb hb.size)
  rw [o1, o2, errV_zero rfl] at K1
  have K2 := hide (fun (W : World) (h : LogAt w.heap.size W w.heap.size x1) (hb : Below w.heap.size w W) => lsync_any W w h hb)
  rw [o3, o4, errV_zero rfl] at K2
  have K3 := hide (fun (W : World) (h : LogAt w.heap.size W w.heap.size x2) (hb : Below w.heap.size w W) => lspend_any 6 10 1 W w h hb hb.size)
  rw [o5, o6, errV_zero rfl] at K3
  have K4 := hide (fun (W : World) (h : LogAt w.heap.size W w.heap.size x3) (hb : Below w.heap.size w W) => lcrash_any 0 W w h hb hb.size (by omega) (by omega))
  rw [o7] at K4
  have HO8 := hide o8
  have HO9 := hide o9
  clear o1 o2 o3 o4 o5 o6 o7 o8 o9
  go_enter Tryd.func3, Tryd.ntmps3
  go_wp2_with fail
  refine (lnew_log _).mono ?_
  rintro e w1 ⟨rfl, h1, hb1⟩
  have HL1 := hide h1
  have HB1 := hide hb1
  clear h1 hb1
  go_wp2_with fail
  refine (unhide K1 _ (unhide HL1) (unhide HB1)).mono ?_
  rintro e w2 ⟨rfl, h2, hb2, hs2⟩
  have HL2 := hide h2
  have HB2 := hide hb2
  have HS2 := hide hs2
  clear h2 hb2 hs2
  go_wp2_with fail
  refine (unhide K2 _ (unhide HL2) (unhide HB2)).mono ?_
  rintro e w3 ⟨rfl, h3, hb3, hs3⟩
  have HL3 := hide h3
  have HB3 := hide hb3
  have HS3 := hide hs3
  clear h3 hb3 hs3
  go_wp2_with fail
  refine (unhide K3 _ (unhide HL3) (unhide HB3)).mono ?_
  rintro e w4 ⟨rfl, h4, hb4, hs4⟩
  have HL4 := hide h4
  have HB4 := hide hb4
  have HS4 := hide hs4
  clear h4 hb4 hs4
  go_wp2_with fail
  refine (unhide K4 _ (unhide HL4) (unhide HB4)).mono ?_
  rintro e w5 ⟨rfl, h5, hb5, hs5⟩
  have HL5 := hide h5
  have HB5 := hide hb5
  have HS5 := hide hs5
  clear h5 hb5 hs5
  clear K1 K2 K3 K4 HL1 HL2 HL3 HL4 HB1 HB2 HB3 HB4 HS2 HS3 HS4 HS5
  go_wp2_with fail
  refine (lall_any _ (unhide HL5)).mono ?_
  rintro e w6 ⟨a6, n6, p6, rfl, hk6, hb6⟩
  rw [unhide HO8] at hk6
  obtain rfl : 1 = n6 := hk6.1.1
  obtain ⟨b6, off6, rfl, g6, -⟩ := hk6.1.2.2 0 (by simp)
  rw [show ([((5 : Int), (10 : Int))] : List (Int × Int)).getD 0 (0, 0) = (5, 10) from rfl] at g6
  have g6' : w6.cell? ⟨b6, off6, none⟩ = some (.int .i64 5) := by simpa using g6
  have HL6 := hide ((unhide HL5).later hb6)
  have HB6 := hide (bel3 (unhide HB5) (Below.refl _ _) hb6)
  have CB := hide (lbytes_any _ (unhide HL6))
  rw [unhide HO9] at CB
  have CS := hide (lsafe_any _ (unhide HL6))
  rw [show 9 * x2.s = 9 from rfl] at CS
  clear hk6 hb6 g6
  go_wp2_with fail
  refine (unhide CB).mono ?_
  rintro e w' ⟨rfl, hw'⟩
  obtain rfl := hw'.symm
  clear hw'
  go_wp2_with fail
  refine (unhide CS).mono ?_
  rintro e w' ⟨rfl, hw'⟩
  obtain rfl := hw'.symm
  clear hw'
  clear CB CS HL5 HB5 HO8 HO9
  go_wp2_with fail
  refine (lnew_log _).mono ?_
  rintro e w7 ⟨rfl, h7, hb7⟩
  have hJ := (unhide HB6).size
  have HL7 := hide (h7.down hJ)
  have HB7 := hide (bel3 (unhide HB6) (Below.refl _ _) hb7)
  have hz7 := hb7.size
  clear h7 hb7 HL6 g6'
  generalize w6.heap.size = J at *
  go_wp2
  have HB8 := hide (show Below w.heap.size w ((w7.alloc (.cells #[.slice none 0 0] 31)).alloc (.cells #[.int .i64 0] 3)) from ((unhide HB7).alloc (unhide HB7).size _).alloc (by have := (unhide HB7).size; simp; omega) _)
  have HK8 := hide (show Keep w.heap.size ((w7.alloc (.cells #[.slice none 0 0] 31)).alloc (.cells #[.int .i64 0] 3)) J LogM.new w7.heap.size 1 (w7.heap.size + 1) 1 [(none, 0, 0)] from
    ⟨(unhide HL7).later (((Below.refl _ _).alloc (Nat.le_refl _) _).alloc (by simp) _), Two2.new (unhide HB7).size (by have := (unhide HB7).size; omega) ((Below.heap_alloc _ _ _ (by simp)).trans (heap_alloc_new w7 _)) (by have q := heap_alloc_new (w7.alloc (.cells #[.slice none 0 0] 31)) (.cells #[.int .i64 0] 3); rwa [World.size_alloc] at q)⟩)
  clear HL7 HB7 HB6
  go_loopw [15, 16, 17, 18] (fun vd vm vp vr wr => ∃ (q p : Nat) (x : LogM.St) (M gd cd gm cm : Nat) (DL : List (Option Addr × Nat × Nat)), q ≤ 4 ∧ p ≤ len0 ∧ Hid (M = x.R.length + 1) ∧ vd = .slice (some ⟨gd, 0, none⟩) M cd ∧ vm = .slice (some ⟨gm, 0, none⟩) M cm ∧ vp = .int .i64 p ∧ vr = .int .i64 q ∧ Hid (Keep w.heap.size wr J x gd cd gm cm DL) ∧ Hid (Below w.heap.size w wr)) (fun _ _ _ r _ => 4 - (intOf r).toNat)
  case atStart => exact ⟨0, 0, LogM.new, 1, _, _, _, _, _, by omega, by omega, hide rfl, rfl, rfl, rfl, rfl, HK8, HB8⟩
  case round =>
    clear HK8 HB8
    obtain ⟨q, p, x, M, gd, cd, gm, cm, DL, hq, hp, HMM, rfl, rfl, rfl, rfl, HK, HB⟩ := hrel
    have q0 : (0 : Int) ≤ (q : Int) := by omega
    have q1 : (q : Int) ≤ 4 := by omega
    have n0 := (unhide HK).1.good.len
    by_cases hc1 : q ≤ len2
    · by_cases hc2 : q < 4
      · have hc1i : (q : Int) ≤ (len2 : Int) := by omega
        have hc2i : (q : Int) < 4 := by omega
        go_upto_if 90 with fail
        go_cut [19] from 87 to 96 (fun _ wx => ∃ y : LogM.St, y.R = x.R ∧ Hid (Keep w.heap.size wx J y gd cd gm cm DL) ∧ Hid (Below w.heap.size w wx))
        case first =>
          by_cases hf : q < len2
          · as_aux_lemma =>
              obtain ⟨b, off, n, rfl, hc, l1, l2⟩ := unhide HI2 q hf
              have hfi : (q : Int) < (len2 : Int) := by omega
              have hc' := cell_later (unhide HB) hc
              have CF := hide (lfail_any n wr w (unhide HK).1 l1 l2 (unhide HB))
              go_wp2_with fail
              refine (unhide CF).mono ?_
              rintro e w9 ⟨rfl, h9, hb9, hs9⟩
              have HK9 := hide ((unhide HK).same h9 rfl hs9)
              have HB9 := hide hb9
              clear h9 hb9 hs9
              try go_wp2_with fail
              go_meet
              exact ⟨LogM.fail x n, rfl, HK9, HB9⟩
          · as_aux_lemma =>
              have hfi : ¬ (q : Int) < (len2 : Int) := by omega
              go_wp2_with fail
              go_meet
              exact ⟨_, rfl, HK, HB⟩
        case rest =>
          obtain ⟨y, hyR, HK1, HB1⟩ := hcut
          have HMM1 := hide (show M = y.R.length + 1 by rw [hyR]; exact unhide HMM)
          clear HK HB hyR HMM
          go_wp2
          go_loopw [15, 16, 17, 19] (fun vd vm vp vk wr => ∃ (k p : Nat) (x : LogM.St) (M gd cd gm cm : Nat) (DL : List (Option Addr × Nat × Nat)), k ≤ 12 ∧ p ≤ len0 ∧ Hid (M = x.R.length + 1) ∧ vd = .slice (some ⟨gd, 0, none⟩) M cd ∧ vm = .slice (some ⟨gm, 0, none⟩) M cm ∧ vp = .int .i64 p ∧ vk = .int .i64 k ∧ Hid (Keep w.heap.size wr J x gd cd gm cm DL) ∧ Hid (Below w.heap.size w wr)) (fun _ _ _ k _ => 12 - (intOf k).toNat)
          case atStart => exact ⟨0, p, y, M, gd, cd, gm, cm, DL, by omega, hp, HMM1, rfl, rfl, rfl, rfl, HK1, HB1⟩
          case round =>
            clear HK1 HB1 HMM1
            obtain ⟨k, p, x, M, gd, cd, gm, cm, DL, hk, hp, HMM, rfl, rfl, rfl, rfl, HK, HB⟩ := hrel
            have kk0 : (0 : Int) ≤ (k : Int) := by omega
            have kk1 : (k : Int) ≤ 12 := by omega
            have n0 := (unhide HK).1.good.len
            go_upto_region 19 with fail
            go_cut [104] from 97 to 104 (fun b wx => b = .bool (decide (k < 12 ∧ p < len0)) ∧ wx = wr)
            case first =>
              by_cases hk12 : k < 12
              · have hk12i : (k : Int) < 12 := by omega
                by_cases hpl : p < len0
                · as_aux_lemma =>
                    have hpli : (p : Int) < (len0 : Int) := by omega
                    go_wp2_with fail
                    go_meet
                    exact ⟨by rw [decide_eq_true ⟨hk12, hpl⟩], rfl⟩
                · as_aux_lemma =>
                    have hpli : ¬ (p : Int) < (len0 : Int) := by omega
                    go_wp2_with fail
                    go_meet
                    exact ⟨by rw [decide_eq_false (fun q => hpl q.2)], rfl⟩
              · as_aux_lemma =>
                  have hk12i : ¬ (k : Int) < 12 := by omega
                  go_wp2_with fail
                  go_meet
                  exact ⟨by rw [decide_eq_false (fun q => hk12 q.1)], rfl⟩
            case rest =>
              obtain ⟨hcb, hcw⟩ := hcut
              obtain rfl := hcw.symm
              clear hcw
              by_cases hc : k < 12 ∧ p < len0
              · rw [decide_eq_true hc] at hcb
                subst hcb
                obtain ⟨hk12, hpl⟩ := hc
                have hpli : (p : Int) < (len0 : Int) := by omega
                have pp0 : (0 : Int) ≤ (p : Int) := by omega
                go_upto_region 21 with fail
                go_cut [129] from 107 to 129 (fun b wx => b = .bool false ∧ ∃ y : LogM.St, y.R = x.R ∧ Hid (Keep w.heap.size wx J y gd cd gm cm DL) ∧ Hid (Below w.heap.size w wx))
                case first =>
                  by_cases hs : p < len1
                  · have hsi : (p : Int) < (len1 : Int) := by omega
                    obtain ⟨b, off, n, rfl, hcn, l1, l2⟩ := unhide HI1 p hs
                    have hcn := cell_later (unhide HB) hcn
                    by_cases h1 : n = 1
                    · subst h1
                      have CS := hide (lsync_any wr w (unhide HK).1 (unhide HB))
                      by_cases hz : LogM.syncErr x = 0
                      · as_aux_lemma =>
                          rw [hz, errV_zero rfl] at CS
                          have hsr := sync_right (unhide HK).1.good hz
                          go_wp2_with fail
                          refine (unhide CS).mono ?_
                          rintro e w9 ⟨rfl, h9, hb9, hs9⟩
                          have C1 := hide (lsafe_any _ h9)
                          rw [hsr] at C1
                          have C2 := hide (lbytes_any _ h9)
                          generalize LogM.size (LogM.sync x) = z9 at C1 C2
                          have HK9 := hide ((unhide HK).same h9 (sync_R x) hs9)
                          have HB9 := hide hb9
                          clear h9 hb9 hs9 hcn hsr
                          go_wp2_with fail
                          refine (unhide C1).mono ?_
                          rintro e w' ⟨rfl, hw'⟩
                          obtain rfl := hw'.symm
                          clear hw'
                          go_wp2_with fail
                          refine (unhide C2).mono ?_
                          rintro e w' ⟨rfl, hw'⟩
                          obtain rfl := hw'.symm
                          clear hw'
                          try go_wp2_with fail
                          go_meet
                          exact ⟨by first | rfl | simp, LogM.sync x, sync_R x, HK9, HB9⟩
                      · as_aux_lemma =>
                          rw [errV_pos hz] at CS
                          generalize LogM.syncErr x = E9 at CS
                          go_wp2_with fail
                          refine (unhide CS).mono ?_
                          rintro e w9 ⟨rfl, h9, hb9, hs9⟩
                          have HK9 := hide ((unhide HK).same h9 (sync_R x) hs9)
                          have HB9 := hide hb9
                          clear h9 hb9 hs9 hcn
                          try go_wp2_with fail
                          go_meet
                          exact ⟨by first | rfl | simp, LogM.sync x, sync_R x, HK9, HB9⟩
                    · as_aux_lemma =>
                        have h1b : (n == 1) = false := by simp [h1]
                        go_wp2_with fail
                        go_meet
                        exact ⟨by first | rfl | simp, _, rfl, HK, HB⟩
                  · as_aux_lemma =>
                      have hsi : ¬ (p : Int) < (len1 : Int) := by omega
                      go_wp2_with fail
                      go_meet
                      exact ⟨by first | rfl | simp, _, rfl, HK, HB⟩
                case rest =>
                  obtain ⟨rfl, y, hyR, HK1, HB1⟩ := hcut
                  have HMM1 := hide (show M = y.R.length + 1 by rw [hyR]; exact unhide HMM)
                  rw [← hyR] at n0
                  clear HK HB hyR HMM
                  obtain ⟨b0, off0, rfl, hrow⟩ := unhide HM (show 0 < len0 by omega)
                  obtain ⟨hrc, hri⟩ := hrow p hpl
                  clear hrow
                  have HRC := hide hrc
                  have HRI := hide hri
                  clear hrc hri
                  go_wp2
                  have HA1 := hide (show Arr3 (wc.alloc (.cells #[.int .i64 0, .int .i64 0, .int .i64 0] 37)) wc.heap.size 0 0 0 from heap_alloc_new wc _)
                  have HKa := hide ((unhide HK1).later ((Below.refl wc.heap.size wc).alloc (Nat.le_refl _) (.cells #[.int .i64 0, .int .i64 0, .int .i64 0] 37)))
                  have HBa := hide ((unhide HB1).alloc (unhide HB1).size (.cells #[.int .i64 0, .int .i64 0, .int .i64 0] 37))
                  have hbw := (unhide HB1).size
                  generalize wc.alloc (.cells #[.int .i64 0, .int .i64 0, .int .i64 0] 37) = wd at HA1 HKa HBa ⊢
                  clear HK1 HB1
                  generalize wc.heap.size = bw at HA1 hbw ⊢
                  go_loopw [21] (fun i wr => ∃ (i3 : Nat) (n u t : Int), i3 ≤ 3 ∧ i = .int .i64 i3 ∧ Hid (Arr3 wr bw n u t) ∧ Hid (Keep w.heap.size wr J y gd cd gm cm DL) ∧ Hid (Below w.heap.size w wr)) (fun i _ => 3 - (intOf i).toNat)
                  case atStart => exact ⟨0, 0, 0, 0, by omega, rfl, HA1, HKa, HBa⟩
                  case round =>
                    clear HA1 HKa HBa
                    obtain ⟨i3, n, u, t, hi3, rfl, HA, HK, HB⟩ := hrel
                    have i0 : (0 : Int) ≤ (i3 : Int) := by omega
                    have i1 : (i3 : Int) ≤ 3 := by omega
                    have hrc := cell_later (unhide HB) (unhide HRC)
                    go_upto_region 25 with fail
                    go_cut [140] from 130 to 140 (fun b wx => b = .bool (decide (i3 < Lr p ∧ i3 < 3)) ∧ wx = wr)
                    case first =>
                      by_cases h1 : i3 < Lr p
                      · have h1i : (i3 : Int) < (Lr p : Int) := by omega
                        by_cases h2 : i3 < 3
                        · as_aux_lemma =>
                            have h2i : (i3 : Int) < 3 := by omega
                            go_wp2_with fail
                            go_meet
                            exact ⟨by rw [decide_eq_true ⟨h1, h2⟩], rfl⟩
                        · as_aux_lemma =>
                            have h2i : ¬ (i3 : Int) < 3 := by omega
                            go_wp2_with fail
                            go_meet
                            exact ⟨by rw [decide_eq_false (fun q => h2 q.2)], rfl⟩
                      · as_aux_lemma =>
                          have h1i : ¬ (i3 : Int) < (Lr p : Int) := by omega
                          go_wp2_with fail
                          go_meet
                          exact ⟨by rw [decide_eq_false (fun q => h1 q.1)], rfl⟩
                    case rest =>
                      obtain ⟨hcb, hcw⟩ := hcut
                      obtain rfl := hcw.symm
                      clear hcw
                      by_cases hc : i3 < Lr p ∧ i3 < 3
                      · rw [decide_eq_true hc] at hcb
                        subst hcb
                        obtain ⟨h1, h2⟩ := hc
                        have h1i : (i3 : Int) < (Lr p : Int) := by omega
                        obtain ⟨b2, off2, z, e2, hz⟩ := unhide HRI i3 h1
                        have hz := cell_later (unhide HB) hz
                        rw [e2] at hrc
                        obtain ⟨⟨z0, hcz⟩, hfz, hlz⟩ := (unhide HA).at h2
                        obtain ⟨n', u', t', ha'⟩ := (unhide HA).put h2 z
                        have HA' := hide ha'
                        have HK' := hide (Keep.arr (i := i3) (z := z) (unhide HK) (unhide HA))
                        have HB' := hide ((unhide HB).setCell (p := ⟨bw, i3, none⟩) hbw (.int .i64 z))
                        have h2i : (i3 : Int) < 3 := by omega
                        clear ha'
                        as_aux_lemma =>
                          go_wp2
                          go_roundw
                          case rel => exact ⟨i3 + 1, n', u', t', by omega, by go_num, HA', HK', HB'⟩
                          case measure => simp [intOf]; omega
                      · rw [decide_eq_false hc] at hcb
                        subst hcb
                        clear hrc
                        have ha := (unhide HA).held
                        obtain ⟨⟨c1, c2, c3⟩, -⟩ := ha.c3
                        obtain ⟨⟨ad, nd, pd, hcd, hkd⟩, -⟩ := (unhide HK).2.at (k := y.R.length) (Nat.le_refl _)
                        rw [List.take_of_length_le (Nat.le_refl _)] at hkd
                        have HKD := hide hkd
                        have hnd : nd ≤ 16 := by rw [← hkd.1.1]; exact LogM.hist_len _
                        obtain ⟨N, hN⟩ : ∃ N, N = y.R.length := ⟨_, rfl⟩
                        have hMN : M = N + 1 := by rw [unhide HMM1, hN]
                        have HN := hide hN
                        rw [← hN] at hcd n0
                        have hN1 : IntKind.i64.wrap ((M : Int) - 1) = (N : Int) := by rw [IntKind.wrap_i64]; omega
                        have y0 : (0 : Int) ≤ (N : Int) := by omega
                        have y1 : (N : Int) < (M : Int) := by omega
                        have y2 : (N : Int) ≤ 30 := by omega
                        have m0 : (0 : Int) ≤ (M : Int) := by omega
                        have m1 : (M : Int) ≤ 31 := by omega
                        have HMN := hide hMN
                        have hbl := ha.2
                        clear hkd ha hN hMN
                        go_wp2_with fail
                        go_region_held3 (fun w' => Hid (Below wr.heap.size wr w') ∧ w'.cell? ⟨gd, N, none⟩ = some (.slice ad nd pd) ∧ w'.cell? ⟨bw, 0, none⟩ = some (.int .i64 n) ∧ w'.cell? ⟨bw, 1, none⟩ = some (.int .i64 u) ∧ w'.cell? ⟨bw, 2, none⟩ = some (.int .i64 t)) (first | exact reg_step4 (by assumption) hb | exact reg_start4 hcd c1 c2 c3)
                          ((go_at_call 13; refine (ref_spend_typed n u t _ hnd ((unhide HKD).later (unhide (And.left ‹Hid (Below wr.heap.size wr _) ∧ _›))).1).mono ?_; rintro e w' ⟨an, nn, pn, rfl, hpn, ⟨-, hkn⟩, hb⟩; have HKN := hide (And.intro hpn hkn); clear hpn hkn))
                        have HQ := (And.left ‹Hid (Below wr.heap.size wr _) ∧ _›)
                        have HB2 := hide (Below.trans (unhide HB) ((unhide HQ).mono (unhide HB).size))
                        have HK2 := hide ((unhide HK).later (unhide HQ))
                        have HA2 := hide ((unhide HA).held.later (unhide HQ))
                        have HE := hide (LogM.err_rest y.R (n, u, t))
                        dsimp only at HE
                        clear hcd c1 c2 c3 HKD hnd
                        rw [← show LogM.err (LogM.hist y.R) (n, u, t) = SpentM.restErr (LogM.hist y.R) n u t from unhide HE] at HKN ⊢
                        have HKN := hide (fun hE : LogM.err (LogM.hist y.R) (n, u, t) = 0 => show KRow w' an nn pn (LogM.hist (y.R ++ [(n, u, t)])) from by
                          have q := unhide HKN
                          rw [hE, SpentM.told_zero rfl] at q
                          rw [LogM.hist_snoc, LogM.next_yes hE, SpentM.spend_ok hE]
                          exact q)
                        have HT := hide (spend_told (unhide HK2).1.good (n, u, t))
                        generalize LogM.err (LogM.hist y.R) (n, u, t) = E at HKN HT ⊢
                        clear HE HK HB HA HQ
                        generalize w' = w2 at HB2 HK2 HA2 HKN ⊢
                        go_upto_region 30 with fail
                        go_cut [176] from 170 to 176 (fun b wx => b = .bool (decide (E = 0 ∧ y.R.length = 30)) ∧ wx = w2)
                        case first =>
                          by_cases hE : E = 0
                          · subst hE
                            by_cases h30 : y.R.length = 30
                            · as_aux_lemma =>
                                have h30i : (30 : Int) < (M : Int) := by have := unhide HMM1; omega
                                go_wp2_with fail
                                go_meet
                                exact ⟨by simp [h30], rfl⟩
                            · as_aux_lemma =>
                                have h30i : ¬ (30 : Int) < (M : Int) := by have := unhide HMM1; omega
                                go_wp2_with fail
                                go_meet
                                exact ⟨by simp [h30], rfl⟩
                          · as_aux_lemma =>
                              have hEb : (E == 0) = false := by simp [hE]
                              go_wp2_with fail
                              go_meet
                              exact ⟨by rw [decide_eq_false (fun q => hE q.1)], rfl⟩
                        case rest =>
                          obtain ⟨hcb, hcw⟩ := hcut
                          obtain rfl := hcw.symm
                          clear hcw
                          go_upto_if 176 with fail
                          go_cut [23] from 176 to 176 (fun v wx => v = .int .i64 (refErr E (decide (y.R.length = 30))) ∧ wx = w2)
                          case first =>
                            by_cases hc : E = 0 ∧ y.R.length = 30
                            · as_aux_lemma =>
                                rw [decide_eq_true hc] at hcb
                                subst hcb
                                go_wp2_with fail
                                go_meet
                                exact ⟨by unfold refErr; rw [if_pos ⟨hc.1, by simp [hc.2]⟩], rfl⟩
                            · as_aux_lemma =>
                                rw [decide_eq_false hc] at hcb
                                subst hcb
                                go_wp2_with fail
                                go_meet
                                exact ⟨by unfold refErr; rw [if_neg (by simpa using hc)], rfl⟩
                          case rest =>
                            obtain ⟨rfl, hcw⟩ := hcut
                            obtain rfl := hcw.symm
                            clear hcw hcb
                            generalize refErr E (decide (y.R.length = 30)) = e1 at HT ⊢
                            have CB := hide (lbytes_any _ (unhide HK2).1)
                            have CP := hide (lspend_any n u t w2 w (unhide HK2).1 (unhide HB2) (unhide HB2).size)
                            have hsz : LogM.size y ≤ 274 := by have := (unhide HK2).1.good.half; have := (unhide HK2).1.good.len; unfold LogM.size; omega
                            obtain ⟨⟨c1, c2, c3⟩, -⟩ := (unhide HA2).c3
                            have hbl := (unhide HA2).2
                            go_wp2_with fail
                            refine (unhide CB).mono ?_
                            rintro e w' ⟨rfl, hw'⟩
                            obtain rfl := hw'.symm
                            clear hw'
                            rcases unhide HT with ⟨t1, rfl, rfl, t4, t5, t6⟩ | ⟨t1, t2, t3⟩
                            · rw [t1, errV_zero rfl] at CP
                              have HR := hide t4
                              have HSZ := hide t5
                              have HS9 := hide t6
                              clear t1 t4 t5 t6
                              generalize LogM.size y = Sz at HSZ HS9 hsz ⊢
                              go_wp2_with fail
                              refine (unhide CP).mono ?_
                              rintro e w3 ⟨rfl, h3, hb3, hs3⟩
                              have HL3 := hide h3
                              have HB3 := hide hb3
                              have HT3 := hide ((unhide HK2).2.log hs3)
                              have HN3 := hide ((unhide HKN (by first | rfl | trivial)).still hs3 (by decide))
                              clear h3 hb3 hs3 c1 c2 c3
                              have S1 := hide (fun (W : World) (hg : ErrType W) => same_any 0 6 W hg)
                              rw [show ((0 : Int) == 6) = false by decide, errV_zero rfl] at S1
                              have S2 := hide (fun (W : World) (hg : ErrType W) => same_any 0 0 W hg)
                              rw [show ((0 : Int) == 0) = true by decide, errV_zero rfl] at S2
                              go_wp2_with fail
                              refine (unhide S1 _ ((unhide HG0).later (unhide HB3))).mono ?_
                              rintro e w4 ⟨rfl, hb4⟩
                              have HB4 := hide (bel3 (unhide HB3) (Below.refl _ _) hb4)
                              have HL4 := hide ((unhide HL3).later hb4)
                              have HT4 := hide ((unhide HT3).later hb4)
                              have HN4 := hide ((unhide HN3).later hb4)
                              clear hb4
                              go_wp2_with fail
                              refine (unhide S2 _ ((unhide HG0).later (unhide HB4))).mono ?_
                              rintro e w5 ⟨rfl, hb5⟩
                              have HB5 := hide (bel3 (unhide HB4) (Below.refl _ _) hb5)
                              have HL5 := hide ((unhide HL4).later hb5)
                              have HT5 := hide ((unhide HT4).later hb5)
                              have HN5 := hide ((unhide HN4).later hb5)
                              clear hb5
                              have CB := hide (lbytes_any _ (unhide HL5))
                              rw [unhide HSZ] at CB
                              obtain ⟨Sy, hSy⟩ : ∃ Sy, Sy = Sz + 9 := ⟨_, rfl⟩
                              rw [← hSy] at CB HSZ
                              have HSY := hide hSy
                              have hs0 : ¬ (Sy : Int) < (Sz : Int) + 2 := by omega
                              have hs1 : (0 : Int) ≤ (Sz : Int) := by omega
                              have hs2 : (Sz : Int) ≤ 274 := by omega
                              clear hSy hsz
                              go_wp2_with fail
                              refine (unhide CB).mono ?_
                              rintro e w' ⟨rfl, hw'⟩
                              obtain rfl := hw'.symm
                              clear hw'
                              go_upto_region 41 with fail
                              clear hN1 y0 y1 y2 m0 hs0 hs1 hs2
                              obtain ⟨i0, hi, hz0, hz1, hz2⟩ := info_parts infoRow
                              obtain ⟨k0, ki, kz0, kz1, kz2⟩ := info_parts infoInt
                              have hB5 := (unhide HB5).size
                              have HO5 := hide (unhide HT5).1
                              rw [← unhide HMM1] at HO5
                              have HM5 := hide (unhide HT5).2.1
                              rw [← unhide HMM1] at HM5
                              have m31 : M ≤ 31 := by omega
                              go_wp2_with (at_builtin; refine wpList_append_own _ rfl _ _ 36 rfl w.heap.size 31 i0 (.slice none 0 0) 1 24 Tryd.underlying36 hi hz0 hz1 hz2 rfl (by decide) _ _ _ rfl ((unhide HO5).alloc _) ⟨w5.heap.size, 0, none⟩ 1 1 [.slice an nn pn] rfl rfl ?c1 ?c2 ?c3 ?c4 ?c5 ?_)
                              case c1 =>
                                intro j v hj
                                match j, hj with
                                | 0, hj => simp at hj; subst hj; simp [Addr.add]
                                | j + 1, hj => simp at hj
                              case c2 => intro v hv; simp at hv; subst hv; rfl
                              case c3 => unfold maxLen; omega
                              case c4 => omega
                              case c5 => simp; omega
                              · intro v6 w6 hown6 hgrow6 _
                                have s6 : Still [31] w5 w6 := (Still.of ((Below.refl w5.heap.size w5).alloc (Nat.le_refl _) _)).trans (Still.grown ((unhide HO5).alloc _) (by simp) hgrow6)
                                obtain ⟨g6, p6, rfl⟩ := Go.Joins.ownsRow_form hown6 (by omega)
                                have HO6 := hide hown6
                                have HM6 := hide (s6.own (unhide HM5) (by decide))
                                have HR6 := hide ((unhide HT5).2.2.still s6 (by decide))
                                have HN6 := hide ((unhide HN5).still s6 (by decide))
                                have HL6 := hide ((unhide HL5).still s6 (by decide) (by decide) (by decide))
                                have HB6 := hide (show Below w.heap.size w w6 from ((unhide HB5).alloc hB5 _).grown hgrow6 (by simp; omega) (fun k hk => ((unhide HO5).lt k hk).1))
                                clear hown6 hgrow6 s6
                                have CB6 := hide (lbytes_any _ (unhide HL6))
                                rw [unhide HSZ] at CB6
                                go_wp2_with fail
                                refine (unhide CB6).mono ?_
                                rintro e w' ⟨rfl, hw'⟩
                                obtain rfl := hw'.symm
                                clear hw'
                                have hB6 := (unhide HB6).size
                                go_wp2_with (at_builtin; refine wpList_append_own _ rfl _ _ 23 rfl w.heap.size 3 k0 (.int .i64 0) 1 8 Tryd.underlying23 ki kz0 kz1 kz2 rfl (by decide) _ _ _ rfl ((unhide HM6).alloc _) ⟨w6.heap.size, 0, none⟩ 1 1 [.int .i64 (Sy : Int)] rfl rfl ?d1 ?d2 ?d3 ?d4 ?d5 ?_)
                                case d1 =>
                                  intro j v hj
                                  match j, hj with
                                  | 0, hj => simp at hj; subst hj; simp [Addr.add]
                                  | j + 1, hj => simp at hj
                                case d2 => intro v hv; simp at hv; subst hv; rfl
                                case d3 => unfold maxLen; omega
                                case d4 => omega
                                case d5 => simp; omega
                                · intro v7 w7 hown7 hgrow7 _
                                  have s7 : Still [3] w6 w7 := (Still.of ((Below.refl w6.heap.size w6).alloc (Nat.le_refl _) _)).trans (Still.grown ((unhide HM6).alloc _) (by simp) hgrow7)
                                  obtain ⟨g7, p7, rfl⟩ := Go.Joins.ownsRow_form hown7 (by omega)
                                  have HO7 := hide (s7.own (unhide HO6) (by decide))
                                  have HM7 := hide hown7
                                  have HR7 := hide ((unhide HR6).still s7 (by decide))
                                  have HN7 := hide ((unhide HN6).still s7 (by decide))
                                  have HL7 := hide ((unhide HL6).still s7 (by decide) (by decide) (by decide))
                                  have HB7 := hide (show Below w.heap.size w w7 from ((unhide HB6).alloc hB6 _).grown hgrow7 (by simp; omega) (fun k hk => ((unhide HM6).lt k hk).1))
                                  clear hown7 hgrow7 s7
                                  generalize LogM.spend y (n, u, t) = z at HR HL7 HSZ
                                  have hzl : z.R.length = y.R.length + 1 := by rw [unhide HR]; simp
                                  have HK7 := hide (show Keep w.heap.size w7 J z g6 p6 g7 p7 (DL ++ [(an, nn, pn)]) from by
                                    refine ⟨unhide HL7, ?_, ?_, ?_⟩
                                    · rw [hzl, List.map_append, ← unhide HMM1]; exact unhide HO7
                                    · rw [hzl, markV_succ, ← unhide HMM1]
                                      have q := unhide HM7
                                      have e9 : Sy = 9 * M := by
                                        have e := unhide HS9
                                        have e2 := unhide HMM1
                                        have e3 := unhide HSY
                                        omega
                                      rw [e9] at q
                                      exact q
                                    · rw [unhide HR]; exact (unhide HR7).snoc (unhide HN7))
                                  have HZM := hide (show M + 1 = z.R.length + 1 by rw [hzl, ← unhide HMM1])
                                  clear HO7 HM7 HR7 HN7 HL7 HO6 HM6 HR6 HN6 HL6 HL5 HT5 HN5
                                  clear hzl HMM1 HMN m31
                                  as_aux_lemma =>
                                    generalize M + 1 = Mz at HZM ⊢
                                    obtain ⟨⟨ad, nd, pd, hcd, hkd⟩, -⟩ := (unhide HK7).2.at (k := z.R.length) (Nat.le_refl _)
                                    rw [List.take_of_length_le (Nat.le_refl _)] at hkd
                                    have HKD := hide hkd
                                    have hnd : nd ≤ 16 := by rw [← hkd.1.1]; exact LogM.hist_len _
                                    have zlen := (unhide HK7).1.good.len
                                    obtain ⟨Nz, hNz⟩ : ∃ Nz, Nz = z.R.length := ⟨_, rfl⟩
                                    rw [← hNz] at hcd zlen
                                    have hMz : Mz = Nz + 1 := by rw [unhide HZM, hNz]
                                    have zz3 : IntKind.i64.wrap ((Mz : Int) - 1) = (Nz : Int) := by rw [IntKind.wrap_i64]; omega
                                    have zz0 : (0 : Int) ≤ (Nz : Int) := by omega
                                    have zz1 : (Nz : Int) < (Mz : Int) := by omega
                                    clear hkd hNz hMz
                                    go_wp2_with fail
                                    go_region_held3 (fun w' => Hid (Below w7.heap.size w7 w') ∧ w'.cell? ⟨g6, Nz, none⟩ = some (.slice ad nd pd)) (first | exact reg_step1 (by assumption) hb | exact reg_start1 hcd)
                                      ((first
                                        | (go_at_call 9; refine (lall_any _ ((unhide HK7).1.later (unhide (And.left ‹Hid (Below w7.heap.size w7 _) ∧ _›)))).mono ?_; rintro e w' ⟨ae, ne, pe, rfl, hke, hb⟩; have hne : ne ≤ 16 := (by rw [← hke.1.1]; exact LogM.hist_len _))
                                        | (go_at_call 15; refine (same_spent _ hne hke.1 ((unhide HKD).later (unhide (And.left ‹Hid (Below w7.heap.size w7 _) ∧ _›))).1).mono ?_; rintro e w' ⟨rfl, hb⟩)))
                                    have HQ := (And.left ‹Hid (Below w7.heap.size w7 _) ∧ _›)
                                    have HBz := hide (Below.trans (unhide HB7) ((unhide HQ).mono (unhide HB7).size))
                                    have HKz := hide ((unhide HK7).later (unhide HQ))
                                    clear hcd
                                    as_aux_lemma =>
                                      go_wp2
                                      go_roundw
                                      case rel => exact ⟨k + 1, p + 1, z, Mz, g6, p6, g7, p7, _, by omega, by omega, HZM, rfl, rfl, by go_num, by go_num, HKz, HBz⟩
                                      case measure => simp [intOf]; omega
                            · rw [errV_pos t1] at CP
                              have S1 := hide (fun (W : World) (hg : ErrType W) => same_any (LogM.spendErr y (n, u, t)) 6 W hg)
                              have S2 := hide (fun (W : World) (hg : ErrType W) => same_any (LogM.spendErr y (n, u, t)) e1 W hg)
                              rw [errV_pos t1] at S1 S2
                              have hbb : (LogM.spendErr y (n, u, t) == 6) = true ∨ (LogM.spendErr y (n, u, t) == e1) = true := t3.imp (fun q => by simp [q]) (fun q => by simp [q])
                              generalize (LogM.spendErr y (n, u, t) == 6) = b1 at S1 hbb
                              generalize (LogM.spendErr y (n, u, t) == e1) = b2 at S2 hbb
                              generalize LogM.spendErr y (n, u, t) = v at CP S1 S2
                              have HBB := hide hbb
                              have HR := hide t2
                              clear t1 t2 t3 hbb
                              go_wp2_with fail
                              refine (unhide CP).mono ?_
                              rintro e w3 ⟨rfl, h3, hb3, hs3⟩
                              have HB3 := hide hb3
                              have HK3 := hide ((unhide HK2).same h3 (unhide HR) hs3)
                              clear h3 hb3 hs3 c1 c2 c3
                              go_wp2_with fail
                              refine (unhide S1 _ ((unhide HG0).later (unhide HB3))).mono ?_
                              rintro e w4 ⟨rfl, hb4⟩
                              have HB4 := hide (bel3 (unhide HB3) (Below.refl _ _) hb4)
                              have HK4 := hide ((unhide HK3).later hb4)
                              clear hb4
                              go_wp2_with fail
                              refine (unhide S2 _ ((unhide HG0).later (unhide HB4))).mono ?_
                              rintro e w5 ⟨rfl, hb5⟩
                              have HB5 := hide (bel3 (unhide HB4) (Below.refl _ _) hb5)
                              have HK5 := hide ((unhide HK4).later hb5)
                              clear hb5
                              generalize LogM.spend y (n, u, t) = z at HR HK5
                              have HZM := hide (show M = z.R.length + 1 by rw [unhide HR]; exact unhide HMM1)
                              clear hN1 y0 y1 HMM1 HMN
                              cases b1 with
                              | true =>
                                as_aux_lemma =>
                                  obtain ⟨⟨ad, nd, pd, hcd, hkd⟩, -⟩ := (unhide HK5).2.at (k := z.R.length) (Nat.le_refl _)
                                  rw [List.take_of_length_le (Nat.le_refl _)] at hkd
                                  have HKD := hide hkd
                                  have hnd : nd ≤ 16 := by rw [← hkd.1.1]; exact LogM.hist_len _
                                  have zlen := (unhide HK5).1.good.len
                                  obtain ⟨Nz, hNz⟩ : ∃ Nz, Nz = z.R.length := ⟨_, rfl⟩
                                  rw [← hNz] at hcd zlen
                                  have hMz : M = Nz + 1 := by rw [unhide HZM, hNz]
                                  have zz3 : IntKind.i64.wrap ((M : Int) - 1) = (Nz : Int) := by rw [IntKind.wrap_i64]; omega
                                  have zz0 : (0 : Int) ≤ (Nz : Int) := by omega
                                  have zz1 : (Nz : Int) < (M : Int) := by omega
                                  clear hkd hNz hMz
                                  go_wp2_with fail
                                  go_region_held3 (fun w' => Hid (Below w5.heap.size w5 w') ∧ w'.cell? ⟨gd, Nz, none⟩ = some (.slice ad nd pd)) (first | exact reg_step1 (by assumption) hb | exact reg_start1 hcd)
                                    ((first
                                      | (go_at_call 9; refine (lall_any _ ((unhide HK5).1.later (unhide (And.left ‹Hid (Below w5.heap.size w5 _) ∧ _›)))).mono ?_; rintro e w' ⟨ae, ne, pe, rfl, hke, hb⟩; have hne : ne ≤ 16 := (by rw [← hke.1.1]; exact LogM.hist_len _))
                                      | (go_at_call 15; refine (same_spent _ hne hke.1 ((unhide HKD).later (unhide (And.left ‹Hid (Below w5.heap.size w5 _) ∧ _›))).1).mono ?_; rintro e w' ⟨rfl, hb⟩)))
                                  have HQ := (And.left ‹Hid (Below w5.heap.size w5 _) ∧ _›)
                                  have HBz := hide (Below.trans (unhide HB5) ((unhide HQ).mono (unhide HB5).size))
                                  have HKz := hide ((unhide HK5).later (unhide HQ))
                                  clear hcd
                                  as_aux_lemma =>
                                    go_wp2
                                    go_roundw
                                    case rel => exact ⟨k + 1, p + 1, z, M, gd, cd, gm, cm, _, by omega, by omega, HZM, rfl, rfl, by go_num, by go_num, HKz, HBz⟩
                                    case measure => simp [intOf]; omega
                              | false =>
                                as_aux_lemma =>
                                  have hb2 : b2 = true := (unhide HBB).resolve_left (by simp)
                                  subst hb2
                                  obtain ⟨⟨ad, nd, pd, hcd, hkd⟩, -⟩ := (unhide HK5).2.at (k := z.R.length) (Nat.le_refl _)
                                  rw [List.take_of_length_le (Nat.le_refl _)] at hkd
                                  have HKD := hide hkd
                                  have hnd : nd ≤ 16 := by rw [← hkd.1.1]; exact LogM.hist_len _
                                  have zlen := (unhide HK5).1.good.len
                                  obtain ⟨Nz, hNz⟩ : ∃ Nz, Nz = z.R.length := ⟨_, rfl⟩
                                  rw [← hNz] at hcd zlen
                                  have hMz : M = Nz + 1 := by rw [unhide HZM, hNz]
                                  have zz3 : IntKind.i64.wrap ((M : Int) - 1) = (Nz : Int) := by rw [IntKind.wrap_i64]; omega
                                  have zz0 : (0 : Int) ≤ (Nz : Int) := by omega
                                  have zz1 : (Nz : Int) < (M : Int) := by omega
                                  clear hkd hNz hMz
                                  go_wp2_with fail
                                  go_region_held3 (fun w' => Hid (Below w5.heap.size w5 w') ∧ w'.cell? ⟨gd, Nz, none⟩ = some (.slice ad nd pd)) (first | exact reg_step1 (by assumption) hb | exact reg_start1 hcd)
                                    ((first
                                      | (go_at_call 9; refine (lall_any _ ((unhide HK5).1.later (unhide (And.left ‹Hid (Below w5.heap.size w5 _) ∧ _›)))).mono ?_; rintro e w' ⟨ae, ne, pe, rfl, hke, hb⟩; have hne : ne ≤ 16 := (by rw [← hke.1.1]; exact LogM.hist_len _))
                                      | (go_at_call 15; refine (same_spent _ hne hke.1 ((unhide HKD).later (unhide (And.left ‹Hid (Below w5.heap.size w5 _) ∧ _›))).1).mono ?_; rintro e w' ⟨rfl, hb⟩)))
                                  have HQ := (And.left ‹Hid (Below w5.heap.size w5 _) ∧ _›)
                                  have HBz := hide (Below.trans (unhide HB5) ((unhide HQ).mono (unhide HB5).size))
                                  have HKz := hide ((unhide HK5).later (unhide HQ))
                                  clear hcd
                                  as_aux_lemma =>
                                    go_wp2
                                    go_roundw
                                    case rel => exact ⟨k + 1, p + 1, z, M, gd, cd, gm, cm, _, by omega, by omega, HZM, rfl, rfl, by go_num, by go_num, HKz, HBz⟩
                                    case measure => simp [intOf]; omega
              · rw [decide_eq_false hc] at hcb
                subst hcb
                go_upto_if 227 with fail
                go_cut [28] from 224 to 231 (fun v wx => ∃ K : Int, v = .int .i64 K ∧ -9223372036854775808 ≤ K ∧ K ≤ 9223372036854775807 ∧ wx = wr)
                case first =>
                  by_cases hf : q < len3
                  · as_aux_lemma =>
                      obtain ⟨b, off, n, rfl, hcn, l1, l2⟩ := unhide HI3 q hf
                      have hfi : (q : Int) < (len3 : Int) := by omega
                      have hcn := cell_later (unhide HB) hcn
                      go_wp2_with fail
                      go_meet
                      exact ⟨n, rfl, l1, l2, rfl⟩
                  · as_aux_lemma =>
                      have hfi : ¬ (q : Int) < (len3 : Int) := by omega
                      go_wp2_with fail
                      go_meet
                      exact ⟨0, rfl, by omega, by omega, rfl⟩
                case rest =>
                  obtain ⟨K, rfl, kb0, kb1, hcw⟩ := hcut
                  obtain rfl := hcw.symm
                  clear hcw
                  have CB := hide (lbytes_any _ (unhide HK).1)
                  have CS := hide (lsafe_any _ (unhide HK).1)
                  have CC := hide (lcrash_any K wr w (unhide HK).1 (unhide HB) (unhide HB).size kb0 kb1)
                  have hkl := LogM.keeps_le (unhide HK).1.good K
                  have hsl := LogM.size_le (unhide HK).1.good
                  have hsz : LogM.size x ≤ 274 := by have := (unhide HK).1.good.half; unfold LogM.size; omega
                  have HHI := hide (crash_high x K)
                  have HKP := hide (show (LogM.crash x K).R = x.R.take (LogM.keeps x K) ∧ (LogM.crash x K).s = LogM.keeps x K ∧ LogM.size (LogM.crash x K) = 9 * LogM.keeps x K from ⟨rfl, rfl, by unfold LogM.size; show 9 * (x.R.take (LogM.keeps x K)).length + 0 = _; rw [List.length_take, Nat.min_eq_left hkl]; omega⟩)
                  generalize hS : LogM.size x = S at *
                  generalize hs9 : 9 * x.s = s9 at *
                  go_wp2_with fail
                  refine (unhide CB).mono ?_
                  rintro e w' ⟨rfl, hw'⟩
                  obtain rfl := hw'.symm
                  clear hw'
                  go_wp2_with fail
                  refine (unhide CS).mono ?_
                  rintro e w' ⟨rfl, hw'⟩
                  obtain rfl := hw'.symm
                  clear hw'
                  go_wp2_with fail
                  refine (unhide CC).mono ?_
                  rintro e w2 ⟨rfl, h2, hb2, hs2⟩
                  have HL2 := hide h2
                  have HB2 := hide hb2
                  have HT2 := hide ((unhide HK).2.log hs2)
                  clear h2 hb2 hs2 HK HB CC CB CS
                  generalize LogM.crash x K = y at HKP HL2
                  generalize hKP : LogM.keeps x K = KP at *
                  have hHI : KP = (s9 + (min (max K 0) ((S : Int) - (s9 : Int))).toNat) / 9 := by have q := unhide HHI; rw [q, show (9 * (x.s : Int)) = (s9 : Int) by omega]
                  obtain ⟨H, hH⟩ : ∃ H : Nat, H = s9 + (min (max K 0) ((S : Int) - (s9 : Int))).toNat := ⟨_, rfl⟩
                  have HH := hide hH
                  have hKH : KP = H / 9 := by rw [hHI, hH]
                  have hHS : H ≤ S := by omega
                  have s90 : (0 : Int) ≤ (s9 : Int) := by omega
                  have s91 : (s9 : Int) ≤ 274 := by omega
                  have S90 : (0 : Int) ≤ (S : Int) := by omega
                  have S91 : (S : Int) ≤ 274 := by omega
                  clear hHI HHI hS hs9 hH
                  go_upto_region 52 with fail
                  go_cut [248] from 240 to 248 (fun b wx => b = .bool (decide (0 < K ∧ K < (S : Int) - (s9 : Int))) ∧ wx = w2)
                  case first =>
                    by_cases g1 : 0 < K
                    · by_cases g2 : K < (S : Int) - (s9 : Int)
                      · as_aux_lemma =>
                          go_wp2_with fail
                          go_meet
                          exact ⟨by rw [decide_eq_true ⟨g1, g2⟩], rfl⟩
                      · as_aux_lemma =>
                          go_wp2_with fail
                          go_meet
                          exact ⟨by rw [decide_eq_false (fun q => by omega)], rfl⟩
                    · as_aux_lemma =>
                        go_wp2_with fail
                        go_meet
                        exact ⟨by rw [decide_eq_false (fun q => by omega)], rfl⟩
                  case rest =>
                    obtain ⟨hcb, hcw⟩ := hcut
                    obtain rfl := hcw.symm
                    clear hcw
                    go_upto_if 248 with fail
                    go_cut [31] from 249 to 254 (fun v wx => v = .int .i64 (H : Int) ∧ wx = w2)
                    case first =>
                      have hH := unhide HH
                      by_cases hc : 0 < K ∧ K < (S : Int) - (s9 : Int)
                      · as_aux_lemma =>
                          rw [decide_eq_true hc] at hcb
                          subst hcb
                          have HE5 := hide (show (s9 : Int) + K = (H : Int) by omega)
                          have e6 := hc.1
                          have e7 : K ≤ 274 := by omega
                          clear hH hc
                          go_wp2_with fail
                          go_meet
                          exact ⟨by rw [unhide HE5], rfl⟩
                      · rw [decide_eq_false hc] at hcb
                        subst hcb
                        by_cases g1 : 0 < K
                        · as_aux_lemma =>
                            have HE5 := hide (show (S : Int) = (H : Int) by omega)
                            clear hH hc
                            go_wp2_with fail
                            go_meet
                            exact ⟨by rw [unhide HE5], rfl⟩
                        · as_aux_lemma =>
                            have HE5 := hide (show (s9 : Int) = (H : Int) by omega)
                            clear hH hc
                            go_wp2_with fail
                            go_meet
                            exact ⟨by rw [unhide HE5], rfl⟩
                    case rest =>
                      obtain ⟨rfl, hcw⟩ := hcut
                      obtain rfl := hcw.symm
                      clear hcw hcb HH
                      have yy0 : (0 : Int) ≤ (x.R.length : Int) := by omega
                      have yy1 : (x.R.length : Int) ≤ 30 := by omega
                      have hM31 : (M : Int) ≤ 31 := by have := unhide HMM; omega
                      have hM30 : (0 : Int) ≤ (M : Int) := by omega
                      have hH0 : (0 : Int) ≤ (H : Int) := by omega
                      have HKH := hide hKH
                      have HT3 := hide (fun (k : Nat) (hk : k ≤ x.R.length) => ((unhide HT2).at hk).2)
                      have hgl : gm < w2.heap.size := World.block_lt_of_cell? _ _ (unhide HT3 0 (by omega))
                      clear hKH
                      go_wp2
                      go_loop [32, 33] (fun vl vi => ∃ i : Nat, i ≤ M ∧ vi = .int .i64 i ∧ vl = .int .i64 ((min (i - 1) KP : Nat) : Int)) (fun _ i => M - (intOf i).toNat)
                      case atStart => exact ⟨0, by omega, rfl, by simp⟩
                      case round =>
                        obtain ⟨i, hi, rfl, rfl⟩ := hrel
                        by_cases hlt : i < M
                        · have hlti : (i : Int) < (M : Int) := by omega
                          have ii0 : (0 : Int) ≤ (i : Int) := by omega
                          have ii1 : (i : Int) ≤ 30 := by have := unhide HMM; omega
                          have hcm := unhide HT3 i (by have := unhide HMM; omega)
                          have hKH := unhide HKH
                          by_cases hle : 9 * i ≤ H
                          · have hlei : ((9 * i : Nat) : Int) ≤ (H : Int) := by omega
                            have hmin : min (i + 1 - 1) KP = i := by omega
                            have HMIN := hide hmin
                            clear hKH hmin
                            as_aux_lemma =>
                              go_wp2
                              go_round
                              case rel => exact ⟨i + 1, by omega, by go_num, by rw [unhide HMIN]⟩
                              case measure => simp [intOf]; omega
                          · have hlei : ¬ ((9 * i : Nat) : Int) ≤ (H : Int) := by omega
                            have hmin : min (i + 1 - 1) KP = min (i - 1) KP := by omega
                            have HMIN := hide hmin
                            clear hKH hmin
                            as_aux_lemma =>
                              go_wp2
                              go_round
                              case rel => exact ⟨i + 1, by omega, by go_num, by rw [unhide HMIN]⟩
                              case measure => simp [intOf]; omega
                        · obtain rfl : i = M := by omega
                          have hge : ¬ (i : Int) < (i : Int) := by omega
                          rw [show min (i - 1) KP = KP by have := unhide HMM; omega]
                          obtain ⟨r1, r2, r3⟩ := unhide HKP
                          have hyl : y.R.length = KP := by rw [r1, List.length_take]; omega
                          have HK2 := hide (show Keep w.heap.size w2 J y gd cd gm cm (DL.take (KP + 1)) from ⟨unhide HL2, by rw [r1]; exact (unhide HT2).take hkl⟩)
                          have CB := hide (fun (W : World) (h : LogAt w.heap.size W J y) => show Calls Tryd.prog 10 #[.pointer (some ⟨J, 0, none⟩)] W (fun e w' => e = .returned (.int .i64 (LogM.size y : Nat)) ∧ Below W.heap.size W w') from (lbytes_any W h).mono (fun e w' q => ⟨q.1, by rw [q.2]; exact Below.refl _ _⟩))
                          rw [r3] at CB
                          have CS := hide (fun (W : World) (h : LogAt w.heap.size W J y) => show Calls Tryd.prog 11 #[.pointer (some ⟨J, 0, none⟩)] W (fun e w' => e = .returned (.int .i64 ((9 * y.s : Nat) : Int)) ∧ Below W.heap.size W w') from (lsafe_any W h).mono (fun e w' q => ⟨q.1, by rw [q.2]; exact Below.refl _ _⟩))
                          rw [r2] at CS
                          obtain ⟨⟨ad, nd, pd, hcd, hkd⟩, hcm⟩ := (unhide HK2).2.at (k := KP) (by omega)
                          rw [List.take_of_length_le (by omega)] at hkd
                          have HKD := hide hkd
                          have hnd : nd ≤ 16 := by rw [← hkd.1.1]; exact LogM.hist_len _
                          have HYL := hide hyl
                          have kp0 : (0 : Int) ≤ (KP : Int) := by omega
                          have kp1 : (KP : Int) ≤ 30 := by omega
                          have kp2 : (KP : Int) + 1 ≤ (i : Int) := by have := unhide HMM; omega
                          as_aux_lemma =>
                            clear hkd hyl
                            have hcc : KP + 1 ≤ cd := by
                              have q := (unhide HT2).1.2
                              rcases q with ⟨q, _⟩ | ⟨g, cap, cur, q, _, _, q4, _⟩
                              · cases q
                              · simp only [Value.slice.injEq] at q
                                obtain ⟨_, _, rfl⟩ := q
                                omega
                            have hcc2 : KP + 1 ≤ cm := by
                              have q := (unhide HT2).2.1.2
                              rcases q with ⟨q, _⟩ | ⟨g, cap, cur, q, _, _, q4, _⟩
                              · cases q
                              · simp only [Value.slice.injEq] at q
                                obtain ⟨_, _, rfl⟩ := q
                                omega
                            have hcci : (KP : Int) + 1 ≤ (cd : Int) := by omega
                            have hcci2 : (KP : Int) + 1 ≤ (cm : Int) := by omega
                            go_upto_region 64 with fail
                            have HZM := hide (show KP + 1 = y.R.length + 1 by rw [unhide HYL])
                            have kz0 : (KP : Int) < ((KP + 1 : Nat) : Int) := by omega
                            clear hcc hcc2 hcci hcci2 kp2
                            generalize KP + 1 = M2 at HZM HK2 kz0 ⊢
                            go_region_held3 (fun w' => Hid (Below w2.heap.size w2 w') ∧ w'.cell? ⟨gd, KP, none⟩ = some (.slice ad nd pd) ∧ w'.cell? ⟨gm, KP, none⟩ = some (.int .i64 ((9 * KP : Nat) : Int))) (first | exact reg_step2 (by assumption) hb | exact reg_beg2 hcd hcm)
                              ((first
                                | (go_at_call 9; refine (lall_any _ ((unhide HK2).1.later (unhide (And.left ‹Hid (Below w2.heap.size w2 _) ∧ _›)))).mono ?_; rintro e w' ⟨ae, ne, pe, rfl, hke, hb⟩; have hne : ne ≤ 16 := (by rw [← hke.1.1]; exact LogM.hist_len _))
                                | (go_at_call 15; refine (same_spent _ hne hke.1 ((unhide HKD).later (unhide (And.left ‹Hid (Below w2.heap.size w2 _) ∧ _›))).1).mono ?_; rintro e w' ⟨rfl, hb⟩)
                                | (go_at_call 10; refine (unhide CB _ ((unhide HK2).1.later (unhide (And.left ‹Hid (Below w2.heap.size w2 _) ∧ _›)))).mono ?_; rintro e w' ⟨rfl, hb⟩)
                                | (go_at_call 11; refine (unhide CS _ ((unhide HK2).1.later (unhide (And.left ‹Hid (Below w2.heap.size w2 _) ∧ _›)))).mono ?_; rintro e w' ⟨rfl, hb⟩)))
                            have HQ := (And.left ‹Hid (Below w2.heap.size w2 _) ∧ _›)
                            have HBz := hide (Below.trans (unhide HB2) ((unhide HQ).mono (unhide HB2).size))
                            have HKz := hide ((unhide HK2).later (unhide HQ))
                            clear hcd hcm
                            as_aux_lemma =>
                              go_wp2
                              go_roundw
                              case rel => exact ⟨q + 1, p, y, M2, gd, cd, gm, cm, _, by omega, by omega, HZM, rfl, rfl, rfl, by go_num, HKz, HBz⟩
                              case measure => simp [intOf]; omega
      · have hc1i : (q : Int) ≤ (len2 : Int) := by omega
        have hc2i : ¬ (q : Int) < 4 := by omega
        go_wp2
        go_ret
        exact ⟨rfl, unhide HB⟩
    · have hc1i : ¬ (q : Int) ≤ (len2 : Int) := by omega
      go_wp2
      go_ret
      exact ⟨rfl, unhide HB⟩

theorem len_in {w : World} {a : Option Addr} {len cap : Nat} {z : List Int} (h : IsRow .i64 w a len cap z) : len ≤ 9223372036854775807 := by
  rcases h with ⟨_, rfl, _⟩ | ⟨x, _, hl, hm, _⟩
  · omega
  · unfold maxLen at hm; omega
theorem lens_in {w : World} {a : Option Addr} {len cap : Nat} {A : Nat → Option Addr} {L C : Nat → Nat} {Z : Nat → List Int} (h : IsRows w a len cap A L C Z) : len ≤ 9223372036854775807 := by
  rcases h with ⟨_, rfl, _⟩ | ⟨x, _, hl, hm, _⟩
  · omega
  · unfold maxLen at hm; omega
theorem walk (a0 : Option Addr) (len0 cap0 : Nat) (A0 : Nat → Option Addr) (L0 C0 : Nat → Nat) (Z0 : Nat → List Int) (a1 : Option Addr) (len1 cap1 : Nat) (z1 : List Int) (a2 : Option Addr) (len2 cap2 : Nat) (z2 : List Int) (a3 : Option Addr) (len3 cap3 : Nat) (z3 : List Int) (w : World)
    (w0 : IsRows w a0 len0 cap0 A0 L0 C0 Z0) (w1 : IsRow .i64 w a1 len1 cap1 z1) (w2 : IsRow .i64 w a2 len2 cap2 z2) (w3 : IsRow .i64 w a3 len3 cap3 z3) (hg : ErrType w) :
    Calls Tryd.prog 3 #[.slice a0 len0 cap0, .slice a1 len1 cap1, .slice a2 len2 cap2, .slice a3 len3 cap3] w fun e w' => e = .returned (.bool true) ∧ Below w.heap.size w w' :=
  walk1 a0 len0 cap0 A0 L0 C0 Z0 a1 len1 cap1 z1 a2 len2 cap2 z2 a3 len3 cap3 z3 w w0 w1 w2 w3 ⟨lens_in w0, len_in w1, len_in w2, len_in w3⟩ hg


theorem gErr : Tryd.prog.globalNamed "errors.errorType" = some 0 := by kernel_rfl
theorem rtErr : (Tryd.prog.cutTypes.find? (·.1 == "internal/reflectlite.rtype")).map (·.2) = some 122 := by kernel_rfl
theorem oneRow : ((List.range 163).filter fun t => Tryd.prog.rowNamed t [101, 114, 114, 111, 114]) = [27] := by kernel_rfl
theorem sizeT : Tryd.prog.types.size = 163 := by kernel_rfl
theorem handle_of_laid {W : World} (h : laidMetH Tryd.prog Rows.logKeepsRow.laid W) : ErrType W := by
  have h' : laidMet Tryd.prog [] W ∧ handlesMet Tryd.prog Rows.logKeepsRow.laid W := h
  obtain ⟨name, u, ty, e1, e2, e3, e4, e5⟩ := h'.2 _ (List.mem_singleton.2 rfl)
  have en : name = [101, 114, 114, 111, 114] := (Option.some.inj e1).symm
  subst en
  obtain rfl := Option.some.inj (rtErr.symm.trans e2)
  have hm : ty ∈ (List.range 163).filter fun t => Tryd.prog.rowNamed t [101, 114, 114, 111, 114] := List.mem_filter.2 ⟨List.mem_range.2 (by rw [← sizeT]; exact e3), e4⟩
  rw [oneRow] at hm
  obtain rfl := List.mem_singleton.1 hm
  have hh : typeHandle Tryd.prog 27 = .pointer (some ⟨1, 27, none⟩) := by kernel_rfl
  rw [hh] at e5
  unfold ErrType
  simpa using World.var?_cell gErr e5 0
theorem door_met (os : Os) (args : Array Value) : laidMetH Tryd.prog Rows.logKeepsRow.laid ((World.doorLaid Tryd.prog 400 os).forCall (fun _ _ => 0) ⟨#[], args, []⟩).memory :=
  laidMetH_of_parts (laidMet_nil _ _) (by kernel_rfl)


set_option maxRecDepth 100000 in
theorem lifted (os : Os) (started : os.Started) (H : Type) (enc : TypeId × Value → H) :
    ReturnsInHanded {} Tryd.checked os 3 .any (fun w args => (Rows.logKeepsSpec.pre enc Tryd.prog Tryd.f3 [] false w args ∧ laidMetH Tryd.prog Rows.logKeepsRow.laid w) ∧ sizedMet enc Tryd.prog Tryd.f3 (OpenSpec.ofChange Rows.logKeepsSpec) false w args) (Rows.logKeepsSpec.post enc Tryd.prog Tryd.f3 false true false false) := by
  refine returnsInHanded_of_change_and (C := Tryd.checked) (X := fun w _ => laidMetH Tryd.prog Rows.logKeepsRow.laid w) (fun _ _ _ hh h => h.of_heap hh) own started (by kernel_rfl) Tryd.func3
    (ChangeSpec.witness_shaped (enc := enc) (C := Tryd.checked) (os := os) (X := fun w _ => laidMetH Tryd.prog Rows.logKeepsRow.laid w) false (World.doorLaid Tryd.prog 400 os) #[.slice none 0 0, .slice none 0 0, .slice none 0 0, .slice none 0 0] 8 rfl (World.shaped_of_RefB (by kernel_rfl) (by kernel_rfl)) (by kernel_rfl) (by kernel_rfl) (by kernel_rfl) (door_met os _)) ?_
  intro W base args ds gs before hval0 hW _ hsz hL _
  have hg := handle_of_laid hL
  have hval : ∀ (j : Nat) t v, Tryd.f3.params[j]? = some t → args[j]? = some v → Value.okWide Tryd.prog W .any base t v := hval0
  have hW' := hW
  obtain ⟨p, q, hA0, hV, rfl, hfz, hnd⟩ := hW
  have hA : DataW.TrodAll enc Tryd.prog W 0 (fun _ => true) true Tryd.f3.params.toList args.toList ds p := hA0
  rw [Tryd.params3] at hA hval
  obtain ⟨v0, vs0, d0, ds0, p0, q0, hargs, rfl, rfl, h0, r0⟩ := trodAll_cons hA
  obtain ⟨v1, vs1, d1, ds1, p1, q1, rfl, rfl, rfl, h1, r1⟩ := trodAll_cons r0
  obtain ⟨v2, vs2, d2, ds2, p2, q2, rfl, rfl, rfl, h2, r2⟩ := trodAll_cons r1
  obtain ⟨v3, vs3, d3, ds3, p3, q3, rfl, rfl, rfl, h3, r3⟩ := trodAll_cons r2
  obtain ⟨rfl, rfl, rfl⟩ := trodAll_nil r3
  obtain rfl : args = #[v0, v1, v2, v3] := by cases args; simp_all
  obtain ⟨rfl, rfl⟩ := trodVars_none hV
  have k0 := h0
  have lt0 : ∀ x ∈ p0, x.block < W.heap.size := by obtain ⟨m, hm⟩ := k0; exact DataW.trod_lt m _ _ _ hm
  obtain ⟨a0, len0, cap0, rfl⟩ := okWide_slice Tryd.underlying22 (hval 0 22 v0 rfl rfl)
  obtain ⟨A0, L0, C0, Z0, w0⟩ : ∃ A L C Z, IsRows W a0 len0 cap0 A L C Z := by
    obtain ⟨fuel, hf⟩ := h0
    rcases Go.Deep.open_int_rows Tryd.underlying22 Tryd.underlying23 Tryd.underlying3 (by kernel_rfl) (by kernel_rfl) hf with ⟨hcs, _⟩ | ⟨x, l, c, A, L, C, Z, hcs, _, hl, hm, _, hx⟩
    · simp [Value.cells] at hcs
      obtain ⟨rfl, rfl, rfl⟩ := hcs
      exact ⟨fun _ => none, fun _ => 0, fun _ => 0, fun _ => [], .inl ⟨rfl, rfl, rfl⟩⟩
    · simp [Value.cells] at hcs
      obtain ⟨rfl, rfl, rfl⟩ := hcs
      refine ⟨A, L, C, Z, .inr ⟨_, rfl, hl, hm, fun r hr => ?_⟩⟩
      obtain ⟨h1, h2, h3, h4, h5, h6, h7⟩ := hx r hr
      exact ⟨h1, h2, h3, h4, h5, h6, fun a' ha => (h7 a' ha).2⟩
  have k1 := h1
  have lt1 : ∀ x ∈ p1, x.block < W.heap.size := by obtain ⟨m, hm⟩ := k1; exact DataW.trod_lt m _ _ _ hm
  obtain ⟨a1, len1, cap1, rfl⟩ := okWide_slice Tryd.underlying23 (hval 1 23 v1 rfl rfl)
  obtain ⟨z1, w1⟩ : ∃ zs, IsRow .i64 W a1 len1 cap1 zs := by
    obtain ⟨fuel, hf⟩ := h1
    rcases open_ints Tryd.underlying23 Tryd.underlying3 (by kernel_rfl) hf with ⟨hcs, _⟩ | ⟨x, l, c, zs, hcs, _, hl, hm, hz, _, hcell, hwz⟩
    · simp [Value.cells] at hcs
      obtain ⟨rfl, rfl, rfl⟩ := hcs
      exact ⟨[], .inl ⟨rfl, rfl, rfl, rfl⟩⟩
    · simp [Value.cells] at hcs
      obtain ⟨rfl, rfl, rfl⟩ := hcs
      exact ⟨zs, .inr ⟨_, rfl, hl, hm, by simpa using hz, hcell, hwz⟩⟩
  have k2 := h2
  have lt2 : ∀ x ∈ p2, x.block < W.heap.size := by obtain ⟨m, hm⟩ := k2; exact DataW.trod_lt m _ _ _ hm
  obtain ⟨a2, len2, cap2, rfl⟩ := okWide_slice Tryd.underlying23 (hval 2 23 v2 rfl rfl)
  obtain ⟨z2, w2⟩ : ∃ zs, IsRow .i64 W a2 len2 cap2 zs := by
    obtain ⟨fuel, hf⟩ := h2
    rcases open_ints Tryd.underlying23 Tryd.underlying3 (by kernel_rfl) hf with ⟨hcs, _⟩ | ⟨x, l, c, zs, hcs, _, hl, hm, hz, _, hcell, hwz⟩
    · simp [Value.cells] at hcs
      obtain ⟨rfl, rfl, rfl⟩ := hcs
      exact ⟨[], .inl ⟨rfl, rfl, rfl, rfl⟩⟩
    · simp [Value.cells] at hcs
      obtain ⟨rfl, rfl, rfl⟩ := hcs
      exact ⟨zs, .inr ⟨_, rfl, hl, hm, by simpa using hz, hcell, hwz⟩⟩
  have k3 := h3
  have lt3 : ∀ x ∈ p3, x.block < W.heap.size := by obtain ⟨m, hm⟩ := k3; exact DataW.trod_lt m _ _ _ hm
  obtain ⟨a3, len3, cap3, rfl⟩ := okWide_slice Tryd.underlying23 (hval 3 23 v3 rfl rfl)
  obtain ⟨z3, w3⟩ : ∃ zs, IsRow .i64 W a3 len3 cap3 zs := by
    obtain ⟨fuel, hf⟩ := h3
    rcases open_ints Tryd.underlying23 Tryd.underlying3 (by kernel_rfl) hf with ⟨hcs, _⟩ | ⟨x, l, c, zs, hcs, _, hl, hm, hz, _, hcell, hwz⟩
    · simp [Value.cells] at hcs
      obtain ⟨rfl, rfl, rfl⟩ := hcs
      exact ⟨[], .inl ⟨rfl, rfl, rfl, rfl⟩⟩
    · simp [Value.cells] at hcs
      obtain ⟨rfl, rfl, rfl⟩ := hcs
      exact ⟨zs, .inr ⟨_, rfl, hl, hm, by simpa using hz, hcell, hwz⟩⟩
  clear hA0 hval0
  refine (walk a0 len0 cap0 A0 L0 C0 Z0 a1 len1 cap1 z1 a2 len2 cap2 z2 a3 len3 cap3 z3 W w0 w1 w2 w3 hg).mono fun e W' ⟨he, bel⟩ => ?_
  subst he
  exact ⟨_, rfl, _, _, _, [], _, [], hW', trodAll_mk1 (shut_bool Tryd.underlying4 _), (trodAll_cons_mk (Below.trod laidOut (by kernel_rfl) (of_decide_eq_true (by kernel_rfl)) k0 bel lt0) (trodAll_cons_mk (Below.trod laidOut (by kernel_rfl) (of_decide_eq_true (by kernel_rfl)) k1 bel lt1) (trodAll_cons_mk (Below.trod laidOut (by kernel_rfl) (of_decide_eq_true (by kernel_rfl)) k2 bel lt2) (trodAll_cons_mk (Below.trod laidOut (by kernel_rfl) (of_decide_eq_true (by kernel_rfl)) k3 bel lt3) trodAll_mk0)))), rfl, bel.frame _, fun h => by cases h⟩

theorem over : Rows.logKeepsRow.holds Tryd.pinned (OpenSpec.ofChange Rows.logKeepsSpec) :=
  OpenClaim.holds_of_wide 3 Tryd.f3 rfl rfl rfl rfl rfl rfl rfl ⟨rfl, rfl, rfl, rfl, rfl⟩ rfl rfl rfl rfl rfl (by kernel_rfl) Tryd.func3 (by kernel_rfl)
    (of_decide_eq_true (by kernel_rfl)) (by unfold Func.isWrapper; first | (rw [if_pos (by decide +kernel)]; kernel_rfl) | (rw [if_neg (by decide +kernel)]; exact ⟨rfl, rfl⟩))
    (fun os started H enc _ => lifted os started H enc)

theorem card : Rows.LogKeepsCardSaid :=
  Claim7.holds_tied_plain_at .later [] [.handle] true (true, "46a178472dc041461166106d14167603ec513a979df970bb2370facf269e82be") true
    over (fun _ h => by cases h) (by kernel_rfl) (fun _ h => by cases h) logKeeps_row_tie rfl ⟨rfl, rfl⟩ (by kernel_rfl) rfl
    (fun f fn hf hfn => by
      obtain rfl : f = 3 := Option.some.inj ((show Tryd.prog.funcNamed "tokenfold/foldlaw3.LogKeeps" = some 3 by kernel_rfl).symm.trans hf) |>.symm
      obtain rfl : fn = Tryd.f3 := (Option.some.inj (Tryd.func3.symm.trans hfn)).symm
      exact ⟨by kernel_rfl, fun j t ht => by
        rw [Tryd.params3] at ht
        have hm : t ∈ [22, 23, 23, 23] := by simpa using Array.mem_of_getElem? ht
        have hall : ([22, 23, 23, 23].all fun u => !Tryd.prog.wantsStandIn u) = true := by kernel_rfl
        exact (show Tryd.prog.wantsStandIn t = false by simpa using List.all_eq_true.1 hall t hm)⟩)
    (by kernel_rfl)

end Go.Proofs.YtfhpfdlbgmgclakDoor.logKeeps
namespace Go.Proofs.YtfhpfdlbgmgclakDoor
theorem logKeeps_holds : Rows.LogKeepsCardSaid := logKeeps.card
#print axioms logKeeps_holds
end Go.Proofs.YtfhpfdlbgmgclakDoor

