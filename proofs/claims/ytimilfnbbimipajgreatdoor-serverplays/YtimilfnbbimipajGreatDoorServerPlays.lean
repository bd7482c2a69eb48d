/-
  ServerPlays holds for every seed, every life, every list of deeds, every list of hellos and every list of times: what the server refuses, what it answers, and how many wait, are the document's. The listed variable errors.errorType starts as the program's text lays it (the card's tie). No other condition.
-/
import Derived.Test.YtimilfnbbimipajGreatDoorServerTwo
import Derived.Test.YtimilfnbbimipajGreatDoorHellos
import Derived.Test.YtimilfnbbimipajGreatDoorTie
import Derived.Test.YtimilfnbbimipajGreatDoorCards
import Derived.ProofKit
import Derived.Lib.SmallJoins
import Derived.LaidMore
import Derived.LaidHandle
import Derived.LaidLaws
import Derived.Stop.Joined
import Derived.SevenTiedAt
import Derived.Deep.CutRange
namespace Go.Proofs.YtimilfnbbimipajGreatDoor.serverPlays
open Go.ChangeShapes Go.WideShapes Go.ChangeAt Go.RowKit Go.Joins
set_option linter.unusedVariables false

theorem own : ownKnob Tryz.prog.godebug = none := by kernel_rfl
theorem laidOut : laidOutB Tryz.prog = true := by kernel_rfl
def IsRow (k : IntKind) (w : World) (a : Option Addr) (len cap : Nat) (zs : List Int) : Prop :=
  (a = none ∧ len = 0 ∧ cap = 0 ∧ zs = []) ∨
  ∃ x, a = some x ∧ len ≤ cap ∧ cap ≤ maxLen ∧ zs.length = cap ∧ (∀ i, i < zs.length → w.cell? (x.add i) = some (.int k (zs.getD i 0))) ∧ ∀ n ∈ zs, (Lit.int k n).wf = true
def IsStrs (w : World) (a : Option Addr) (len cap : Nat) (zs : List ByteArray) : Prop :=
  (a = none ∧ len = 0 ∧ cap = 0 ∧ zs = []) ∨
  ∃ x, a = some x ∧ len ≤ cap ∧ cap ≤ maxLen ∧ zs.length = cap ∧ (∀ i, i < zs.length → w.cell? (x.add i) = some (.string (zs.getD i ByteArray.empty))) ∧ ∀ s ∈ zs, s.size ≤ maxLen
def IsPairs (w : World) (a : Option Addr) (len cap : Nat) (zs : List (Int × Int)) : Prop :=
  (a = none ∧ len = 0 ∧ cap = 0 ∧ zs = []) ∨
  ∃ x, a = some x ∧ len ≤ cap ∧ cap ≤ maxLen ∧ zs.length = cap ∧ ∀ i, i < cap → w.cell? (x.add (i * 2)) = some (.int .i64 (zs.getD i (0, 0)).1) ∧ w.cell? (x.add (i * 2 + 1)) = some (.int .i64 (zs.getD i (0, 0)).2)
def IsRows (w : World) (a : Option Addr) (len cap : Nat) (A : Nat → Option Addr) (L C : Nat → Nat) (Z : Nat → List Int) : Prop :=
  (a = none ∧ len = 0 ∧ cap = 0) ∨
  ∃ x, a = some x ∧ len ≤ cap ∧ cap ≤ maxLen ∧ ∀ r, r < cap → w.cell? (x.add r) = some (.slice (A r) (L r) (C r)) ∧ L r ≤ C r ∧ C r ≤ maxLen ∧ (Z r).length = C r ∧ (∀ n ∈ Z r, (Lit.int .i64 n).wf = true) ∧ (A r = none → C r = 0) ∧
    ∀ a', A r = some a' → ∀ c, c < C r → w.cell? (a'.add c) = some (.int .i64 ((Z r).getD c 0))

set_option linter.unusedVariables false
attribute [local go_sem ↓] Go.wp_at_zero Go.wp_at_succ

theorem Lets.less {B : Nat} {G G2 : List Nat} {w w' : World} (h : Lets B G2 w w') (hs : ∀ g, g ∈ G → g ∈ G2) : Lets B G w w' := by
  obtain ⟨K, a1, a2⟩ := h
  exact ⟨K, a1, fun k hk hl => ⟨(a2 k hk hl).1, fun hg => (a2 k hk hl).2 (hs k hg)⟩⟩
theorem Lets.fresh8 {B : Nat} {G : List Nat} {V w' : World} {v0 v1 v2 v3 v4 v5 v6 v7 : Value} {T : TypeId} (h : Lets B (V.heap.size :: G) (V.alloc (.cells #[v0, v1, v2, v3, v4, v5, v6, v7] T)).drew w') : Held w' V.heap.size [v0, v1, v2, v3, v4, v5, v6, v7] :=
  h.held (List.mem_cons_self ..) ((Held.fresh (w := V) [v0, v1, v2, v3, v4, v5, v6, v7] T rfl).drew)
theorem rem2 (d : Int) : (Int.tmod d 2 = 0 ∧ (Int.tmod d 2 == 0) = true) ∨ (¬ Int.tmod d 2 = 0 ∧ (Int.tmod d 2 == 0) = false) := by
  by_cases h : Int.tmod d 2 = 0
  · exact .inl ⟨h, by simp [h]⟩
  · exact .inr ⟨h, by simp [h]⟩

set_option maxHeartbeats 12800000 in
set_option maxRecDepth 8000 in
theorem walk_bad (seed long : Int) (da : Option Addr) (dlen dcap : Nat) (ds : List Int) (la : Option Addr) (llen lcap : Nat) (Z : Nat → ServM.Hi) (ta : Option Addr) (tlen tcap : Nat) (ts : List Int) (w : World) (hg : ErrType w) (h : (TagM.inB seed && TokenM.timeB long) = false) :
    Calls Tryz.prog 3 #[.int .i64 seed, .int .i64 long, .slice da dlen dcap, .slice la llen lcap, .slice ta tlen tcap] w fun e w' => e = .returned (.bool true) ∧ Below w.heap.size w w' := by
  go_enter Tryz.func3, Tryz.ntmps3
  cases hs : TagM.inB seed with
  | false =>
    have C1 := hide (in_any seed)
    rw [hs] at C1
    have hss := (TagM.inB_not seed).1 hs
    cases hl : TokenM.timeB long with
    | false =>
      have C2 := hide (rtime_any long)
      rw [hl] at C2
      go_wp2_with fail
      refine (unhide C1 _).mono ?_
      rintro e w' ⟨rfl, hw⟩
      obtain rfl := hw.symm
      clear hw
      go_wp2_with fail
      refine (unhide C2 _).mono ?_
      rintro e w' ⟨rfl, hw⟩
      obtain rfl := hw.symm
      clear hw
      go_wp2_with fail
      refine (snew_seed long _ hss).mono ?_
      rintro e w1 ⟨rfl, hb1⟩
      have HB1 := hide hb1
      clear hb1
      go_wp2_with fail
      refine (same_errno 1 1 _ (hg.later (unhide HB1))).mono ?_
      rintro e w2 ⟨rfl, hb2⟩
      have HB2 := hide (bel3 (unhide HB1) (Below.refl _ _) hb2)
      clear hb2
      go_wp2
      go_ret
      exact ⟨rfl, unhide HB2⟩
    | true =>
      have C2 := hide (rtime_any long)
      rw [hl] at C2
      go_wp2_with fail
      refine (unhide C1 _).mono ?_
      rintro e w' ⟨rfl, hw⟩
      obtain rfl := hw.symm
      clear hw
      go_wp2_with fail
      refine (unhide C2 _).mono ?_
      rintro e w' ⟨rfl, hw⟩
      obtain rfl := hw.symm
      clear hw
      go_wp2_with fail
      refine (snew_seed long _ hss).mono ?_
      rintro e w1 ⟨rfl, hb1⟩
      have HB1 := hide hb1
      clear hb1
      go_wp2_with fail
      refine (same_errno 1 1 _ (hg.later (unhide HB1))).mono ?_
      rintro e w2 ⟨rfl, hb2⟩
      have HB2 := hide (bel3 (unhide HB1) (Below.refl _ _) hb2)
      clear hb2
      go_wp2
      go_ret
      exact ⟨rfl, unhide HB2⟩
  | true =>
    have C1 := hide (in_any seed)
    rw [hs] at C1
    have hl : TokenM.timeB long = false := by rw [hs] at h; simpa using h
    have C2 := hide (rtime_any long)
    rw [hl] at C2
    obtain ⟨s0, s1⟩ := (TagM.inB_iff seed).1 hs
    go_wp2_with fail
    refine (unhide C1 _).mono ?_
    rintro e w' ⟨rfl, hw⟩
    obtain rfl := hw.symm
    clear hw
    go_wp2_with fail
    refine (unhide C2 _).mono ?_
    rintro e w' ⟨rfl, hw⟩
    obtain rfl := hw.symm
    clear hw
    go_wp2_with fail
    refine (snew_life _ s0 s1 hl).mono ?_
    rintro e w1 ⟨rfl, hb1⟩
    have HB1 := hide hb1
    clear hb1
    go_wp2_with fail
    refine (same_errno 1 1 _ (hg.later (unhide HB1))).mono ?_
    rintro e w2 ⟨rfl, hb2⟩
    have HB2 := hide (bel3 (unhide HB1) (Below.refl _ _) hb2)
    clear hb2
    go_wp2
    go_ret
    exact ⟨rfl, unhide HB2⟩

set_option maxHeartbeats 12800000 in
set_option maxRecDepth 8000 in
theorem walk1 (seed long : Int) (da : Option Addr) (dlen dcap : Nat) (ds : List Int) (la : Option Addr) (llen lcap : Nat) (Z : Nat → ServM.Hi) (ta : Option Addr) (tlen tcap : Nat) (ts : List Int) (w : World) (hdl : ds.length = dlen) (hdi : Ints w da ds) (hh : IsHellos w la llen lcap Z) (htl : ts.length = tlen) (hti : Ints w ta ts) (hg : ErrType w) (h0 : 0 ≤ seed) (h1 : seed < 999983) (ht : TokenM.timeB long = true) :
    Calls Tryz.prog 3 #[.int .i64 seed, .int .i64 long, .slice da dlen dcap, .slice la llen lcap, .slice ta tlen tcap] w fun e w' => e = .returned (.bool true) ∧ Below w.heap.size w w' := by
  have HG := hide hg
  have HH := hide hh
  have HDL := hide hdl
  have HDI := hide hdi
  have HTL := hide htl
  have HTI := hide hti
  clear hg hh hdl hdi htl hti
  have CN := hide (fun w => snew_yes w h0 h1 ht)
  have CM := hide (fun w => mnew_any long w h0 h1)
  have GX0 := hide (ServM.new_good (seed := seed) ht)
  have C1 := hide (in_any seed)
  rw [(TagM.inB_iff seed).2 ⟨h0, h1⟩] at C1
  have C2 := hide (rtime_any long)
  rw [ht] at C2
  generalize ServM.new seed long = x0 at CN CM GX0
  clear h0 h1 ht
  go_enter Tryz.func3, Tryz.ntmps3
  go_wp2_with fail
  refine (unhide C1 _).mono ?_
  rintro e w' ⟨rfl, hw⟩
  obtain rfl := hw.symm
  clear hw
  go_wp2_with fail
  refine (unhide C2 _).mono ?_
  rintro e w' ⟨rfl, hw⟩
  obtain rfl := hw.symm
  clear hw
  go_wp2_with fail
  refine (unhide CN _).mono ?_
  rintro e w1 ⟨s, F1, rfl, hs1, hb1⟩
  have HS1 := hide hs1
  have HB1 := hide hb1
  clear hs1 hb1
  go_wp2_with fail
  refine (same_nil _ _).mono ?_
  rintro e w2 ⟨rfl, hb2⟩
  have HS2 := hide ((unhide HS1).later hb2)
  have HB2 := hide (bel3 (unhide HB1) (Below.refl _ _) hb2)
  clear hb2 HS1 HB1
  go_wp2_with fail
  refine (unhide CM _).mono ?_
  rintro e w3 ⟨m, rfl, hm3, hb3⟩
  have HD3 := hide (Duo.new (unhide HS2) hb3 hm3 (Nat.le_refl w.heap.size) (unhide HB2).size)
  have HB3 := hide (bel3 (unhide HB2) (Below.refl _ _) hb3)
  clear hm3 hb3 HS2 HB2 CN CM C1 C2
  go_wp2
  have HT6 : Hid (Held ((w3.alloc (.cells #[.int .i64 0, .int .i64 0, .int .i64 0, .int .i64 0] 34)).alloc (.cells #[.int .i64 0, .int .i64 0, .int .i64 0, .int .i64 0] 36)) w3.heap.size (n4 0 0 0 0)) := hide ((Held.fresh (w := w3) (n4 0 0 0 0) 34 rfl).alloc _)
  have HK6 : Hid (Held ((w3.alloc (.cells #[.int .i64 0, .int .i64 0, .int .i64 0, .int .i64 0] 34)).alloc (.cells #[.int .i64 0, .int .i64 0, .int .i64 0, .int .i64 0] 36)) (w3.heap.size + 1) (n4 0 0 0 0)) := hide (Held.fresh (w := (w3.alloc (.cells #[.int .i64 0, .int .i64 0, .int .i64 0, .int .i64 0] 34))) (n4 0 0 0 0) 36 (by simp))
  have HD6 := hide (((unhide HD3).more (below_alloc (Below.refl _ _) (.cells #[.int .i64 0, .int .i64 0, .int .i64 0, .int .i64 0] 34)) (Nat.le_refl w3.heap.size) (by simp)).more (below_alloc (Below.refl _ _) (.cells #[.int .i64 0, .int .i64 0, .int .i64 0, .int .i64 0] 36)) (show (w3.alloc (.cells #[.int .i64 0, .int .i64 0, .int .i64 0, .int .i64 0] 34)).heap.size ≤ w3.heap.size + 1 by simp) (by simp))
  have HB6 : Hid (Below w.heap.size w ((w3.alloc (.cells #[.int .i64 0, .int .i64 0, .int .i64 0, .int .i64 0] 34)).alloc (.cells #[.int .i64 0, .int .i64 0, .int .i64 0, .int .i64 0] 36))) := hide (below_alloc (below_alloc (unhide HB3) _) _)
  have zt : w.heap.size ≤ w3.heap.size := (unhide HB3).size
  have zk : w.heap.size ≤ w3.heap.size + 1 := by omega
  have htk : ¬ w3.heap.size = w3.heap.size + 1 := by omega
  generalize ((w3.alloc (.cells #[.int .i64 0, .int .i64 0, .int .i64 0, .int .i64 0] 34)).alloc (.cells #[.int .i64 0, .int .i64 0, .int .i64 0, .int .i64 0] 36)) = w6 at HT6 HK6 HD6 HB6 ⊢
  generalize w3.heap.size + 1 = bk at HK6 HD6 zk htk ⊢
  generalize w3.heap.size = bt at HT6 HD6 zt htk ⊢
  have HD7 := hide ((unhide HD6).less (G' := [bt, bk]) (by simp))
  clear HD3 HB3
  go_loopw [16, 20] (fun a0 i0 wr => ∃ (k : Nat) (x : ServM.St) (p0 p1 p2 p3 q0 q1 q2 q3 : Int), k ≤ 60 ∧ a0 = .bool true ∧ i0 = .int .i64 k ∧ Hid (ServM.Good x) ∧ Hid (Duo w.heap.size wr s m [bt, bk] x x) ∧ Hid (Held wr bt (n4 p0 p1 p2 p3)) ∧ Hid (Held wr bk (n4 q0 q1 q2 q3)) ∧ Hid (Below w.heap.size w wr)) (fun _ i0 _ => 60 - (intOf i0).toNat)
  case atStart => exact ⟨0, x0, 0, 0, 0, 0, 0, 0, 0, 0, by omega, rfl, rfl, GX0, HD7, HT6, HK6, HB6⟩
  case round =>
    clear HD7
    clear GX0 HD6 HT6 HK6 HB6
    obtain ⟨k, x, p0, p1, p2, p3, q0, q1, q2, q3, hk, rfl, rfl, GX, HD0, HT0, HK0, HB0⟩ := hrel
    by_cases hkd : (k : Int) < (dlen : Int)
    · by_cases hkl : (k : Int) < (llen : Int)
      · by_cases hkt : (k : Int) < (tlen : Int)
        · by_cases hk1 : (k : Int) < 60
          · obtain ⟨db, doff, rfl, hd'⟩ := (unhide HDI).2 k (by rw [unhide HDL]; omega)
            have dc := cell_later (unhide HB0) hd'
            obtain ⟨tb, toff, rfl, ht'⟩ := (unhide HTI).2 k (by rw [unhide HTL]; omega)
            have HTM := hide (show w.cell? ⟨tb, toff + k, none⟩ = some (.int .i64 (ts.getD k 0)) ∧ tb < w.heap.size from ⟨ht', World.block_lt_of_cell? _ _ ht'⟩)
            have tc := cell_later (unhide HB0) ht'
            have dl0 : db < wr.heap.size := World.block_lt_of_cell? _ _ dc
            have tl0 : tb < wr.heap.size := World.block_lt_of_cell? _ _ tc
            have hk0 : (0 : Int) ≤ (k : Int) := by omega
            generalize ds.getD k 0 = d at dc
            generalize ts.getD k 0 = tm at tc HTM
            clear hd' ht'
            by_cases hd0 : d = 0
            · subst hd0
              have CM := hide (fun (V : World) (G : List Nat) (hd : Duo w.heap.size V s m G x x) => hd.m (fun o R h => rticket_any tm V (unhide GX) h))
              have CS := hide (fun (V : World) (G : List Nat) (hd : Duo w.heap.size V s m G x (ServM.tick x tm)) => hd.s (fun F h => sticket_any (u := tm) V h (unhide GX)))
              have GY := hide (ServM.tick_good (u := tm) (unhide GX))
              generalize ServM.tEp x tm = e0 at CM CS
              generalize ServM.tNo x tm = e1 at CM CS
              generalize ServM.tUn x tm = e2 at CM CS
              generalize ServM.tTg x tm = e3 at CM CS
              generalize ServM.tErr x tm = E at CM CS
              generalize ServM.tick x tm = y at CM CS GY
              have hEE : (E == E) = true := by simp
              by_cases hE : E = 0
              · as_aux_lemma =>
                  subst hE
                  rw [errV_zero rfl] at CS
                  go_wp2_with fail
                  refine (unhide CM _ _ (unhide HD0)).mono ?_
                  rintro e w1 ⟨rfl, hd1, hl1⟩
                  have HT1 := hide (hl1.held (by simp) (unhide HT0))
                  have HK1 := hide (hl1.held (by simp) (unhide HK0))
                  have HD1 := hide hd1
                  have HB1 : Hid (Below w.heap.size w w1) := hide (hl1.below (unhide HB0) (unhide HB0).size)
                  clear HT0 HK0 HD0 HB0 hd1 hl1
                  have tc := cell_later (unhide HB1) (unhide HTM).1
                  have tl1 : tb < w1.heap.size := World.block_lt_of_cell? _ _ tc
                  go_wp2_with fail
                  have HW2 : Hid (Held (w1.alloc (.cells #[.int .i64 e0, .int .i64 e1, .int .i64 e2, .int .i64 e3] 36)) w1.heap.size (n4 e0 e1 e2 e3)) := hide (Held.fresh (w := w1) (n4 e0 e1 e2 e3) 36 rfl)
                  have HT2 := hide ((unhide HT1).alloc (.cells #[.int .i64 e0, .int .i64 e1, .int .i64 e2, .int .i64 e3] 36))
                  have HK2 := hide ((unhide HK1).alloc (.cells #[.int .i64 e0, .int .i64 e1, .int .i64 e2, .int .i64 e3] 36))
                  have HD2 := hide ((unhide HD1).more (below_alloc (Below.refl _ _) (.cells #[.int .i64 e0, .int .i64 e1, .int .i64 e2, .int .i64 e3] 36)) (Nat.le_refl w1.heap.size) (by simp))
                  have HB2 : Hid (Below w.heap.size w (w1.alloc (.cells #[.int .i64 e0, .int .i64 e1, .int .i64 e2, .int .i64 e3] 36))) := hide (below_alloc (unhide HB1) (.cells #[.int .i64 e0, .int .i64 e1, .int .i64 e2, .int .i64 e3] 36))
                  clear HT1 HK1 HD1 HB1
                  generalize (w1.alloc (.cells #[.int .i64 e0, .int .i64 e1, .int .i64 e2, .int .i64 e3] 36)) = w2 at HT2 HK2 HW2 HD2 HB2 ⊢
                  generalize w1.heap.size = bw at HW2 HD2 ⊢
                  refine (unhide CS _ _ (unhide HD2)).mono ?_
                  rintro e w3 ⟨rfl, hd3, hl3⟩
                  have HT3 := hide (hl3.held (by simp) (unhide HT2))
                  have HK3 := hide (hl3.held (by simp) (unhide HK2))
                  have HW3 := hide (hl3.held (by simp) (unhide HW2))
                  have HD3 := hide hd3
                  have HB3 : Hid (Below w.heap.size w w3) := hide (hl3.below (unhide HB2) (unhide HB2).size)
                  clear HT2 HK2 HW2 HD2 HB2 hd3 hl3
                  go_wp2_with fail
                  have HV4 : Hid (Held (w3.alloc (.cells #[.int .i64 e0, .int .i64 e1, .int .i64 e2, .int .i64 e3] 36)) w3.heap.size (n4 e0 e1 e2 e3)) := hide (Held.fresh (w := w3) (n4 e0 e1 e2 e3) 36 rfl)
                  have HT4 := hide ((unhide HT3).alloc (.cells #[.int .i64 e0, .int .i64 e1, .int .i64 e2, .int .i64 e3] 36))
                  have HK4 := hide ((unhide HK3).alloc (.cells #[.int .i64 e0, .int .i64 e1, .int .i64 e2, .int .i64 e3] 36))
                  have HW4 := hide ((unhide HW3).alloc (.cells #[.int .i64 e0, .int .i64 e1, .int .i64 e2, .int .i64 e3] 36))
                  have HD4 := hide ((unhide HD3).more (below_alloc (Below.refl _ _) (.cells #[.int .i64 e0, .int .i64 e1, .int .i64 e2, .int .i64 e3] 36)) (Nat.le_refl w3.heap.size) (by simp))
                  have HB4 : Hid (Below w.heap.size w (w3.alloc (.cells #[.int .i64 e0, .int .i64 e1, .int .i64 e2, .int .i64 e3] 36))) := hide (below_alloc (unhide HB3) (.cells #[.int .i64 e0, .int .i64 e1, .int .i64 e2, .int .i64 e3] 36))
                  clear HT3 HK3 HW3 HD3 HB3
                  generalize (w3.alloc (.cells #[.int .i64 e0, .int .i64 e1, .int .i64 e2, .int .i64 e3] 36)) = w4 at HT4 HK4 HW4 HV4 HD4 HB4 ⊢
                  generalize w3.heap.size = bv at HV4 HD4 ⊢
                  refine (same_nil _ _).mono ?_
                  rintro e w5 ⟨rfl, hb5⟩
                  have HT5 := hide ((unhide HT4).later hb5)
                  have HK5 := hide ((unhide HK4).later hb5)
                  have HW5 := hide ((unhide HW4).later hb5)
                  have HV5 := hide ((unhide HV4).later hb5)
                  have HD5 := hide ((unhide HD4).later hb5)
                  have HB5 : Hid (Below w.heap.size w w5) := hide (bel3 (unhide HB4) (Below.refl _ _) hb5)
                  clear HT4 HK4 HW4 HV4 HD4 HB4 hb5
                  obtain ⟨w0, w1, w2, w3⟩ := (unhide HW5).c4.1
                  have wl := (unhide HW5).2
                  obtain ⟨v0, v1, v2, v3⟩ := (unhide HV5).c4.1
                  have vl := (unhide HV5).2
                  obtain ⟨k0, k1, k2, k3⟩ := (unhide HK5).c4.1
                  have kl := (unhide HK5).2
                  obtain ⟨kf0, kf1, kf2, kf3⟩ := (unhide HK5).c4.2
                  go_upto_region 49 with fail
                  clear HW5
                  clear HV5
                  clear w0 w1 w2 w3 wl v0 v1 v2 v3 vl k0 k1 k2 k3 kl kf0 kf1 kf2 kf3
                  have HT6 : Hid (Held ((((w5.setCell ⟨bk, 0, none⟩ (.int .i64 e0)).setCell ⟨bk, 1, none⟩ (.int .i64 e1)).setCell ⟨bk, 2, none⟩ (.int .i64 e2)).setCell ⟨bk, 3, none⟩ (.int .i64 e3)) bt _) := hide (((((unhide HT5).far (c := bk) (by omega) 0 _).far (c := bk) (by omega) 1 _).far (c := bk) (by omega) 2 _).far (c := bk) (by omega) 3 _)
                  have HK6 : Hid (Held ((((w5.setCell ⟨bk, 0, none⟩ (.int .i64 e0)).setCell ⟨bk, 1, none⟩ (.int .i64 e1)).setCell ⟨bk, 2, none⟩ (.int .i64 e2)).setCell ⟨bk, 3, none⟩ (.int .i64 e3)) bk (n4 e0 e1 e2 e3)) := hide (((((unhide HK5).put 0 (.int .i64 e0)).put 1 (.int .i64 e1)).put 2 (.int .i64 e2)).put 3 (.int .i64 e3))
                  have HD6 := hide ((unhide HD5).kept (Kept.setCell (p := ⟨bk, 3, none⟩) (Kept.setCell (p := ⟨bk, 2, none⟩) (Kept.setCell (p := ⟨bk, 1, none⟩) (Kept.setCell (p := ⟨bk, 0, none⟩) (Kept.refl [bk] w5) (.inl (List.mem_singleton.2 rfl)) (.int .i64 e0)) (.inl (List.mem_singleton.2 rfl)) (.int .i64 e1)) (.inl (List.mem_singleton.2 rfl)) (.int .i64 e2)) (.inl (List.mem_singleton.2 rfl)) (.int .i64 e3)) (fun q hq => .inl (by rw [List.mem_singleton.1 hq]; simp)))
                  have HB6 : Hid (Below w.heap.size w ((((w5.setCell ⟨bk, 0, none⟩ (.int .i64 e0)).setCell ⟨bk, 1, none⟩ (.int .i64 e1)).setCell ⟨bk, 2, none⟩ (.int .i64 e2)).setCell ⟨bk, 3, none⟩ (.int .i64 e3))) := hide ((Kept.setCell (p := ⟨bk, 3, none⟩) (Kept.setCell (p := ⟨bk, 2, none⟩) (Kept.setCell (p := ⟨bk, 1, none⟩) (Kept.setCell (p := ⟨bk, 0, none⟩) (Kept.refl [bk] w5) (.inl (List.mem_singleton.2 rfl)) (.int .i64 e0)) (.inl (List.mem_singleton.2 rfl)) (.int .i64 e1)) (.inl (List.mem_singleton.2 rfl)) (.int .i64 e2)) (.inl (List.mem_singleton.2 rfl)) (.int .i64 e3)).below (unhide HB5) (unhide HB5).size (fun q hq => by rw [List.mem_singleton.1 hq]; first | exact zt | exact zk))
                  clear HT5 HK5 HD5 HB5
                  generalize ((((w5.setCell ⟨bk, 0, none⟩ (.int .i64 e0)).setCell ⟨bk, 1, none⟩ (.int .i64 e1)).setCell ⟨bk, 2, none⟩ (.int .i64 e2)).setCell ⟨bk, 3, none⟩ (.int .i64 e3)) = w6 at HT6 HK6 HD6 HB6 ⊢
                  go_upto_region 49 with fail
                  obtain ⟨wa, wc, wq, -⟩ := (unhide HD6).wait
                  have wl := (unhide HD6).lt.2
                  have CW := hide (fun V (hV : Below w6.heap.size w6 V) => ((unhide HD6).later hV).waits (unhide GY).len)
                  generalize y.L.length = ln at wq CW
                  have RS : Hid (∀ V : World, Below w6.heap.size w6 V → Hid (Below w6.heap.size w6 V) ∧ V.cell? ⟨m, 4, none⟩ = some (.slice wa ln wc)) := hide (fun V hV => ⟨hide hV, cell_later hV wq⟩)
                  go_region_held3 (fun w' => Hid (Below w6.heap.size w6 w') ∧ w'.cell? ⟨m, 4, none⟩ = some (.slice wa ln wc)) (first | exact unhide RS _ (Below.trans (unhide (And.left ‹Hid (Below w6.heap.size w6 _) ∧ _›)) (hbW.mono (unhide (And.left ‹Hid (Below w6.heap.size w6 _) ∧ _›)).size)) | exact unhide RS _ (Below.refl _ _).drew | exact unhide RS _ (unhide (And.left ‹Hid (Below w6.heap.size w6 _) ∧ _›)).drew)
                    (first | (go_at_call 19; refine (unhide CW _ (unhide (And.left ‹Hid (Below w6.heap.size w6 _) ∧ _›))).mono ?_; rintro e w7 ⟨rfl, hbW⟩))
                  have hbx := unhide (And.left ‹Hid (Below w6.heap.size w6 _) ∧ _›)
                  have HT7 := hide ((unhide HT6).later hbx)
                  have HK7 := hide ((unhide HK6).later hbx)
                  have HD7 := hide (((unhide HD6).later hbx).less (G' := [bt, bk]) (by simp))
                  have HB7 : Hid (Below w.heap.size w w7) := hide (bel3 (unhide HB6) (Below.refl _ _) hbx)
                  clear hbx hbW RS CW wq wl
                  go_wp2
                  go_roundw
                  case rel => exact ⟨k + 1, y, p0, p1, p2, p3, e0, e1, e2, e3, by omega, rfl, by go_num, GY, HD7, HT7, HK7, HB7⟩
                  case measure => simp [intOf]; omega
              · as_aux_lemma =>
                  rw [errV_pos hE] at CS
                  go_wp2_with fail
                  refine (unhide CM _ _ (unhide HD0)).mono ?_
                  rintro e w1 ⟨rfl, hd1, hl1⟩
                  have HT1 := hide (hl1.held (by simp) (unhide HT0))
                  have HK1 := hide (hl1.held (by simp) (unhide HK0))
                  have HD1 := hide hd1
                  have HB1 : Hid (Below w.heap.size w w1) := hide (hl1.below (unhide HB0) (unhide HB0).size)
                  clear HT0 HK0 HD0 HB0 hd1 hl1
                  have tc := cell_later (unhide HB1) (unhide HTM).1
                  have tl1 : tb < w1.heap.size := World.block_lt_of_cell? _ _ tc
                  go_wp2_with fail
                  have HW2 : Hid (Held (w1.alloc (.cells #[.int .i64 e0, .int .i64 e1, .int .i64 e2, .int .i64 e3] 36)) w1.heap.size (n4 e0 e1 e2 e3)) := hide (Held.fresh (w := w1) (n4 e0 e1 e2 e3) 36 rfl)
                  have HT2 := hide ((unhide HT1).alloc (.cells #[.int .i64 e0, .int .i64 e1, .int .i64 e2, .int .i64 e3] 36))
                  have HK2 := hide ((unhide HK1).alloc (.cells #[.int .i64 e0, .int .i64 e1, .int .i64 e2, .int .i64 e3] 36))
                  have HD2 := hide ((unhide HD1).more (below_alloc (Below.refl _ _) (.cells #[.int .i64 e0, .int .i64 e1, .int .i64 e2, .int .i64 e3] 36)) (Nat.le_refl w1.heap.size) (by simp))
                  have HB2 : Hid (Below w.heap.size w (w1.alloc (.cells #[.int .i64 e0, .int .i64 e1, .int .i64 e2, .int .i64 e3] 36))) := hide (below_alloc (unhide HB1) (.cells #[.int .i64 e0, .int .i64 e1, .int .i64 e2, .int .i64 e3] 36))
                  clear HT1 HK1 HD1 HB1
                  generalize (w1.alloc (.cells #[.int .i64 e0, .int .i64 e1, .int .i64 e2, .int .i64 e3] 36)) = w2 at HT2 HK2 HW2 HD2 HB2 ⊢
                  generalize w1.heap.size = bw at HW2 HD2 ⊢
                  refine (unhide CS _ _ (unhide HD2)).mono ?_
                  rintro e w3 ⟨rfl, hd3, hl3⟩
                  have HT3 := hide (hl3.held (by simp) (unhide HT2))
                  have HK3 := hide (hl3.held (by simp) (unhide HK2))
                  have HW3 := hide (hl3.held (by simp) (unhide HW2))
                  have HD3 := hide hd3
                  have HB3 : Hid (Below w.heap.size w w3) := hide (hl3.below (unhide HB2) (unhide HB2).size)
                  clear HT2 HK2 HW2 HD2 HB2 hd3 hl3
                  go_wp2_with fail
                  have HV4 : Hid (Held (w3.alloc (.cells #[.int .i64 e0, .int .i64 e1, .int .i64 e2, .int .i64 e3] 36)) w3.heap.size (n4 e0 e1 e2 e3)) := hide (Held.fresh (w := w3) (n4 e0 e1 e2 e3) 36 rfl)
                  have HT4 := hide ((unhide HT3).alloc (.cells #[.int .i64 e0, .int .i64 e1, .int .i64 e2, .int .i64 e3] 36))
                  have HK4 := hide ((unhide HK3).alloc (.cells #[.int .i64 e0, .int .i64 e1, .int .i64 e2, .int .i64 e3] 36))
                  have HW4 := hide ((unhide HW3).alloc (.cells #[.int .i64 e0, .int .i64 e1, .int .i64 e2, .int .i64 e3] 36))
                  have HD4 := hide ((unhide HD3).more (below_alloc (Below.refl _ _) (.cells #[.int .i64 e0, .int .i64 e1, .int .i64 e2, .int .i64 e3] 36)) (Nat.le_refl w3.heap.size) (by simp))
                  have HB4 : Hid (Below w.heap.size w (w3.alloc (.cells #[.int .i64 e0, .int .i64 e1, .int .i64 e2, .int .i64 e3] 36))) := hide (below_alloc (unhide HB3) (.cells #[.int .i64 e0, .int .i64 e1, .int .i64 e2, .int .i64 e3] 36))
                  clear HT3 HK3 HW3 HD3 HB3
                  generalize (w3.alloc (.cells #[.int .i64 e0, .int .i64 e1, .int .i64 e2, .int .i64 e3] 36)) = w4 at HT4 HK4 HW4 HV4 HD4 HB4 ⊢
                  generalize w3.heap.size = bv at HV4 HD4 ⊢
                  refine (same_errno E E _ ((unhide HG).later (unhide HB4))).mono ?_
                  rintro e w5 ⟨rfl, hb5⟩
                  have HT5 := hide ((unhide HT4).later hb5)
                  have HK5 := hide ((unhide HK4).later hb5)
                  have HW5 := hide ((unhide HW4).later hb5)
                  have HV5 := hide ((unhide HV4).later hb5)
                  have HD5 := hide ((unhide HD4).later hb5)
                  have HB5 : Hid (Below w.heap.size w w5) := hide (bel3 (unhide HB4) (Below.refl _ _) hb5)
                  clear HT4 HK4 HW4 HV4 HD4 HB4 hb5
                  obtain ⟨w0, w1, w2, w3⟩ := (unhide HW5).c4.1
                  have wl := (unhide HW5).2
                  obtain ⟨v0, v1, v2, v3⟩ := (unhide HV5).c4.1
                  have vl := (unhide HV5).2
                  go_upto_region 49 with fail
                  clear w0 w1 w2 w3 wl v0 v1 v2 v3 vl
                  go_upto_region 49 with fail
                  obtain ⟨wa, wc, wq, -⟩ := (unhide HD5).wait
                  have wl := (unhide HD5).lt.2
                  have CW := hide (fun V (hV : Below w5.heap.size w5 V) => ((unhide HD5).later hV).waits (unhide GY).len)
                  generalize y.L.length = ln at wq CW
                  have RS : Hid (∀ V : World, Below w5.heap.size w5 V → Hid (Below w5.heap.size w5 V) ∧ V.cell? ⟨m, 4, none⟩ = some (.slice wa ln wc)) := hide (fun V hV => ⟨hide hV, cell_later hV wq⟩)
                  go_region_held3 (fun w' => Hid (Below w5.heap.size w5 w') ∧ w'.cell? ⟨m, 4, none⟩ = some (.slice wa ln wc)) (first | exact unhide RS _ (Below.trans (unhide (And.left ‹Hid (Below w5.heap.size w5 _) ∧ _›)) (hbW.mono (unhide (And.left ‹Hid (Below w5.heap.size w5 _) ∧ _›)).size)) | exact unhide RS _ (Below.refl _ _).drew | exact unhide RS _ (unhide (And.left ‹Hid (Below w5.heap.size w5 _) ∧ _›)).drew)
                    (first | (go_at_call 19; refine (unhide CW _ (unhide (And.left ‹Hid (Below w5.heap.size w5 _) ∧ _›))).mono ?_; rintro e w6 ⟨rfl, hbW⟩))
                  have hbx := unhide (And.left ‹Hid (Below w5.heap.size w5 _) ∧ _›)
                  have HT6 := hide ((unhide HT5).later hbx)
                  have HK6 := hide ((unhide HK5).later hbx)
                  have HD6 := hide (((unhide HD5).later hbx).less (G' := [bt, bk]) (by simp))
                  have HB6 : Hid (Below w.heap.size w w6) := hide (bel3 (unhide HB5) (Below.refl _ _) hbx)
                  clear hbx hbW RS CW wq wl
                  go_wp2
                  go_roundw
                  case rel => exact ⟨k + 1, y, p0, p1, p2, p3, q0, q1, q2, q3, by omega, rfl, by go_num, GY, HD6, HT6, HK6, HB6⟩
                  case measure => simp [intOf]; omega
            · by_cases hd1 : d = 1
              · by_cases hE : RingM.turnErr x.ep x.key x.old = 0
                · as_aux_lemma =>
                    subst hd1
                    have CM := hide (fun V => ref_turn_any (ep := x.ep) (key := x.key) (old := x.old) (unhide GX).ring (fun _ => ⟨rfl, rfl, rfl⟩) (fun q => absurd hE q) V)
                    have GY := hide (ServM.turn_good (unhide GX))
                    have CS := hide (fun (V : World) (G : List Nat) (hd : Duo w.heap.size V s m G x ({ x with ep := x.ep + 1, key := TagM.tag x.key [x.ep + 1], old := x.key })) => hd.s (fun F h => sturn_any V h))
                    have ht : ServM.turn x = { x with ep := x.ep + 1, key := TagM.tag x.key [x.ep + 1], old := x.key } := if_pos hE
                    rw [hE, errV_zero rfl] at CS
                    rw [hE] at CM
                    rw [ht] at CS GY
                    clear hE ht
                    generalize hg : TagM.tag x.key [x.ep + 1] = g at CM CS GY
                    obtain ⟨⟨m0, m1, m2⟩, -, ml⟩ := (unhide HD0).nums
                    go_wp2_with fail
                    refine (unhide CM _).mono ?_
                    rintro e w1 ⟨rfl, hb1⟩
                    clear m0 m1 m2 ml
                    have HT1 := hide ((unhide HT0).later hb1)
                    have HK1 := hide ((unhide HK0).later hb1)
                    have HD1 := hide ((unhide HD0).later hb1)
                    have HB1 : Hid (Below w.heap.size w w1) := hide (bel3 (unhide HB0) (Below.refl _ _) hb1)
                    clear HT0 HK0 HD0 HB0 hb1
                    obtain ⟨⟨m0, m1, m2⟩, mf, ml⟩ := (unhide HD1).nums
                    have mf0 := mf 0
                    have mf1 := mf 1
                    have mf2 := mf 2
                    clear mf
                    go_wp2_with fail
                    have hr := (unhide HD1).ring (a := (x.ep + 1)) (b := g) (c := x.key)
                    have HT2 := hide ((hr.2.held (by simp) (unhide HT1)).alloc (.cells #[.int .i64 (x.ep + 1), .int .i64 g, .int .i64 x.key] 42))
                    have HK2 := hide ((hr.2.held (by simp) (unhide HK1)).alloc (.cells #[.int .i64 (x.ep + 1), .int .i64 g, .int .i64 x.key] 42))
                    have HD2 := hide (hr.1.alloc (.cells #[.int .i64 (x.ep + 1), .int .i64 g, .int .i64 x.key] 42))
                    have HB2 : Hid (Below w.heap.size w ((((w1.setCell ⟨m, 0, none⟩ (.int .i64 (x.ep + 1))).setCell ⟨m, 1, none⟩ (.int .i64 g)).setCell ⟨m, 2, none⟩ (.int .i64 x.key)).alloc (.cells #[.int .i64 (x.ep + 1), .int .i64 g, .int .i64 x.key] 42))) := hide (below_alloc (hr.2.below (unhide HB1) (unhide HB1).size) (.cells #[.int .i64 (x.ep + 1), .int .i64 g, .int .i64 x.key] 42))
                    clear hr
                    clear HT1 HK1 HD1 HB1
                    clear m0 m1 m2 ml mf0 mf1 mf2
                    generalize ((((w1.setCell ⟨m, 0, none⟩ (.int .i64 (x.ep + 1))).setCell ⟨m, 1, none⟩ (.int .i64 g)).setCell ⟨m, 2, none⟩ (.int .i64 x.key)).alloc (.cells #[.int .i64 (x.ep + 1), .int .i64 g, .int .i64 x.key] 42)) = w2 at HT2 HK2 HD2 HB2 ⊢
                    refine (unhide CS _ _ (unhide HD2)).mono ?_
                    rintro e w3 ⟨rfl, hd3, hl3⟩
                    have HT3 := hide (hl3.held (by simp) (unhide HT2))
                    have HK3 := hide (hl3.held (by simp) (unhide HK2))
                    have HD3 := hide hd3
                    have HB3 : Hid (Below w.heap.size w w3) := hide (hl3.below (unhide HB2) (unhide HB2).size)
                    clear HT2 HK2 HD2 HB2 hd3 hl3
                    go_wp2_with fail
                    refine (same_nil _ _).mono ?_
                    rintro e w4 ⟨rfl, hb4⟩
                    have HT4 := hide ((unhide HT3).later hb4)
                    have HK4 := hide ((unhide HK3).later hb4)
                    have HD4 := hide ((unhide HD3).later hb4)
                    have HB4 : Hid (Below w.heap.size w w4) := hide (bel3 (unhide HB3) (Below.refl _ _) hb4)
                    clear HT3 HK3 HD3 HB3 hb4
                    go_upto_region 49 with fail
                    obtain ⟨wa, wc, wq, -⟩ := (unhide HD4).wait
                    have wl := (unhide HD4).lt.2
                    have CW := hide (fun V (hV : Below w4.heap.size w4 V) => ((unhide HD4).later hV).waits (unhide GY).len)
                    generalize ({ x with ep := x.ep + 1, key := g, old := x.key }).L.length = ln at wq CW
                    have RS : Hid (∀ V : World, Below w4.heap.size w4 V → Hid (Below w4.heap.size w4 V) ∧ V.cell? ⟨m, 4, none⟩ = some (.slice wa ln wc)) := hide (fun V hV => ⟨hide hV, cell_later hV wq⟩)
                    go_region_held3 (fun w' => Hid (Below w4.heap.size w4 w') ∧ w'.cell? ⟨m, 4, none⟩ = some (.slice wa ln wc)) (first | exact unhide RS _ (Below.trans (unhide (And.left ‹Hid (Below w4.heap.size w4 _) ∧ _›)) (hbW.mono (unhide (And.left ‹Hid (Below w4.heap.size w4 _) ∧ _›)).size)) | exact unhide RS _ (Below.refl _ _).drew | exact unhide RS _ (unhide (And.left ‹Hid (Below w4.heap.size w4 _) ∧ _›)).drew)
                      (first | (go_at_call 19; refine (unhide CW _ (unhide (And.left ‹Hid (Below w4.heap.size w4 _) ∧ _›))).mono ?_; rintro e w5 ⟨rfl, hbW⟩))
                    have hbx := unhide (And.left ‹Hid (Below w4.heap.size w4 _) ∧ _›)
                    have HT5 := hide ((unhide HT4).later hbx)
                    have HK5 := hide ((unhide HK4).later hbx)
                    have HD5 := hide (((unhide HD4).later hbx).less (G' := [bt, bk]) (by simp))
                    have HB5 : Hid (Below w.heap.size w w5) := hide (bel3 (unhide HB4) (Below.refl _ _) hbx)
                    clear hbx hbW RS CW wq wl
                    go_wp2
                    go_roundw
                    case rel => exact ⟨k + 1, { x with ep := x.ep + 1, key := g, old := x.key }, p0, p1, p2, p3, q0, q1, q2, q3, by omega, rfl, by go_num, GY, HD5, HT5, HK5, HB5⟩
                    case measure => simp [intOf]; omega
                · as_aux_lemma =>
                    subst hd1
                    have CM := hide (fun V => ref_turn_any (ep := x.ep) (key := x.key) (old := x.old) (unhide GX).ring (fun q => absurd q hE) (fun _ => ⟨rfl, rfl, rfl⟩) V)
                    have GY := hide (ServM.turn_good (unhide GX))
                    have CS := hide (fun (V : World) (G : List Nat) (hd : Duo w.heap.size V s m G x (x)) => hd.s (fun F h => sturn_any V h))
                    have ht : ServM.turn x = x := if_neg hE
                    rw [errV_pos hE] at CS
                    rw [ht] at CS GY
                    have hE2 : (RingM.turnErr x.ep x.key x.old == 0) = false := by simp [hE]
                    have hEE : (RingM.turnErr x.ep x.key x.old == RingM.turnErr x.ep x.key x.old) = true := by simp
                    generalize RingM.turnErr x.ep x.key x.old = E at CM CS hE hE2 hEE
                    clear ht
                    obtain ⟨⟨m0, m1, m2⟩, -, ml⟩ := (unhide HD0).nums
                    go_wp2_with fail
                    refine (unhide CM _).mono ?_
                    rintro e w1 ⟨rfl, hb1⟩
                    clear m0 m1 m2 ml
                    have HT1 := hide ((unhide HT0).later hb1)
                    have HK1 := hide ((unhide HK0).later hb1)
                    have HD1 := hide ((unhide HD0).later hb1)
                    have HB1 : Hid (Below w.heap.size w w1) := hide (bel3 (unhide HB0) (Below.refl _ _) hb1)
                    clear HT0 HK0 HD0 HB0 hb1
                    go_wp2_with fail
                    have HN2 : Hid (Held (w1.alloc (.cells #[.int .i64 0, .int .i64 0, .int .i64 0] 42)) w1.heap.size (n3 0 0 0)) := hide (Held.fresh (w := w1) (n3 0 0 0) 42 rfl)
                    have HT2 := hide ((unhide HT1).alloc (.cells #[.int .i64 0, .int .i64 0, .int .i64 0] 42))
                    have HK2 := hide ((unhide HK1).alloc (.cells #[.int .i64 0, .int .i64 0, .int .i64 0] 42))
                    have HD2 := hide ((unhide HD1).more (below_alloc (Below.refl _ _) (.cells #[.int .i64 0, .int .i64 0, .int .i64 0] 42)) (Nat.le_refl w1.heap.size) (by simp))
                    have HB2 : Hid (Below w.heap.size w (w1.alloc (.cells #[.int .i64 0, .int .i64 0, .int .i64 0] 42))) := hide (below_alloc (unhide HB1) (.cells #[.int .i64 0, .int .i64 0, .int .i64 0] 42))
                    clear HT1 HK1 HD1 HB1
                    generalize (w1.alloc (.cells #[.int .i64 0, .int .i64 0, .int .i64 0] 42)) = w2 at HT2 HK2 HN2 HD2 HB2 ⊢
                    generalize w1.heap.size = bn at HN2 HD2 ⊢
                    refine (unhide CS _ _ (unhide HD2)).mono ?_
                    rintro e w3 ⟨rfl, hd3, hl3⟩
                    have HT3 := hide (hl3.held (by simp) (unhide HT2))
                    have HK3 := hide (hl3.held (by simp) (unhide HK2))
                    have HN3 := hide (hl3.held (by simp) (unhide HN2))
                    have HD3 := hide hd3
                    have HB3 : Hid (Below w.heap.size w w3) := hide (hl3.below (unhide HB2) (unhide HB2).size)
                    clear HT2 HK2 HN2 HD2 HB2 hd3 hl3
                    go_wp2_with fail
                    refine (same_errno E E _ ((unhide HG).later (unhide HB3))).mono ?_
                    rintro e w4 ⟨rfl, hb4⟩
                    have HT4 := hide ((unhide HT3).later hb4)
                    have HK4 := hide ((unhide HK3).later hb4)
                    have HN4 := hide ((unhide HN3).later hb4)
                    have HD4 := hide ((unhide HD3).later hb4)
                    have HB4 : Hid (Below w.heap.size w w4) := hide (bel3 (unhide HB3) (Below.refl _ _) hb4)
                    clear HT3 HK3 HN3 HD3 HB3 hb4
                    go_upto_region 49 with fail
                    obtain ⟨wa, wc, wq, -⟩ := (unhide HD4).wait
                    have wl := (unhide HD4).lt.2
                    have CW := hide (fun V (hV : Below w4.heap.size w4 V) => ((unhide HD4).later hV).waits (unhide GY).len)
                    generalize x.L.length = ln at wq CW
                    have RS : Hid (∀ V : World, Below w4.heap.size w4 V → Hid (Below w4.heap.size w4 V) ∧ V.cell? ⟨m, 4, none⟩ = some (.slice wa ln wc)) := hide (fun V hV => ⟨hide hV, cell_later hV wq⟩)
                    go_region_held3 (fun w' => Hid (Below w4.heap.size w4 w') ∧ w'.cell? ⟨m, 4, none⟩ = some (.slice wa ln wc)) (first | exact unhide RS _ (Below.trans (unhide (And.left ‹Hid (Below w4.heap.size w4 _) ∧ _›)) (hbW.mono (unhide (And.left ‹Hid (Below w4.heap.size w4 _) ∧ _›)).size)) | exact unhide RS _ (Below.refl _ _).drew | exact unhide RS _ (unhide (And.left ‹Hid (Below w4.heap.size w4 _) ∧ _›)).drew)
                      (first | (go_at_call 19; refine (unhide CW _ (unhide (And.left ‹Hid (Below w4.heap.size w4 _) ∧ _›))).mono ?_; rintro e w5 ⟨rfl, hbW⟩))
                    have hbx := unhide (And.left ‹Hid (Below w4.heap.size w4 _) ∧ _›)
                    have HT5 := hide ((unhide HT4).later hbx)
                    have HK5 := hide ((unhide HK4).later hbx)
                    have HD5 := hide (((unhide HD4).later hbx).less (G' := [bt, bk]) (by simp))
                    have HB5 : Hid (Below w.heap.size w w5) := hide (bel3 (unhide HB4) (Below.refl _ _) hbx)
                    clear hbx hbW RS CW wq wl
                    go_wp2
                    go_roundw
                    case rel => exact ⟨k + 1, x, p0, p1, p2, p3, q0, q1, q2, q3, by omega, rfl, by go_num, GY, HD5, HT5, HK5, HB5⟩
                    case measure => simp [intOf]; omega
              · by_cases hd2 : d = 2
                · as_aux_lemma =>
                    subst hd2
                    have GY := hide (ServM.crash_good (unhide GX))
                    go_wp2_with fail
                    refine ((unhide HD0).s (fun F h => scrash_any _ (unhide GX).nm h)).mono ?_
                    rintro e w1 ⟨rfl, hd1, hl1⟩
                    have HT1 := hide (hl1.held (by simp) (unhide HT0))
                    have HK1 := hide (hl1.held (by simp) (unhide HK0))
                    have HD1 := hide hd1
                    have HB1 : Hid (Below w.heap.size w w1) := hide (hl1.below (unhide HB0) (unhide HB0).size)
                    clear HT0 HK0 HD0 HB0 hd1 hl1
                    go_wp2_with fail
                    refine ((unhide HD1).m (fun o R h => mcrash_any _ h)).mono ?_
                    rintro e w2 ⟨rfl, hd2, hl2⟩
                    have HT2 := hide (hl2.held (by simp) (unhide HT1))
                    have HK2 := hide (hl2.held (by simp) (unhide HK1))
                    have HD2 := hide hd2
                    have HB2 : Hid (Below w.heap.size w w2) := hide (hl2.below (unhide HB1) (unhide HB1).size)
                    clear HT1 HK1 HD1 HB1 hd2 hl2
                    go_upto_region 49 with fail
                    obtain ⟨wa, wc, wq, -⟩ := (unhide HD2).wait
                    have wl := (unhide HD2).lt.2
                    have CW := hide (fun V (hV : Below w2.heap.size w2 V) => ((unhide HD2).later hV).waits (unhide GY).len)
                    generalize (ServM.crash x).L.length = ln at wq CW
                    have RS : Hid (∀ V : World, Below w2.heap.size w2 V → Hid (Below w2.heap.size w2 V) ∧ V.cell? ⟨m, 4, none⟩ = some (.slice wa ln wc)) := hide (fun V hV => ⟨hide hV, cell_later hV wq⟩)
                    go_region_held3 (fun w' => Hid (Below w2.heap.size w2 w') ∧ w'.cell? ⟨m, 4, none⟩ = some (.slice wa ln wc)) (first | exact unhide RS _ (Below.trans (unhide (And.left ‹Hid (Below w2.heap.size w2 _) ∧ _›)) (hbW.mono (unhide (And.left ‹Hid (Below w2.heap.size w2 _) ∧ _›)).size)) | exact unhide RS _ (Below.refl _ _).drew | exact unhide RS _ (unhide (And.left ‹Hid (Below w2.heap.size w2 _) ∧ _›)).drew)
                      (first | (go_at_call 19; refine (unhide CW _ (unhide (And.left ‹Hid (Below w2.heap.size w2 _) ∧ _›))).mono ?_; rintro e w3 ⟨rfl, hbW⟩))
                    have hbx := unhide (And.left ‹Hid (Below w2.heap.size w2 _) ∧ _›)
                    have HT3 := hide ((unhide HT2).later hbx)
                    have HK3 := hide ((unhide HK2).later hbx)
                    have HD3 := hide (((unhide HD2).later hbx).less (G' := [bt, bk]) (by simp))
                    have HB3 : Hid (Below w.heap.size w w3) := hide (bel3 (unhide HB2) (Below.refl _ _) hbx)
                    clear hbx hbW RS CW wq wl
                    go_wp2
                    go_roundw
                    case rel => exact ⟨k + 1, (ServM.crash x), p0, p1, p2, p3, q0, q1, q2, q3, by omega, rfl, by go_num, GY, HD3, HT3, HK3, HB3⟩
                    case measure => simp [intOf]; omega
                · by_cases hd3 : d = 3
                  · by_cases hL : x.L = []
                    · as_aux_lemma =>
                        subst hd3
                        obtain ⟨wa, wc, wq, wp⟩ := (unhide HD0).wait
                        have wl := (unhide HD0).lt.2
                        have CS := hide (fun (V : World) (G : List Nat) (hd : Duo w.heap.size V s m G x x) => hd.s (fun F h => spull_none V h hL))
                        rw [hL] at wq
                        clear wp hL
                        go_wp2_with fail
                        clear wq wl
                        have HW1 : Hid (Held (wr.alloc (.cells #[.int .i64 0, .int .i64 0] 55)) wr.heap.size ([.int .i64 0, .int .i64 0])) := hide (Held.fresh (w := wr) ([.int .i64 0, .int .i64 0]) 55 rfl)
                        have HT1 := hide ((unhide HT0).alloc (.cells #[.int .i64 0, .int .i64 0] 55))
                        have HK1 := hide ((unhide HK0).alloc (.cells #[.int .i64 0, .int .i64 0] 55))
                        have HD1 := hide ((unhide HD0).more (below_alloc (Below.refl _ _) (.cells #[.int .i64 0, .int .i64 0] 55)) (Nat.le_refl wr.heap.size) (by simp))
                        have HB1 : Hid (Below w.heap.size w (wr.alloc (.cells #[.int .i64 0, .int .i64 0] 55))) := hide (below_alloc (unhide HB0) (.cells #[.int .i64 0, .int .i64 0] 55))
                        clear HT0 HK0 HD0 HB0
                        generalize (wr.alloc (.cells #[.int .i64 0, .int .i64 0] 55)) = w1 at HT1 HK1 HW1 HD1 HB1 ⊢
                        generalize wr.heap.size = bw at HW1 HD1 ⊢
                        refine (unhide CS _ _ (unhide HD1)).mono ?_
                        rintro e w2 ⟨rfl, hd2, hl2⟩
                        have HT2 := hide (hl2.held (by simp) (unhide HT1))
                        have HK2 := hide (hl2.held (by simp) (unhide HK1))
                        have HW2 := hide (hl2.held (by simp) (unhide HW1))
                        have HD2 := hide hd2
                        have HB2 : Hid (Below w.heap.size w w2) := hide (hl2.below (unhide HB1) (unhide HB1).size)
                        clear HT1 HK1 HW1 HD1 HB1 hd2 hl2
                        go_wp2_with fail
                        have HV3 : Hid (Held (w2.alloc (.cells #[.int .i64 0, .int .i64 0] 55)) w2.heap.size ([.int .i64 0, .int .i64 0])) := hide (Held.fresh (w := w2) ([.int .i64 0, .int .i64 0]) 55 rfl)
                        have HT3 := hide ((unhide HT2).alloc (.cells #[.int .i64 0, .int .i64 0] 55))
                        have HK3 := hide ((unhide HK2).alloc (.cells #[.int .i64 0, .int .i64 0] 55))
                        have HW3 := hide ((unhide HW2).alloc (.cells #[.int .i64 0, .int .i64 0] 55))
                        have HD3 := hide ((unhide HD2).more (below_alloc (Below.refl _ _) (.cells #[.int .i64 0, .int .i64 0] 55)) (Nat.le_refl w2.heap.size) (by simp))
                        have HB3 : Hid (Below w.heap.size w (w2.alloc (.cells #[.int .i64 0, .int .i64 0] 55))) := hide (below_alloc (unhide HB2) (.cells #[.int .i64 0, .int .i64 0] 55))
                        clear HT2 HK2 HW2 HD2 HB2
                        generalize (w2.alloc (.cells #[.int .i64 0, .int .i64 0] 55)) = w3 at HT3 HK3 HW3 HV3 HD3 HB3 ⊢
                        generalize w2.heap.size = bv at HV3 HD3 ⊢
                        refine (same_errno 5 5 _ ((unhide HG).later (unhide HB3))).mono ?_
                        rintro e w4 ⟨rfl, hb4⟩
                        have HT4 := hide ((unhide HT3).later hb4)
                        have HK4 := hide ((unhide HK3).later hb4)
                        have HW4 := hide ((unhide HW3).later hb4)
                        have HV4 := hide ((unhide HV3).later hb4)
                        have HD4 := hide ((unhide HD3).later hb4)
                        have HB4 : Hid (Below w.heap.size w w4) := hide (bel3 (unhide HB3) (Below.refl _ _) hb4)
                        clear HT3 HK3 HW3 HV3 HD3 HB3 hb4
                        obtain ⟨w0, w1⟩ := (unhide HW4).c2.1
                        have wl := (unhide HW4).2
                        obtain ⟨v0, v1⟩ := (unhide HV4).c2.1
                        have vl := (unhide HV4).2
                        go_upto_region 49 with fail
                        clear w0 w1 wl v0 v1 vl
                        go_upto_region 49 with fail
                        obtain ⟨wa, wc, wq, -⟩ := (unhide HD4).wait
                        have wl := (unhide HD4).lt.2
                        have CW := hide (fun V (hV : Below w4.heap.size w4 V) => ((unhide HD4).later hV).waits (unhide GX).len)
                        generalize x.L.length = ln at wq CW
                        have RS : Hid (∀ V : World, Below w4.heap.size w4 V → Hid (Below w4.heap.size w4 V) ∧ V.cell? ⟨m, 4, none⟩ = some (.slice wa ln wc)) := hide (fun V hV => ⟨hide hV, cell_later hV wq⟩)
                        go_region_held3 (fun w' => Hid (Below w4.heap.size w4 w') ∧ w'.cell? ⟨m, 4, none⟩ = some (.slice wa ln wc)) (first | exact unhide RS _ (Below.trans (unhide (And.left ‹Hid (Below w4.heap.size w4 _) ∧ _›)) (hbW.mono (unhide (And.left ‹Hid (Below w4.heap.size w4 _) ∧ _›)).size)) | exact unhide RS _ (Below.refl _ _).drew | exact unhide RS _ (unhide (And.left ‹Hid (Below w4.heap.size w4 _) ∧ _›)).drew)
                          (first | (go_at_call 19; refine (unhide CW _ (unhide (And.left ‹Hid (Below w4.heap.size w4 _) ∧ _›))).mono ?_; rintro e w5 ⟨rfl, hbW⟩))
                        have hbx := unhide (And.left ‹Hid (Below w4.heap.size w4 _) ∧ _›)
                        have HT5 := hide ((unhide HT4).later hbx)
                        have HK5 := hide ((unhide HK4).later hbx)
                        have HD5 := hide (((unhide HD4).later hbx).less (G' := [bt, bk]) (by simp))
                        have HB5 : Hid (Below w.heap.size w w5) := hide (bel3 (unhide HB4) (Below.refl _ _) hbx)
                        clear hbx hbW RS CW wq wl
                        go_wp2
                        go_roundw
                        case rel => exact ⟨k + 1, x, p0, p1, p2, p3, q0, q1, q2, q3, by omega, rfl, by go_num, GX, HD5, HT5, HK5, HB5⟩
                        case measure => simp [intOf]; omega
                    · as_aux_lemma =>
                        obtain ⟨mm, r, hL, mm0, mm1, hr, hp⟩ := pull_some (unhide GX) hL
                        subst hd3
                        obtain ⟨wa, wc, wq, wp⟩ := (unhide HD0).wait
                        have wl := (unhide HD0).lt.2
                        have GY : Hid (ServM.Good { x with L := r }) := hide (by have q := ServM.pull_good (unhide GX); rw [hp] at q; exact q)
                        have CM := hide (fun (V : World) (G : List Nat) (hd : Duo w.heap.size V s m G x x) => hd.m (fun o R h => rout_in (i := 0) V h (by rw [hL]; simp) (unhide GX).len))
                        rw [show x.L.eraseIdx 0 = r by rw [hL]; rfl] at CM
                        have CS := hide (fun (V : World) (G : List Nat) (hd : Duo w.heap.size V s m G x { x with L := r }) => hd.s (fun F h => spull_yes V h hL hr))
                        rw [hL] at wq wp
                        obtain ⟨g, goff, rfl, c0, c1⟩ := wp.2.2 0 (by simp)
                        simp only [List.length_cons, List.getD_cons_zero, Nat.zero_mul, Nat.add_zero] at c0 c1 wq
                        have gl : g < wr.heap.size := World.block_lt_of_cell? _ _ c0
                        clear wp hp hL
                        generalize r.length = rn at wq hr
                        go_wp2_with fail
                        clear wq wl c0 c1 gl
                        have HW1 : Hid (Held (wr.alloc (.cells #[.int .i64 0, .int .i64 mm] 55)) wr.heap.size ([.int .i64 0, .int .i64 mm])) := hide (Held.fresh (w := wr) ([.int .i64 0, .int .i64 mm]) 55 rfl)
                        have HT1 := hide ((unhide HT0).alloc (.cells #[.int .i64 0, .int .i64 mm] 55))
                        have HK1 := hide ((unhide HK0).alloc (.cells #[.int .i64 0, .int .i64 mm] 55))
                        have HD1 := hide ((unhide HD0).more (below_alloc (Below.refl _ _) (.cells #[.int .i64 0, .int .i64 mm] 55)) (Nat.le_refl wr.heap.size) (by simp))
                        have HB1 : Hid (Below w.heap.size w (wr.alloc (.cells #[.int .i64 0, .int .i64 mm] 55))) := hide (below_alloc (unhide HB0) (.cells #[.int .i64 0, .int .i64 mm] 55))
                        clear HT0 HK0 HD0 HB0
                        generalize (wr.alloc (.cells #[.int .i64 0, .int .i64 mm] 55)) = w1 at HT1 HK1 HW1 HD1 HB1 ⊢
                        generalize wr.heap.size = bw at HW1 HD1 ⊢
                        refine (unhide CM _ _ (unhide HD1)).mono ?_
                        rintro e w2 ⟨rfl, hd2, hl2⟩
                        have HT2 := hide (hl2.held (by simp) (unhide HT1))
                        have HK2 := hide (hl2.held (by simp) (unhide HK1))
                        have HW2 := hide (hl2.held (by simp) (unhide HW1))
                        have HD2 := hide hd2
                        have HB2 : Hid (Below w.heap.size w w2) := hide (hl2.below (unhide HB1) (unhide HB1).size)
                        clear HT1 HK1 HW1 HD1 HB1 hd2 hl2
                        go_wp2_with fail
                        refine (unhide CS _ _ (unhide HD2)).mono ?_
                        rintro e w3 ⟨rfl, hd3, hl3⟩
                        have HT3 := hide (hl3.held (by simp) (unhide HT2))
                        have HK3 := hide (hl3.held (by simp) (unhide HK2))
                        have HW3 := hide (hl3.held (by simp) (unhide HW2))
                        have HD3 := hide hd3
                        have HB3 : Hid (Below w.heap.size w w3) := hide (hl3.below (unhide HB2) (unhide HB2).size)
                        clear HT2 HK2 HW2 HD2 HB2 hd3 hl3
                        go_wp2_with fail
                        have HV4 : Hid (Held (w3.alloc (.cells #[.int .i64 0, .int .i64 mm] 55)) w3.heap.size ([.int .i64 0, .int .i64 mm])) := hide (Held.fresh (w := w3) ([.int .i64 0, .int .i64 mm]) 55 rfl)
                        have HT4 := hide ((unhide HT3).alloc (.cells #[.int .i64 0, .int .i64 mm] 55))
                        have HK4 := hide ((unhide HK3).alloc (.cells #[.int .i64 0, .int .i64 mm] 55))
                        have HW4 := hide ((unhide HW3).alloc (.cells #[.int .i64 0, .int .i64 mm] 55))
                        have HD4 := hide ((unhide HD3).more (below_alloc (Below.refl _ _) (.cells #[.int .i64 0, .int .i64 mm] 55)) (Nat.le_refl w3.heap.size) (by simp))
                        have HB4 : Hid (Below w.heap.size w (w3.alloc (.cells #[.int .i64 0, .int .i64 mm] 55))) := hide (below_alloc (unhide HB3) (.cells #[.int .i64 0, .int .i64 mm] 55))
                        clear HT3 HK3 HW3 HD3 HB3
                        generalize (w3.alloc (.cells #[.int .i64 0, .int .i64 mm] 55)) = w4 at HT4 HK4 HW4 HV4 HD4 HB4 ⊢
                        generalize w3.heap.size = bv at HV4 HD4 ⊢
                        refine (same_nil _ _).mono ?_
                        rintro e w5 ⟨rfl, hb5⟩
                        have HT5 := hide ((unhide HT4).later hb5)
                        have HK5 := hide ((unhide HK4).later hb5)
                        have HW5 := hide ((unhide HW4).later hb5)
                        have HV5 := hide ((unhide HV4).later hb5)
                        have HD5 := hide ((unhide HD4).later hb5)
                        have HB5 : Hid (Below w.heap.size w w5) := hide (bel3 (unhide HB4) (Below.refl _ _) hb5)
                        clear HT4 HK4 HW4 HV4 HD4 HB4 hb5
                        obtain ⟨w0, w1⟩ := (unhide HW5).c2.1
                        have wl := (unhide HW5).2
                        obtain ⟨v0, v1⟩ := (unhide HV5).c2.1
                        have vl := (unhide HV5).2
                        go_upto_region 49 with fail
                        clear w0 w1 wl v0 v1 vl
                        go_upto_region 49 with fail
                        obtain ⟨wa, wc, wq, -⟩ := (unhide HD5).wait
                        have wl := (unhide HD5).lt.2
                        have CW := hide (fun V (hV : Below w5.heap.size w5 V) => ((unhide HD5).later hV).waits (unhide GY).len)
                        generalize ({ x with L := r }).L.length = ln at wq CW
                        have RS : Hid (∀ V : World, Below w5.heap.size w5 V → Hid (Below w5.heap.size w5 V) ∧ V.cell? ⟨m, 4, none⟩ = some (.slice wa ln wc)) := hide (fun V hV => ⟨hide hV, cell_later hV wq⟩)
                        go_region_held3 (fun w' => Hid (Below w5.heap.size w5 w') ∧ w'.cell? ⟨m, 4, none⟩ = some (.slice wa ln wc)) (first | exact unhide RS _ (Below.trans (unhide (And.left ‹Hid (Below w5.heap.size w5 _) ∧ _›)) (hbW.mono (unhide (And.left ‹Hid (Below w5.heap.size w5 _) ∧ _›)).size)) | exact unhide RS _ (Below.refl _ _).drew | exact unhide RS _ (unhide (And.left ‹Hid (Below w5.heap.size w5 _) ∧ _›)).drew)
                          (first | (go_at_call 19; refine (unhide CW _ (unhide (And.left ‹Hid (Below w5.heap.size w5 _) ∧ _›))).mono ?_; rintro e w6 ⟨rfl, hbW⟩))
                        have hbx := unhide (And.left ‹Hid (Below w5.heap.size w5 _) ∧ _›)
                        have HT6 := hide ((unhide HT5).later hbx)
                        have HK6 := hide ((unhide HK5).later hbx)
                        have HD6 := hide (((unhide HD5).later hbx).less (G' := [bt, bk]) (by simp))
                        have HB6 : Hid (Below w.heap.size w w6) := hide (bel3 (unhide HB5) (Below.refl _ _) hbx)
                        clear hbx hbW RS CW wq wl
                        go_wp2
                        go_roundw
                        case rel => exact ⟨k + 1, { x with L := r }, p0, p1, p2, p3, q0, q1, q2, q3, by omega, rfl, by go_num, GY, HD6, HT6, HK6, HB6⟩
                        case measure => simp [intOf]; omega
                  · have hq0 : (d == 0) = false := by simp [hd0]
                    have hq1 : (d == 1) = false := by simp [hd1]
                    have hq2 : (d == 2) = false := by simp [hd2]
                    have hq3 : (d == 3) = false := by simp [hd3]
                    obtain ⟨lb, loff, rfl, hz⟩ := hello_at (unhide HH) (show k < llen by omega)
                    have zc0 := cell_later (unhide HB0) (hz 0 _ rfl)
                    have zc1 := cell_later (unhide HB0) (hz 1 _ rfl)
                    have zc2 := cell_later (unhide HB0) (hz 2 _ rfl)
                    have zc3 := cell_later (unhide HB0) (hz 3 _ rfl)
                    have zc4 := cell_later (unhide HB0) (hz 4 _ rfl)
                    have zc5 := cell_later (unhide HB0) (hz 5 _ rfl)
                    have zc6 := cell_later (unhide HB0) (hz 6 _ rfl)
                    have zc7 := cell_later (unhide HB0) (hz 7 _ rfl)
                    have zc8 := cell_later (unhide HB0) (hz 8 _ rfl)
                    have zc9 := cell_later (unhide HB0) (hz 9 _ rfl)
                    simp only [Nat.add_zero] at zc0
                    have zl : lb < wr.heap.size := World.block_lt_of_cell? _ _ zc0
                    clear hz
                    generalize (Z k).a = za at zc0
                    generalize (Z k).te = z1 at zc1
                    generalize (Z k).ta = z2 at zc2
                    generalize (Z k).tt = z3 at zc3
                    generalize (Z k).tg = z4 at zc4
                    generalize (Z k).ke = z5 at zc5
                    generalize (Z k).kn = z6 at zc6
                    generalize (Z k).ku = z7 at zc7
                    generalize (Z k).kg = z8 at zc8
                    generalize (Z k).s = zs at zc9
                    rcases rem2 d with ⟨hev, hev2⟩ | ⟨hev, hev2⟩
                    · obtain ⟨t0, t1, t2, t3⟩ := (unhide HT0).c4.1
                      have tl := (unhide HT0).2
                      obtain ⟨k0, k1, k2, k3⟩ := (unhide HK0).c4.1
                      have kl := (unhide HK0).2
                      go_upto_region 21 with fail
                      clear t0 t1 t2 t3 tl k0 k1 k2 k3 kl
                      have HH1 : Hid (Held (wr.alloc (.cells #[.int .i64 za, .int .i64 p0, .int .i64 p1, .int .i64 p2, .int .i64 p3, .int .i64 q0, .int .i64 q1, .int .i64 q2, .int .i64 q3, .string zs] 60)) wr.heap.size (nh za p0 p1 p2 p3 q0 q1 q2 q3 zs)) := hide (Held.fresh (w := wr) (nh za p0 p1 p2 p3 q0 q1 q2 q3 zs) 60 rfl)
                      have HT1 := hide ((unhide HT0).alloc (.cells #[.int .i64 za, .int .i64 p0, .int .i64 p1, .int .i64 p2, .int .i64 p3, .int .i64 q0, .int .i64 q1, .int .i64 q2, .int .i64 q3, .string zs] 60))
                      have HK1 := hide ((unhide HK0).alloc (.cells #[.int .i64 za, .int .i64 p0, .int .i64 p1, .int .i64 p2, .int .i64 p3, .int .i64 q0, .int .i64 q1, .int .i64 q2, .int .i64 q3, .string zs] 60))
                      have HD1 := hide ((unhide HD0).more (below_alloc (Below.refl _ _) (.cells #[.int .i64 za, .int .i64 p0, .int .i64 p1, .int .i64 p2, .int .i64 p3, .int .i64 q0, .int .i64 q1, .int .i64 q2, .int .i64 q3, .string zs] 60)) (Nat.le_refl wr.heap.size) (by simp))
                      have HB1 : Hid (Below w.heap.size w (wr.alloc (.cells #[.int .i64 za, .int .i64 p0, .int .i64 p1, .int .i64 p2, .int .i64 p3, .int .i64 q0, .int .i64 q1, .int .i64 q2, .int .i64 q3, .string zs] 60))) := hide (below_alloc (unhide HB0) (.cells #[.int .i64 za, .int .i64 p0, .int .i64 p1, .int .i64 p2, .int .i64 p3, .int .i64 q0, .int .i64 q1, .int .i64 q2, .int .i64 q3, .string zs] 60))
                      clear HT0 HK0 HD0 HB0
                      generalize (wr.alloc (.cells #[.int .i64 za, .int .i64 p0, .int .i64 p1, .int .i64 p2, .int .i64 p3, .int .i64 q0, .int .i64 q1, .int .i64 q2, .int .i64 q3, .string zs] 60)) = w1 at HT1 HK1 HH1 HD1 HB1 ⊢
                      generalize wr.heap.size = bh at HH1 HD1 ⊢
                      obtain ⟨v1, v2, v3, v4, v5, v6, v7, v8, HHv⟩ : ∃ v1 v2 v3 v4 v5 v6 v7 v8 : Int, Hid (Held w1 bh (nh za v1 v2 v3 v4 v5 v6 v7 v8 zs)) := ⟨p0, p1, p2, p3, q0, q1, q2, q3, HH1⟩
                      clear HH1
                      have HH1 := HHv
                      clear HHv
                      clear zc0 zc1 zc2 zc3 zc4 zc5 zc6 zc7 zc8 zc9 dc zl hev hev2
                      obtain ⟨hi, hie⟩ : ∃ hi : ServM.Hi, hi = ⟨za, v1, v2, v3, v4, v5, v6, v7, v8, zs⟩ := ⟨_, rfl⟩
                      have CM := hide (fun (V : World) (G : List Nat) (hd : Duo w.heap.size V s m G x x) => hd.m (fun o R h => rhello_any hi tm V (unhide GX) h))
                      have CS := hide (fun (V : World) (G : List Nat) (hd : Duo w.heap.size V s m G x (ServM.next x hi tm)) => hd.s (fun F h => shello_any hi tm V (unhide GX) h))
                      have GY := hide (ServM.next_good (h := hi) (now := tm) (unhide GX))
                      generalize ServM.aKind x hi tm = aK at CM CS
                      generalize ServM.aEp x hi tm = aE at CM CS
                      generalize ServM.aAd x hi tm = aA at CM CS
                      generalize ServM.aTi x hi tm = aT at CM CS
                      generalize ServM.aTg x hi tm = aG at CM CS
                      generalize ServM.aCo x hi tm = aC at CM CS
                      generalize ServM.soon x hi tm = aS at CM CS
                      generalize ServM.err x hi tm = E at CM CS
                      generalize ServM.next x hi tm = y at CM CS GY
                      subst hie
                      dsimp only at CM CS
                      have hEE : (E == E) = true := by simp
                      have hSS : (aS == aS) = true := by simp
                      go_upto_region 21 with fail
                      go_cut [32, 33] from 63 to 242 (fun a b wx => ∃ bn : Nat, a = .pointer (some ⟨bn, 0, none⟩) ∧ b = .int .i64 E ∧ Hid (Held wx bn (na aK aE aA aT aG aC aS)) ∧ Hid (Duo w.heap.size wx s m (bn :: [bh, bt, bk]) x y) ∧ Hid (Held wx bt (n4 p0 p1 p2 p3)) ∧ Hid (Held wx bk (n4 q0 q1 q2 q3)) ∧ Hid (Held wx bh (nh za v1 v2 v3 v4 v5 v6 v7 v8 zs)) ∧ Hid (Below w.heap.size w wx))
                      case first =>
                        have HT0' := (unhide HTM).2
                        obtain ⟨⟨h0, h1, h2, h3, h4, h5, h6, h7, h8, h9⟩, -⟩ := (unhide HH1).c10
                        have tmc := cell_later (unhide HB1) (unhide HTM).1
                        have hhl := (unhide HH1).2
                        have RS : Hid (∀ V : World, Lets w.heap.size [bh, bt, bk] w1 V → Hid (Lets w.heap.size [bh, bt, bk] w1 V) ∧ V.cell? ⟨bh, 0, none⟩ = some (.int .i64 za) ∧ V.cell? ⟨bh, 1, none⟩ = some (.int .i64 v1) ∧ V.cell? ⟨bh, 2, none⟩ = some (.int .i64 v2) ∧ V.cell? ⟨bh, 3, none⟩ = some (.int .i64 v3) ∧ V.cell? ⟨bh, 4, none⟩ = some (.int .i64 v4) ∧ V.cell? ⟨bh, 5, none⟩ = some (.int .i64 v5) ∧ V.cell? ⟨bh, 6, none⟩ = some (.int .i64 v6) ∧ V.cell? ⟨bh, 7, none⟩ = some (.int .i64 v7) ∧ V.cell? ⟨bh, 8, none⟩ = some (.int .i64 v8) ∧ V.cell? ⟨bh, 9, none⟩ = some (.string zs) ∧ V.cell? ⟨tb, toff + k, none⟩ = some (.int .i64 tm)) := hide (fun V hk => by
                          obtain ⟨⟨g0, g1, g2, g3, g4, g5, g6, g7, g8, g9⟩, -⟩ := (hk.held (by simp) (unhide HH1)).c10
                          exact ⟨hide hk, g0, g1, g2, g3, g4, g5, g6, g7, g8, g9, hk.cell (unhide HTM).2 (cell_later (unhide HB1) (unhide HTM).1)⟩)
                        have hR0 : Hid (Lets w.heap.size [bh, bt, bk] w1 w1.drew) ∧ w1.drew.cell? ⟨bh, 0, none⟩ = some (.int .i64 za) ∧ w1.drew.cell? ⟨bh, 1, none⟩ = some (.int .i64 v1) ∧ w1.drew.cell? ⟨bh, 2, none⟩ = some (.int .i64 v2) ∧ w1.drew.cell? ⟨bh, 3, none⟩ = some (.int .i64 v3) ∧ w1.drew.cell? ⟨bh, 4, none⟩ = some (.int .i64 v4) ∧ w1.drew.cell? ⟨bh, 5, none⟩ = some (.int .i64 v5) ∧ w1.drew.cell? ⟨bh, 6, none⟩ = some (.int .i64 v6) ∧ w1.drew.cell? ⟨bh, 7, none⟩ = some (.int .i64 v7) ∧ w1.drew.cell? ⟨bh, 8, none⟩ = some (.int .i64 v8) ∧ w1.drew.cell? ⟨bh, 9, none⟩ = some (.string zs) ∧ w1.drew.cell? ⟨tb, toff + k, none⟩ = some (.int .i64 tm) := unhide RS _ (Lets.refl _ _ _).drew
                        have hR1 : Hid (Lets w.heap.size [bh, bt, bk] w1 (w1.alloc (.cells #[.int .i64 0, .int .i64 0, .int .i64 0, .int .i64 0, .int .i64 0, .int .i64 0, .int .i64 0, .bool false] 62)).drew) ∧ (w1.alloc (.cells #[.int .i64 0, .int .i64 0, .int .i64 0, .int .i64 0, .int .i64 0, .int .i64 0, .int .i64 0, .bool false] 62)).drew.cell? ⟨bh, 0, none⟩ = some (.int .i64 za) ∧ (w1.alloc (.cells #[.int .i64 0, .int .i64 0, .int .i64 0, .int .i64 0, .int .i64 0, .int .i64 0, .int .i64 0, .bool false] 62)).drew.cell? ⟨bh, 1, none⟩ = some (.int .i64 v1) ∧ (w1.alloc (.cells #[.int .i64 0, .int .i64 0, .int .i64 0, .int .i64 0, .int .i64 0, .int .i64 0, .int .i64 0, .bool false] 62)).drew.cell? ⟨bh, 2, none⟩ = some (.int .i64 v2) ∧ (w1.alloc (.cells #[.int .i64 0, .int .i64 0, .int .i64 0, .int .i64 0, .int .i64 0, .int .i64 0, .int .i64 0, .bool false] 62)).drew.cell? ⟨bh, 3, none⟩ = some (.int .i64 v3) ∧ (w1.alloc (.cells #[.int .i64 0, .int .i64 0, .int .i64 0, .int .i64 0, .int .i64 0, .int .i64 0, .int .i64 0, .bool false] 62)).drew.cell? ⟨bh, 4, none⟩ = some (.int .i64 v4) ∧ (w1.alloc (.cells #[.int .i64 0, .int .i64 0, .int .i64 0, .int .i64 0, .int .i64 0, .int .i64 0, .int .i64 0, .bool false] 62)).drew.cell? ⟨bh, 5, none⟩ = some (.int .i64 v5) ∧ (w1.alloc (.cells #[.int .i64 0, .int .i64 0, .int .i64 0, .int .i64 0, .int .i64 0, .int .i64 0, .int .i64 0, .bool false] 62)).drew.cell? ⟨bh, 6, none⟩ = some (.int .i64 v6) ∧ (w1.alloc (.cells #[.int .i64 0, .int .i64 0, .int .i64 0, .int .i64 0, .int .i64 0, .int .i64 0, .int .i64 0, .bool false] 62)).drew.cell? ⟨bh, 7, none⟩ = some (.int .i64 v7) ∧ (w1.alloc (.cells #[.int .i64 0, .int .i64 0, .int .i64 0, .int .i64 0, .int .i64 0, .int .i64 0, .int .i64 0, .bool false] 62)).drew.cell? ⟨bh, 8, none⟩ = some (.int .i64 v8) ∧ (w1.alloc (.cells #[.int .i64 0, .int .i64 0, .int .i64 0, .int .i64 0, .int .i64 0, .int .i64 0, .int .i64 0, .bool false] 62)).drew.cell? ⟨bh, 9, none⟩ = some (.string zs) ∧ (w1.alloc (.cells #[.int .i64 0, .int .i64 0, .int .i64 0, .int .i64 0, .int .i64 0, .int .i64 0, .int .i64 0, .bool false] 62)).drew.cell? ⟨tb, toff + k, none⟩ = some (.int .i64 tm) := unhide RS _ ((Lets.refl _ _ _).alloc _).drew
                        go_region_held3 (fun w' => Hid (Lets w.heap.size [bh, bt, bk] w1 w') ∧ w'.cell? ⟨bh, 0, none⟩ = some (.int .i64 za) ∧ w'.cell? ⟨bh, 1, none⟩ = some (.int .i64 v1) ∧ w'.cell? ⟨bh, 2, none⟩ = some (.int .i64 v2) ∧ w'.cell? ⟨bh, 3, none⟩ = some (.int .i64 v3) ∧ w'.cell? ⟨bh, 4, none⟩ = some (.int .i64 v4) ∧ w'.cell? ⟨bh, 5, none⟩ = some (.int .i64 v5) ∧ w'.cell? ⟨bh, 6, none⟩ = some (.int .i64 v6) ∧ w'.cell? ⟨bh, 7, none⟩ = some (.int .i64 v7) ∧ w'.cell? ⟨bh, 8, none⟩ = some (.int .i64 v8) ∧ w'.cell? ⟨bh, 9, none⟩ = some (.string zs) ∧ w'.cell? ⟨tb, toff + k, none⟩ = some (.int .i64 tm)) (with_reducible assumption)
                          (first | (go_at_call 17; refine (unhide CM _ _ (by first | exact (unhide HD1).drew | exact ((unhide HD1).more (below_alloc (Below.refl _ _) (.cells #[.int .i64 0, .int .i64 0, .int .i64 0, .int .i64 0, .int .i64 0, .int .i64 0, .int .i64 0, .bool false] 62)) (Nat.le_refl w1.heap.size) (by simp)).drew)).mono ?_; rintro e w' ⟨rfl, hd, hk⟩; have hk0 : Lets w.heap.size [bh, bt, bk] _ w' := Lets.less hk (by first | exact fun _ q => q | exact fun _ q => List.mem_cons_of_mem _ q); have hS3 : Hid (Lets w.heap.size [bh, bt, bk] w1 w') ∧ w'.cell? ⟨bh, 0, none⟩ = some (.int .i64 za) ∧ w'.cell? ⟨bh, 1, none⟩ = some (.int .i64 v1) ∧ w'.cell? ⟨bh, 2, none⟩ = some (.int .i64 v2) ∧ w'.cell? ⟨bh, 3, none⟩ = some (.int .i64 v3) ∧ w'.cell? ⟨bh, 4, none⟩ = some (.int .i64 v4) ∧ w'.cell? ⟨bh, 5, none⟩ = some (.int .i64 v5) ∧ w'.cell? ⟨bh, 6, none⟩ = some (.int .i64 v6) ∧ w'.cell? ⟨bh, 7, none⟩ = some (.int .i64 v7) ∧ w'.cell? ⟨bh, 8, none⟩ = some (.int .i64 v8) ∧ w'.cell? ⟨bh, 9, none⟩ = some (.string zs) ∧ w'.cell? ⟨tb, toff + k, none⟩ = some (.int .i64 tm) := unhide RS w' (Lets.trans (unhide (And.left ‹Hid (Lets w.heap.size [bh, bt, bk] w1 _) ∧ _›)) hk0); have hA3 : Hid (Lets w.heap.size [bh, bt, bk] w1 (w'.alloc (.cells #[.int .i64 0, .int .i64 0, .int .i64 0, .int .i64 0, .int .i64 0, .int .i64 0, .int .i64 0, .bool false] 62))) ∧ (w'.alloc (.cells #[.int .i64 0, .int .i64 0, .int .i64 0, .int .i64 0, .int .i64 0, .int .i64 0, .int .i64 0, .bool false] 62)).cell? ⟨bh, 0, none⟩ = some (.int .i64 za) ∧ (w'.alloc (.cells #[.int .i64 0, .int .i64 0, .int .i64 0, .int .i64 0, .int .i64 0, .int .i64 0, .int .i64 0, .bool false] 62)).cell? ⟨bh, 1, none⟩ = some (.int .i64 v1) ∧ (w'.alloc (.cells #[.int .i64 0, .int .i64 0, .int .i64 0, .int .i64 0, .int .i64 0, .int .i64 0, .int .i64 0, .bool false] 62)).cell? ⟨bh, 2, none⟩ = some (.int .i64 v2) ∧ (w'.alloc (.cells #[.int .i64 0, .int .i64 0, .int .i64 0, .int .i64 0, .int .i64 0, .int .i64 0, .int .i64 0, .bool false] 62)).cell? ⟨bh, 3, none⟩ = some (.int .i64 v3) ∧ (w'.alloc (.cells #[.int .i64 0, .int .i64 0, .int .i64 0, .int .i64 0, .int .i64 0, .int .i64 0, .int .i64 0, .bool false] 62)).cell? ⟨bh, 4, none⟩ = some (.int .i64 v4) ∧ (w'.alloc (.cells #[.int .i64 0, .int .i64 0, .int .i64 0, .int .i64 0, .int .i64 0, .int .i64 0, .int .i64 0, .bool false] 62)).cell? ⟨bh, 5, none⟩ = some (.int .i64 v5) ∧ (w'.alloc (.cells #[.int .i64 0, .int .i64 0, .int .i64 0, .int .i64 0, .int .i64 0, .int .i64 0, .int .i64 0, .bool false] 62)).cell? ⟨bh, 6, none⟩ = some (.int .i64 v6) ∧ (w'.alloc (.cells #[.int .i64 0, .int .i64 0, .int .i64 0, .int .i64 0, .int .i64 0, .int .i64 0, .int .i64 0, .bool false] 62)).cell? ⟨bh, 7, none⟩ = some (.int .i64 v7) ∧ (w'.alloc (.cells #[.int .i64 0, .int .i64 0, .int .i64 0, .int .i64 0, .int .i64 0, .int .i64 0, .int .i64 0, .bool false] 62)).cell? ⟨bh, 8, none⟩ = some (.int .i64 v8) ∧ (w'.alloc (.cells #[.int .i64 0, .int .i64 0, .int .i64 0, .int .i64 0, .int .i64 0, .int .i64 0, .int .i64 0, .bool false] 62)).cell? ⟨bh, 9, none⟩ = some (.string zs) ∧ (w'.alloc (.cells #[.int .i64 0, .int .i64 0, .int .i64 0, .int .i64 0, .int .i64 0, .int .i64 0, .int .i64 0, .bool false] 62)).cell? ⟨tb, toff + k, none⟩ = some (.int .i64 tm) := unhide RS _ (Lets.alloc (unhide (And.left hS3)) _); have hA4 : Hid (Lets w.heap.size [bh, bt, bk] w1 (w'.alloc (.cells #[.int .i64 aK, .int .i64 aE, .int .i64 aA, .int .i64 aT, .int .i64 aG, .int .i64 0, .int .i64 aC, .bool aS] 62))) ∧ (w'.alloc (.cells #[.int .i64 aK, .int .i64 aE, .int .i64 aA, .int .i64 aT, .int .i64 aG, .int .i64 0, .int .i64 aC, .bool aS] 62)).cell? ⟨bh, 0, none⟩ = some (.int .i64 za) ∧ (w'.alloc (.cells #[.int .i64 aK, .int .i64 aE, .int .i64 aA, .int .i64 aT, .int .i64 aG, .int .i64 0, .int .i64 aC, .bool aS] 62)).cell? ⟨bh, 1, none⟩ = some (.int .i64 v1) ∧ (w'.alloc (.cells #[.int .i64 aK, .int .i64 aE, .int .i64 aA, .int .i64 aT, .int .i64 aG, .int .i64 0, .int .i64 aC, .bool aS] 62)).cell? ⟨bh, 2, none⟩ = some (.int .i64 v2) ∧ (w'.alloc (.cells #[.int .i64 aK, .int .i64 aE, .int .i64 aA, .int .i64 aT, .int .i64 aG, .int .i64 0, .int .i64 aC, .bool aS] 62)).cell? ⟨bh, 3, none⟩ = some (.int .i64 v3) ∧ (w'.alloc (.cells #[.int .i64 aK, .int .i64 aE, .int .i64 aA, .int .i64 aT, .int .i64 aG, .int .i64 0, .int .i64 aC, .bool aS] 62)).cell? ⟨bh, 4, none⟩ = some (.int .i64 v4) ∧ (w'.alloc (.cells #[.int .i64 aK, .int .i64 aE, .int .i64 aA, .int .i64 aT, .int .i64 aG, .int .i64 0, .int .i64 aC, .bool aS] 62)).cell? ⟨bh, 5, none⟩ = some (.int .i64 v5) ∧ (w'.alloc (.cells #[.int .i64 aK, .int .i64 aE, .int .i64 aA, .int .i64 aT, .int .i64 aG, .int .i64 0, .int .i64 aC, .bool aS] 62)).cell? ⟨bh, 6, none⟩ = some (.int .i64 v6) ∧ (w'.alloc (.cells #[.int .i64 aK, .int .i64 aE, .int .i64 aA, .int .i64 aT, .int .i64 aG, .int .i64 0, .int .i64 aC, .bool aS] 62)).cell? ⟨bh, 7, none⟩ = some (.int .i64 v7) ∧ (w'.alloc (.cells #[.int .i64 aK, .int .i64 aE, .int .i64 aA, .int .i64 aT, .int .i64 aG, .int .i64 0, .int .i64 aC, .bool aS] 62)).cell? ⟨bh, 8, none⟩ = some (.int .i64 v8) ∧ (w'.alloc (.cells #[.int .i64 aK, .int .i64 aE, .int .i64 aA, .int .i64 aT, .int .i64 aG, .int .i64 0, .int .i64 aC, .bool aS] 62)).cell? ⟨bh, 9, none⟩ = some (.string zs) ∧ (w'.alloc (.cells #[.int .i64 aK, .int .i64 aE, .int .i64 aA, .int .i64 aT, .int .i64 aG, .int .i64 0, .int .i64 aC, .bool aS] 62)).cell? ⟨tb, toff + k, none⟩ = some (.int .i64 tm) := unhide RS _ (Lets.alloc (unhide (And.left hS3)) _); have hC : Hid (Lets w.heap.size [bh, bt, bk] w1 ((((((((w'.setCell ⟨w1.heap.size, 0, none⟩ (.int .i64 aK)).setCell ⟨w1.heap.size, 1, none⟩ (.int .i64 aE)).setCell ⟨w1.heap.size, 2, none⟩ (.int .i64 aA)).setCell ⟨w1.heap.size, 3, none⟩ (.int .i64 aT)).setCell ⟨w1.heap.size, 4, none⟩ (.int .i64 aG)).setCell ⟨w1.heap.size, 5, none⟩ (.int .i64 0)).setCell ⟨w1.heap.size, 6, none⟩ (.int .i64 aC)).setCell ⟨w1.heap.size, 7, none⟩ (.bool aS))) ∧ ((((((((w'.setCell ⟨w1.heap.size, 0, none⟩ (.int .i64 aK)).setCell ⟨w1.heap.size, 1, none⟩ (.int .i64 aE)).setCell ⟨w1.heap.size, 2, none⟩ (.int .i64 aA)).setCell ⟨w1.heap.size, 3, none⟩ (.int .i64 aT)).setCell ⟨w1.heap.size, 4, none⟩ (.int .i64 aG)).setCell ⟨w1.heap.size, 5, none⟩ (.int .i64 0)).setCell ⟨w1.heap.size, 6, none⟩ (.int .i64 aC)).setCell ⟨w1.heap.size, 7, none⟩ (.bool aS)).cell? ⟨bh, 0, none⟩ = some (.int .i64 za) ∧ ((((((((w'.setCell ⟨w1.heap.size, 0, none⟩ (.int .i64 aK)).setCell ⟨w1.heap.size, 1, none⟩ (.int .i64 aE)).setCell ⟨w1.heap.size, 2, none⟩ (.int .i64 aA)).setCell ⟨w1.heap.size, 3, none⟩ (.int .i64 aT)).setCell ⟨w1.heap.size, 4, none⟩ (.int .i64 aG)).setCell ⟨w1.heap.size, 5, none⟩ (.int .i64 0)).setCell ⟨w1.heap.size, 6, none⟩ (.int .i64 aC)).setCell ⟨w1.heap.size, 7, none⟩ (.bool aS)).cell? ⟨bh, 1, none⟩ = some (.int .i64 v1) ∧ ((((((((w'.setCell ⟨w1.heap.size, 0, none⟩ (.int .i64 aK)).setCell ⟨w1.heap.size, 1, none⟩ (.int .i64 aE)).setCell ⟨w1.heap.size, 2, none⟩ (.int .i64 aA)).setCell ⟨w1.heap.size, 3, none⟩ (.int .i64 aT)).setCell ⟨w1.heap.size, 4, none⟩ (.int .i64 aG)).setCell ⟨w1.heap.size, 5, none⟩ (.int .i64 0)).setCell ⟨w1.heap.size, 6, none⟩ (.int .i64 aC)).setCell ⟨w1.heap.size, 7, none⟩ (.bool aS)).cell? ⟨bh, 2, none⟩ = some (.int .i64 v2) ∧ ((((((((w'.setCell ⟨w1.heap.size, 0, none⟩ (.int .i64 aK)).setCell ⟨w1.heap.size, 1, none⟩ (.int .i64 aE)).setCell ⟨w1.heap.size, 2, none⟩ (.int .i64 aA)).setCell ⟨w1.heap.size, 3, none⟩ (.int .i64 aT)).setCell ⟨w1.heap.size, 4, none⟩ (.int .i64 aG)).setCell ⟨w1.heap.size, 5, none⟩ (.int .i64 0)).setCell ⟨w1.heap.size, 6, none⟩ (.int .i64 aC)).setCell ⟨w1.heap.size, 7, none⟩ (.bool aS)).cell? ⟨bh, 3, none⟩ = some (.int .i64 v3) ∧ ((((((((w'.setCell ⟨w1.heap.size, 0, none⟩ (.int .i64 aK)).setCell ⟨w1.heap.size, 1, none⟩ (.int .i64 aE)).setCell ⟨w1.heap.size, 2, none⟩ (.int .i64 aA)).setCell ⟨w1.heap.size, 3, none⟩ (.int .i64 aT)).setCell ⟨w1.heap.size, 4, none⟩ (.int .i64 aG)).setCell ⟨w1.heap.size, 5, none⟩ (.int .i64 0)).setCell ⟨w1.heap.size, 6, none⟩ (.int .i64 aC)).setCell ⟨w1.heap.size, 7, none⟩ (.bool aS)).cell? ⟨bh, 4, none⟩ = some (.int .i64 v4) ∧ ((((((((w'.setCell ⟨w1.heap.size, 0, none⟩ (.int .i64 aK)).setCell ⟨w1.heap.size, 1, none⟩ (.int .i64 aE)).setCell ⟨w1.heap.size, 2, none⟩ (.int .i64 aA)).setCell ⟨w1.heap.size, 3, none⟩ (.int .i64 aT)).setCell ⟨w1.heap.size, 4, none⟩ (.int .i64 aG)).setCell ⟨w1.heap.size, 5, none⟩ (.int .i64 0)).setCell ⟨w1.heap.size, 6, none⟩ (.int .i64 aC)).setCell ⟨w1.heap.size, 7, none⟩ (.bool aS)).cell? ⟨bh, 5, none⟩ = some (.int .i64 v5) ∧ ((((((((w'.setCell ⟨w1.heap.size, 0, none⟩ (.int .i64 aK)).setCell ⟨w1.heap.size, 1, none⟩ (.int .i64 aE)).setCell ⟨w1.heap.size, 2, none⟩ (.int .i64 aA)).setCell ⟨w1.heap.size, 3, none⟩ (.int .i64 aT)).setCell ⟨w1.heap.size, 4, none⟩ (.int .i64 aG)).setCell ⟨w1.heap.size, 5, none⟩ (.int .i64 0)).setCell ⟨w1.heap.size, 6, none⟩ (.int .i64 aC)).setCell ⟨w1.heap.size, 7, none⟩ (.bool aS)).cell? ⟨bh, 6, none⟩ = some (.int .i64 v6) ∧ ((((((((w'.setCell ⟨w1.heap.size, 0, none⟩ (.int .i64 aK)).setCell ⟨w1.heap.size, 1, none⟩ (.int .i64 aE)).setCell ⟨w1.heap.size, 2, none⟩ (.int .i64 aA)).setCell ⟨w1.heap.size, 3, none⟩ (.int .i64 aT)).setCell ⟨w1.heap.size, 4, none⟩ (.int .i64 aG)).setCell ⟨w1.heap.size, 5, none⟩ (.int .i64 0)).setCell ⟨w1.heap.size, 6, none⟩ (.int .i64 aC)).setCell ⟨w1.heap.size, 7, none⟩ (.bool aS)).cell? ⟨bh, 7, none⟩ = some (.int .i64 v7) ∧ ((((((((w'.setCell ⟨w1.heap.size, 0, none⟩ (.int .i64 aK)).setCell ⟨w1.heap.size, 1, none⟩ (.int .i64 aE)).setCell ⟨w1.heap.size, 2, none⟩ (.int .i64 aA)).setCell ⟨w1.heap.size, 3, none⟩ (.int .i64 aT)).setCell ⟨w1.heap.size, 4, none⟩ (.int .i64 aG)).setCell ⟨w1.heap.size, 5, none⟩ (.int .i64 0)).setCell ⟨w1.heap.size, 6, none⟩ (.int .i64 aC)).setCell ⟨w1.heap.size, 7, none⟩ (.bool aS)).cell? ⟨bh, 8, none⟩ = some (.int .i64 v8) ∧ ((((((((w'.setCell ⟨w1.heap.size, 0, none⟩ (.int .i64 aK)).setCell ⟨w1.heap.size, 1, none⟩ (.int .i64 aE)).setCell ⟨w1.heap.size, 2, none⟩ (.int .i64 aA)).setCell ⟨w1.heap.size, 3, none⟩ (.int .i64 aT)).setCell ⟨w1.heap.size, 4, none⟩ (.int .i64 aG)).setCell ⟨w1.heap.size, 5, none⟩ (.int .i64 0)).setCell ⟨w1.heap.size, 6, none⟩ (.int .i64 aC)).setCell ⟨w1.heap.size, 7, none⟩ (.bool aS)).cell? ⟨bh, 9, none⟩ = some (.string zs) ∧ ((((((((w'.setCell ⟨w1.heap.size, 0, none⟩ (.int .i64 aK)).setCell ⟨w1.heap.size, 1, none⟩ (.int .i64 aE)).setCell ⟨w1.heap.size, 2, none⟩ (.int .i64 aA)).setCell ⟨w1.heap.size, 3, none⟩ (.int .i64 aT)).setCell ⟨w1.heap.size, 4, none⟩ (.int .i64 aG)).setCell ⟨w1.heap.size, 5, none⟩ (.int .i64 0)).setCell ⟨w1.heap.size, 6, none⟩ (.int .i64 aC)).setCell ⟨w1.heap.size, 7, none⟩ (.bool aS)).cell? ⟨tb, toff + k, none⟩ = some (.int .i64 tm) := unhide RS _ (Lets.setCell (p := ⟨w1.heap.size, 7, none⟩) (Lets.setCell (p := ⟨w1.heap.size, 6, none⟩) (Lets.setCell (p := ⟨w1.heap.size, 5, none⟩) (Lets.setCell (p := ⟨w1.heap.size, 4, none⟩) (Lets.setCell (p := ⟨w1.heap.size, 3, none⟩) (Lets.setCell (p := ⟨w1.heap.size, 2, none⟩) (Lets.setCell (p := ⟨w1.heap.size, 1, none⟩) (Lets.setCell (p := ⟨w1.heap.size, 0, none⟩) (unhide (And.left hS3)) (Nat.le_refl _) (.int .i64 aK)) (Nat.le_refl _) (.int .i64 aE)) (Nat.le_refl _) (.int .i64 aA)) (Nat.le_refl _) (.int .i64 aT)) (Nat.le_refl _) (.int .i64 aG)) (Nat.le_refl _) (.int .i64 0)) (Nat.le_refl _) (.int .i64 aC)) (Nat.le_refl _) (.bool aS)); try (have hfh := Lets.fresh8 hk; have hfa := hfh.c8; have hfl := hfh.2; obtain ⟨⟨hx0, hx1, hx2, hx3, hx4, hx5, hx6, hx7⟩, ⟨hxf0, hxf1, hxf2, hxf3, hxf4, hxf5, hxf6, hxf7⟩⟩ := hfa)))
                        · as_aux_lemma =>
                            have HX2 : Hid (Held (w'.alloc (.cells #[.int .i64 aK, .int .i64 aE, .int .i64 aA, .int .i64 aT, .int .i64 aG, .int .i64 0, .int .i64 aC, .bool aS] 62)) w'.heap.size (na aK aE aA aT aG aC aS)) := hide (Held.fresh (w := w') (na aK aE aA aT aG aC aS) 62 rfl)
                            have HD2 := hide (hd.more (below_alloc (Below.refl _ _) (.cells #[.int .i64 aK, .int .i64 aE, .int .i64 aA, .int .i64 aT, .int .i64 aG, .int .i64 0, .int .i64 aC, .bool aS] 62)) (Nat.le_refl w'.heap.size) (by simp))
                            have HT2 := hide ((unhide (And.left hA4)).held (by simp) (unhide HT1))
                            have HK2 := hide ((unhide (And.left hA4)).held (by simp) (unhide HK1))
                            have HH2 := hide ((unhide (And.left hA4)).held (by simp) (unhide HH1))
                            have HB2 : Hid (Below w.heap.size w _) := hide ((unhide (And.left hA4)).below (unhide HB1) (unhide HB1).size)
                            try go_wp2_with fail
                            go_meet
                            exact ⟨_, rfl, rfl, HX2, HD2, HT2, HK2, HH2, HB2⟩
                        · as_aux_lemma =>
                            have HX2 : Hid (Held ((((((((w'.setCell ⟨w1.heap.size, 0, none⟩ (.int .i64 aK)).setCell ⟨w1.heap.size, 1, none⟩ (.int .i64 aE)).setCell ⟨w1.heap.size, 2, none⟩ (.int .i64 aA)).setCell ⟨w1.heap.size, 3, none⟩ (.int .i64 aT)).setCell ⟨w1.heap.size, 4, none⟩ (.int .i64 aG)).setCell ⟨w1.heap.size, 5, none⟩ (.int .i64 0)).setCell ⟨w1.heap.size, 6, none⟩ (.int .i64 aC)).setCell ⟨w1.heap.size, 7, none⟩ (.bool aS)) w1.heap.size (na aK aE aA aT aG aC aS)) := hide ((((((((hfh.put 0 (.int .i64 aK)).put 1 (.int .i64 aE)).put 2 (.int .i64 aA)).put 3 (.int .i64 aT)).put 4 (.int .i64 aG)).put 5 (.int .i64 0)).put 6 (.int .i64 aC)).put 7 (.bool aS))
                            have HD2 := hide (hd.kept (w' := ((((((((w'.setCell ⟨w1.heap.size, 0, none⟩ (.int .i64 aK)).setCell ⟨w1.heap.size, 1, none⟩ (.int .i64 aE)).setCell ⟨w1.heap.size, 2, none⟩ (.int .i64 aA)).setCell ⟨w1.heap.size, 3, none⟩ (.int .i64 aT)).setCell ⟨w1.heap.size, 4, none⟩ (.int .i64 aG)).setCell ⟨w1.heap.size, 5, none⟩ (.int .i64 0)).setCell ⟨w1.heap.size, 6, none⟩ (.int .i64 aC)).setCell ⟨w1.heap.size, 7, none⟩ (.bool aS))) (Kept.setCell (p := ⟨w1.heap.size, 7, none⟩) (Kept.setCell (p := ⟨w1.heap.size, 6, none⟩) (Kept.setCell (p := ⟨w1.heap.size, 5, none⟩) (Kept.setCell (p := ⟨w1.heap.size, 4, none⟩) (Kept.setCell (p := ⟨w1.heap.size, 3, none⟩) (Kept.setCell (p := ⟨w1.heap.size, 2, none⟩) (Kept.setCell (p := ⟨w1.heap.size, 1, none⟩) (Kept.setCell (p := ⟨w1.heap.size, 0, none⟩) (Kept.refl [w1.heap.size] w') (.inl (List.mem_singleton.2 rfl)) (.int .i64 aK)) (.inl (List.mem_singleton.2 rfl)) (.int .i64 aE)) (.inl (List.mem_singleton.2 rfl)) (.int .i64 aA)) (.inl (List.mem_singleton.2 rfl)) (.int .i64 aT)) (.inl (List.mem_singleton.2 rfl)) (.int .i64 aG)) (.inl (List.mem_singleton.2 rfl)) (.int .i64 0)) (.inl (List.mem_singleton.2 rfl)) (.int .i64 aC)) (.inl (List.mem_singleton.2 rfl)) (.bool aS)) (fun q hq => .inl (by rw [List.mem_singleton.1 hq]; simp)))
                            have HT2 := hide ((unhide (And.left hC)).held (by simp) (unhide HT1))
                            have HK2 := hide ((unhide (And.left hC)).held (by simp) (unhide HK1))
                            have HH2 := hide ((unhide (And.left hC)).held (by simp) (unhide HH1))
                            have HB2 : Hid (Below w.heap.size w _) := hide ((unhide (And.left hC)).below (unhide HB1) (unhide HB1).size)
                            try go_wp2_with fail
                            go_meet
                            exact ⟨_, rfl, rfl, HX2, HD2, HT2, HK2, HH2, HB2⟩
                      case rest =>
                        obtain ⟨bx, rfl, rfl, HX2, HD2, HT2, HK2, HH2, HB2⟩ := hcut
                        clear HT1 HK1 HH1 HD1 HB1
                        go_upto_region 22 with fail
                        go_cut [34, 35] from 63 to 242 (fun a b wx => ∃ bn : Nat, a = .pointer (some ⟨bn, 0, none⟩) ∧ b = errV E ∧ Hid (Held wx bn (na aK aE aA aT aG aC aS)) ∧ Hid (Duo w.heap.size wx s m (bn :: [bx, bh, bt, bk]) y y) ∧ Hid (Held wx bt (n4 p0 p1 p2 p3)) ∧ Hid (Held wx bk (n4 q0 q1 q2 q3)) ∧ Hid (Held wx bh (nh za v1 v2 v3 v4 v5 v6 v7 v8 zs)) ∧ Hid (Held wx bx (na aK aE aA aT aG aC aS)) ∧ Hid (Below w.heap.size w wx))
                        case first =>
                          have HT0' := (unhide HTM).2
                          obtain ⟨⟨h0, h1, h2, h3, h4, h5, h6, h7, h8, h9⟩, -⟩ := (unhide HH2).c10
                          have tmc := cell_later (unhide HB2) (unhide HTM).1
                          have hhl := (unhide HH2).2
                          have RS : Hid (∀ V : World, Lets w.heap.size [bx, bh, bt, bk] wc V → Hid (Lets w.heap.size [bx, bh, bt, bk] wc V) ∧ V.cell? ⟨bh, 0, none⟩ = some (.int .i64 za) ∧ V.cell? ⟨bh, 1, none⟩ = some (.int .i64 v1) ∧ V.cell? ⟨bh, 2, none⟩ = some (.int .i64 v2) ∧ V.cell? ⟨bh, 3, none⟩ = some (.int .i64 v3) ∧ V.cell? ⟨bh, 4, none⟩ = some (.int .i64 v4) ∧ V.cell? ⟨bh, 5, none⟩ = some (.int .i64 v5) ∧ V.cell? ⟨bh, 6, none⟩ = some (.int .i64 v6) ∧ V.cell? ⟨bh, 7, none⟩ = some (.int .i64 v7) ∧ V.cell? ⟨bh, 8, none⟩ = some (.int .i64 v8) ∧ V.cell? ⟨bh, 9, none⟩ = some (.string zs) ∧ V.cell? ⟨tb, toff + k, none⟩ = some (.int .i64 tm)) := hide (fun V hk => by
                            obtain ⟨⟨g0, g1, g2, g3, g4, g5, g6, g7, g8, g9⟩, -⟩ := (hk.held (by simp) (unhide HH2)).c10
                            exact ⟨hide hk, g0, g1, g2, g3, g4, g5, g6, g7, g8, g9, hk.cell (unhide HTM).2 (cell_later (unhide HB2) (unhide HTM).1)⟩)
                          have hR0 : Hid (Lets w.heap.size [bx, bh, bt, bk] wc wc.drew) ∧ wc.drew.cell? ⟨bh, 0, none⟩ = some (.int .i64 za) ∧ wc.drew.cell? ⟨bh, 1, none⟩ = some (.int .i64 v1) ∧ wc.drew.cell? ⟨bh, 2, none⟩ = some (.int .i64 v2) ∧ wc.drew.cell? ⟨bh, 3, none⟩ = some (.int .i64 v3) ∧ wc.drew.cell? ⟨bh, 4, none⟩ = some (.int .i64 v4) ∧ wc.drew.cell? ⟨bh, 5, none⟩ = some (.int .i64 v5) ∧ wc.drew.cell? ⟨bh, 6, none⟩ = some (.int .i64 v6) ∧ wc.drew.cell? ⟨bh, 7, none⟩ = some (.int .i64 v7) ∧ wc.drew.cell? ⟨bh, 8, none⟩ = some (.int .i64 v8) ∧ wc.drew.cell? ⟨bh, 9, none⟩ = some (.string zs) ∧ wc.drew.cell? ⟨tb, toff + k, none⟩ = some (.int .i64 tm) := unhide RS _ (Lets.refl _ _ _).drew
                          have hR1 : Hid (Lets w.heap.size [bx, bh, bt, bk] wc (wc.alloc (.cells #[.int .i64 0, .int .i64 0, .int .i64 0, .int .i64 0, .int .i64 0, .int .i64 0, .int .i64 0, .bool false] 62)).drew) ∧ (wc.alloc (.cells #[.int .i64 0, .int .i64 0, .int .i64 0, .int .i64 0, .int .i64 0, .int .i64 0, .int .i64 0, .bool false] 62)).drew.cell? ⟨bh, 0, none⟩ = some (.int .i64 za) ∧ (wc.alloc (.cells #[.int .i64 0, .int .i64 0, .int .i64 0, .int .i64 0, .int .i64 0, .int .i64 0, .int .i64 0, .bool false] 62)).drew.cell? ⟨bh, 1, none⟩ = some (.int .i64 v1) ∧ (wc.alloc (.cells #[.int .i64 0, .int .i64 0, .int .i64 0, .int .i64 0, .int .i64 0, .int .i64 0, .int .i64 0, .bool false] 62)).drew.cell? ⟨bh, 2, none⟩ = some (.int .i64 v2) ∧ (wc.alloc (.cells #[.int .i64 0, .int .i64 0, .int .i64 0, .int .i64 0, .int .i64 0, .int .i64 0, .int .i64 0, .bool false] 62)).drew.cell? ⟨bh, 3, none⟩ = some (.int .i64 v3) ∧ (wc.alloc (.cells #[.int .i64 0, .int .i64 0, .int .i64 0, .int .i64 0, .int .i64 0, .int .i64 0, .int .i64 0, .bool false] 62)).drew.cell? ⟨bh, 4, none⟩ = some (.int .i64 v4) ∧ (wc.alloc (.cells #[.int .i64 0, .int .i64 0, .int .i64 0, .int .i64 0, .int .i64 0, .int .i64 0, .int .i64 0, .bool false] 62)).drew.cell? ⟨bh, 5, none⟩ = some (.int .i64 v5) ∧ (wc.alloc (.cells #[.int .i64 0, .int .i64 0, .int .i64 0, .int .i64 0, .int .i64 0, .int .i64 0, .int .i64 0, .bool false] 62)).drew.cell? ⟨bh, 6, none⟩ = some (.int .i64 v6) ∧ (wc.alloc (.cells #[.int .i64 0, .int .i64 0, .int .i64 0, .int .i64 0, .int .i64 0, .int .i64 0, .int .i64 0, .bool false] 62)).drew.cell? ⟨bh, 7, none⟩ = some (.int .i64 v7) ∧ (wc.alloc (.cells #[.int .i64 0, .int .i64 0, .int .i64 0, .int .i64 0, .int .i64 0, .int .i64 0, .int .i64 0, .bool false] 62)).drew.cell? ⟨bh, 8, none⟩ = some (.int .i64 v8) ∧ (wc.alloc (.cells #[.int .i64 0, .int .i64 0, .int .i64 0, .int .i64 0, .int .i64 0, .int .i64 0, .int .i64 0, .bool false] 62)).drew.cell? ⟨bh, 9, none⟩ = some (.string zs) ∧ (wc.alloc (.cells #[.int .i64 0, .int .i64 0, .int .i64 0, .int .i64 0, .int .i64 0, .int .i64 0, .int .i64 0, .bool false] 62)).drew.cell? ⟨tb, toff + k, none⟩ = some (.int .i64 tm) := unhide RS _ ((Lets.refl _ _ _).alloc _).drew
                          go_region_held3 (fun w' => Hid (Lets w.heap.size [bx, bh, bt, bk] wc w') ∧ w'.cell? ⟨bh, 0, none⟩ = some (.int .i64 za) ∧ w'.cell? ⟨bh, 1, none⟩ = some (.int .i64 v1) ∧ w'.cell? ⟨bh, 2, none⟩ = some (.int .i64 v2) ∧ w'.cell? ⟨bh, 3, none⟩ = some (.int .i64 v3) ∧ w'.cell? ⟨bh, 4, none⟩ = some (.int .i64 v4) ∧ w'.cell? ⟨bh, 5, none⟩ = some (.int .i64 v5) ∧ w'.cell? ⟨bh, 6, none⟩ = some (.int .i64 v6) ∧ w'.cell? ⟨bh, 7, none⟩ = some (.int .i64 v7) ∧ w'.cell? ⟨bh, 8, none⟩ = some (.int .i64 v8) ∧ w'.cell? ⟨bh, 9, none⟩ = some (.string zs) ∧ w'.cell? ⟨tb, toff + k, none⟩ = some (.int .i64 tm)) (with_reducible assumption)
                            (first | (go_at_call 18; refine (unhide CS _ _ (by first | exact (unhide HD2).drew | exact ((unhide HD2).more (below_alloc (Below.refl _ _) (.cells #[.int .i64 0, .int .i64 0, .int .i64 0, .int .i64 0, .int .i64 0, .int .i64 0, .int .i64 0, .bool false] 62)) (Nat.le_refl wc.heap.size) (by simp)).drew)).mono ?_; rintro e w' ⟨rfl, hd, hk⟩; have hk0 : Lets w.heap.size [bx, bh, bt, bk] _ w' := Lets.less hk (by first | exact fun _ q => q | exact fun _ q => List.mem_cons_of_mem _ q); have hS3 : Hid (Lets w.heap.size [bx, bh, bt, bk] wc w') ∧ w'.cell? ⟨bh, 0, none⟩ = some (.int .i64 za) ∧ w'.cell? ⟨bh, 1, none⟩ = some (.int .i64 v1) ∧ w'.cell? ⟨bh, 2, none⟩ = some (.int .i64 v2) ∧ w'.cell? ⟨bh, 3, none⟩ = some (.int .i64 v3) ∧ w'.cell? ⟨bh, 4, none⟩ = some (.int .i64 v4) ∧ w'.cell? ⟨bh, 5, none⟩ = some (.int .i64 v5) ∧ w'.cell? ⟨bh, 6, none⟩ = some (.int .i64 v6) ∧ w'.cell? ⟨bh, 7, none⟩ = some (.int .i64 v7) ∧ w'.cell? ⟨bh, 8, none⟩ = some (.int .i64 v8) ∧ w'.cell? ⟨bh, 9, none⟩ = some (.string zs) ∧ w'.cell? ⟨tb, toff + k, none⟩ = some (.int .i64 tm) := unhide RS w' (Lets.trans (unhide (And.left ‹Hid (Lets w.heap.size [bx, bh, bt, bk] wc _) ∧ _›)) hk0); have hA3 : Hid (Lets w.heap.size [bx, bh, bt, bk] wc (w'.alloc (.cells #[.int .i64 0, .int .i64 0, .int .i64 0, .int .i64 0, .int .i64 0, .int .i64 0, .int .i64 0, .bool false] 62))) ∧ (w'.alloc (.cells #[.int .i64 0, .int .i64 0, .int .i64 0, .int .i64 0, .int .i64 0, .int .i64 0, .int .i64 0, .bool false] 62)).cell? ⟨bh, 0, none⟩ = some (.int .i64 za) ∧ (w'.alloc (.cells #[.int .i64 0, .int .i64 0, .int .i64 0, .int .i64 0, .int .i64 0, .int .i64 0, .int .i64 0, .bool false] 62)).cell? ⟨bh, 1, none⟩ = some (.int .i64 v1) ∧ (w'.alloc (.cells #[.int .i64 0, .int .i64 0, .int .i64 0, .int .i64 0, .int .i64 0, .int .i64 0, .int .i64 0, .bool false] 62)).cell? ⟨bh, 2, none⟩ = some (.int .i64 v2) ∧ (w'.alloc (.cells #[.int .i64 0, .int .i64 0, .int .i64 0, .int .i64 0, .int .i64 0, .int .i64 0, .int .i64 0, .bool false] 62)).cell? ⟨bh, 3, none⟩ = some (.int .i64 v3) ∧ (w'.alloc (.cells #[.int .i64 0, .int .i64 0, .int .i64 0, .int .i64 0, .int .i64 0, .int .i64 0, .int .i64 0, .bool false] 62)).cell? ⟨bh, 4, none⟩ = some (.int .i64 v4) ∧ (w'.alloc (.cells #[.int .i64 0, .int .i64 0, .int .i64 0, .int .i64 0, .int .i64 0, .int .i64 0, .int .i64 0, .bool false] 62)).cell? ⟨bh, 5, none⟩ = some (.int .i64 v5) ∧ (w'.alloc (.cells #[.int .i64 0, .int .i64 0, .int .i64 0, .int .i64 0, .int .i64 0, .int .i64 0, .int .i64 0, .bool false] 62)).cell? ⟨bh, 6, none⟩ = some (.int .i64 v6) ∧ (w'.alloc (.cells #[.int .i64 0, .int .i64 0, .int .i64 0, .int .i64 0, .int .i64 0, .int .i64 0, .int .i64 0, .bool false] 62)).cell? ⟨bh, 7, none⟩ = some (.int .i64 v7) ∧ (w'.alloc (.cells #[.int .i64 0, .int .i64 0, .int .i64 0, .int .i64 0, .int .i64 0, .int .i64 0, .int .i64 0, .bool false] 62)).cell? ⟨bh, 8, none⟩ = some (.int .i64 v8) ∧ (w'.alloc (.cells #[.int .i64 0, .int .i64 0, .int .i64 0, .int .i64 0, .int .i64 0, .int .i64 0, .int .i64 0, .bool false] 62)).cell? ⟨bh, 9, none⟩ = some (.string zs) ∧ (w'.alloc (.cells #[.int .i64 0, .int .i64 0, .int .i64 0, .int .i64 0, .int .i64 0, .int .i64 0, .int .i64 0, .bool false] 62)).cell? ⟨tb, toff + k, none⟩ = some (.int .i64 tm) := unhide RS _ (Lets.alloc (unhide (And.left hS3)) _); have hA4 : Hid (Lets w.heap.size [bx, bh, bt, bk] wc (w'.alloc (.cells #[.int .i64 aK, .int .i64 aE, .int .i64 aA, .int .i64 aT, .int .i64 aG, .int .i64 0, .int .i64 aC, .bool aS] 62))) ∧ (w'.alloc (.cells #[.int .i64 aK, .int .i64 aE, .int .i64 aA, .int .i64 aT, .int .i64 aG, .int .i64 0, .int .i64 aC, .bool aS] 62)).cell? ⟨bh, 0, none⟩ = some (.int .i64 za) ∧ (w'.alloc (.cells #[.int .i64 aK, .int .i64 aE, .int .i64 aA, .int .i64 aT, .int .i64 aG, .int .i64 0, .int .i64 aC, .bool aS] 62)).cell? ⟨bh, 1, none⟩ = some (.int .i64 v1) ∧ (w'.alloc (.cells #[.int .i64 aK, .int .i64 aE, .int .i64 aA, .int .i64 aT, .int .i64 aG, .int .i64 0, .int .i64 aC, .bool aS] 62)).cell? ⟨bh, 2, none⟩ = some (.int .i64 v2) ∧ (w'.alloc (.cells #[.int .i64 aK, .int .i64 aE, .int .i64 aA, .int .i64 aT, .int .i64 aG, .int .i64 0, .int .i64 aC, .bool aS] 62)).cell? ⟨bh, 3, none⟩ = some (.int .i64 v3) ∧ (w'.alloc (.cells #[.int .i64 aK, .int .i64 aE, .int .i64 aA, .int .i64 aT, .int .i64 aG, .int .i64 0, .int .i64 aC, .bool aS] 62)).cell? ⟨bh, 4, none⟩ = some (.int .i64 v4) ∧ (w'.alloc (.cells #[.int .i64 aK, .int .i64 aE, .int .i64 aA, .int .i64 aT, .int .i64 aG, .int .i64 0, .int .i64 aC, .bool aS] 62)).cell? ⟨bh, 5, none⟩ = some (.int .i64 v5) ∧ (w'.alloc (.cells #[.int .i64 aK, .int .i64 aE, .int .i64 aA, .int .i64 aT, .int .i64 aG, .int .i64 0, .int .i64 aC, .bool aS] 62)).cell? ⟨bh, 6, none⟩ = some (.int .i64 v6) ∧ (w'.alloc (.cells #[.int .i64 aK, .int .i64 aE, .int .i64 aA, .int .i64 aT, .int .i64 aG, .int .i64 0, .int .i64 aC, .bool aS] 62)).cell? ⟨bh, 7, none⟩ = some (.int .i64 v7) ∧ (w'.alloc (.cells #[.int .i64 aK, .int .i64 aE, .int .i64 aA, .int .i64 aT, .int .i64 aG, .int .i64 0, .int .i64 aC, .bool aS] 62)).cell? ⟨bh, 8, none⟩ = some (.int .i64 v8) ∧ (w'.alloc (.cells #[.int .i64 aK, .int .i64 aE, .int .i64 aA, .int .i64 aT, .int .i64 aG, .int .i64 0, .int .i64 aC, .bool aS] 62)).cell? ⟨bh, 9, none⟩ = some (.string zs) ∧ (w'.alloc (.cells #[.int .i64 aK, .int .i64 aE, .int .i64 aA, .int .i64 aT, .int .i64 aG, .int .i64 0, .int .i64 aC, .bool aS] 62)).cell? ⟨tb, toff + k, none⟩ = some (.int .i64 tm) := unhide RS _ (Lets.alloc (unhide (And.left hS3)) _); have hC : Hid (Lets w.heap.size [bx, bh, bt, bk] wc ((((((((w'.setCell ⟨wc.heap.size, 0, none⟩ (.int .i64 aK)).setCell ⟨wc.heap.size, 1, none⟩ (.int .i64 aE)).setCell ⟨wc.heap.size, 2, none⟩ (.int .i64 aA)).setCell ⟨wc.heap.size, 3, none⟩ (.int .i64 aT)).setCell ⟨wc.heap.size, 4, none⟩ (.int .i64 aG)).setCell ⟨wc.heap.size, 5, none⟩ (.int .i64 0)).setCell ⟨wc.heap.size, 6, none⟩ (.int .i64 aC)).setCell ⟨wc.heap.size, 7, none⟩ (.bool aS))) ∧ ((((((((w'.setCell ⟨wc.heap.size, 0, none⟩ (.int .i64 aK)).setCell ⟨wc.heap.size, 1, none⟩ (.int .i64 aE)).setCell ⟨wc.heap.size, 2, none⟩ (.int .i64 aA)).setCell ⟨wc.heap.size, 3, none⟩ (.int .i64 aT)).setCell ⟨wc.heap.size, 4, none⟩ (.int .i64 aG)).setCell ⟨wc.heap.size, 5, none⟩ (.int .i64 0)).setCell ⟨wc.heap.size, 6, none⟩ (.int .i64 aC)).setCell ⟨wc.heap.size, 7, none⟩ (.bool aS)).cell? ⟨bh, 0, none⟩ = some (.int .i64 za) ∧ ((((((((w'.setCell ⟨wc.heap.size, 0, none⟩ (.int .i64 aK)).setCell ⟨wc.heap.size, 1, none⟩ (.int .i64 aE)).setCell ⟨wc.heap.size, 2, none⟩ (.int .i64 aA)).setCell ⟨wc.heap.size, 3, none⟩ (.int .i64 aT)).setCell ⟨wc.heap.size, 4, none⟩ (.int .i64 aG)).setCell ⟨wc.heap.size, 5, none⟩ (.int .i64 0)).setCell ⟨wc.heap.size, 6, none⟩ (.int .i64 aC)).setCell ⟨wc.heap.size, 7, none⟩ (.bool aS)).cell? ⟨bh, 1, none⟩ = some (.int .i64 v1) ∧ ((((((((w'.setCell ⟨wc.heap.size, 0, none⟩ (.int .i64 aK)).setCell ⟨wc.heap.size, 1, none⟩ (.int .i64 aE)).setCell ⟨wc.heap.size, 2, none⟩ (.int .i64 aA)).setCell ⟨wc.heap.size, 3, none⟩ (.int .i64 aT)).setCell ⟨wc.heap.size, 4, none⟩ (.int .i64 aG)).setCell ⟨wc.heap.size, 5, none⟩ (.int .i64 0)).setCell ⟨wc.heap.size, 6, none⟩ (.int .i64 aC)).setCell ⟨wc.heap.size, 7, none⟩ (.bool aS)).cell? ⟨bh, 2, none⟩ = some (.int .i64 v2) ∧ ((((((((w'.setCell ⟨wc.heap.size, 0, none⟩ (.int .i64 aK)).setCell ⟨wc.heap.size, 1, none⟩ (.int .i64 aE)).setCell ⟨wc.heap.size, 2, none⟩ (.int .i64 aA)).setCell ⟨wc.heap.size, 3, none⟩ (.int .i64 aT)).setCell ⟨wc.heap.size, 4, none⟩ (.int .i64 aG)).setCell ⟨wc.heap.size, 5, none⟩ (.int .i64 0)).setCell ⟨wc.heap.size, 6, none⟩ (.int .i64 aC)).setCell ⟨wc.heap.size, 7, none⟩ (.bool aS)).cell? ⟨bh, 3, none⟩ = some (.int .i64 v3) ∧ ((((((((w'.setCell ⟨wc.heap.size, 0, none⟩ (.int .i64 aK)).setCell ⟨wc.heap.size, 1, none⟩ (.int .i64 aE)).setCell ⟨wc.heap.size, 2, none⟩ (.int .i64 aA)).setCell ⟨wc.heap.size, 3, none⟩ (.int .i64 aT)).setCell ⟨wc.heap.size, 4, none⟩ (.int .i64 aG)).setCell ⟨wc.heap.size, 5, none⟩ (.int .i64 0)).setCell ⟨wc.heap.size, 6, none⟩ (.int .i64 aC)).setCell ⟨wc.heap.size, 7, none⟩ (.bool aS)).cell? ⟨bh, 4, none⟩ = some (.int .i64 v4) ∧ ((((((((w'.setCell ⟨wc.heap.size, 0, none⟩ (.int .i64 aK)).setCell ⟨wc.heap.size, 1, none⟩ (.int .i64 aE)).setCell ⟨wc.heap.size, 2, none⟩ (.int .i64 aA)).setCell ⟨wc.heap.size, 3, none⟩ (.int .i64 aT)).setCell ⟨wc.heap.size, 4, none⟩ (.int .i64 aG)).setCell ⟨wc.heap.size, 5, none⟩ (.int .i64 0)).setCell ⟨wc.heap.size, 6, none⟩ (.int .i64 aC)).setCell ⟨wc.heap.size, 7, none⟩ (.bool aS)).cell? ⟨bh, 5, none⟩ = some (.int .i64 v5) ∧ ((((((((w'.setCell ⟨wc.heap.size, 0, none⟩ (.int .i64 aK)).setCell ⟨wc.heap.size, 1, none⟩ (.int .i64 aE)).setCell ⟨wc.heap.size, 2, none⟩ (.int .i64 aA)).setCell ⟨wc.heap.size, 3, none⟩ (.int .i64 aT)).setCell ⟨wc.heap.size, 4, none⟩ (.int .i64 aG)).setCell ⟨wc.heap.size, 5, none⟩ (.int .i64 0)).setCell ⟨wc.heap.size, 6, none⟩ (.int .i64 aC)).setCell ⟨wc.heap.size, 7, none⟩ (.bool aS)).cell? ⟨bh, 6, none⟩ = some (.int .i64 v6) ∧ ((((((((w'.setCell ⟨wc.heap.size, 0, none⟩ (.int .i64 aK)).setCell ⟨wc.heap.size, 1, none⟩ (.int .i64 aE)).setCell ⟨wc.heap.size, 2, none⟩ (.int .i64 aA)).setCell ⟨wc.heap.size, 3, none⟩ (.int .i64 aT)).setCell ⟨wc.heap.size, 4, none⟩ (.int .i64 aG)).setCell ⟨wc.heap.size, 5, none⟩ (.int .i64 0)).setCell ⟨wc.heap.size, 6, none⟩ (.int .i64 aC)).setCell ⟨wc.heap.size, 7, none⟩ (.bool aS)).cell? ⟨bh, 7, none⟩ = some (.int .i64 v7) ∧ ((((((((w'.setCell ⟨wc.heap.size, 0, none⟩ (.int .i64 aK)).setCell ⟨wc.heap.size, 1, none⟩ (.int .i64 aE)).setCell ⟨wc.heap.size, 2, none⟩ (.int .i64 aA)).setCell ⟨wc.heap.size, 3, none⟩ (.int .i64 aT)).setCell ⟨wc.heap.size, 4, none⟩ (.int .i64 aG)).setCell ⟨wc.heap.size, 5, none⟩ (.int .i64 0)).setCell ⟨wc.heap.size, 6, none⟩ (.int .i64 aC)).setCell ⟨wc.heap.size, 7, none⟩ (.bool aS)).cell? ⟨bh, 8, none⟩ = some (.int .i64 v8) ∧ ((((((((w'.setCell ⟨wc.heap.size, 0, none⟩ (.int .i64 aK)).setCell ⟨wc.heap.size, 1, none⟩ (.int .i64 aE)).setCell ⟨wc.heap.size, 2, none⟩ (.int .i64 aA)).setCell ⟨wc.heap.size, 3, none⟩ (.int .i64 aT)).setCell ⟨wc.heap.size, 4, none⟩ (.int .i64 aG)).setCell ⟨wc.heap.size, 5, none⟩ (.int .i64 0)).setCell ⟨wc.heap.size, 6, none⟩ (.int .i64 aC)).setCell ⟨wc.heap.size, 7, none⟩ (.bool aS)).cell? ⟨bh, 9, none⟩ = some (.string zs) ∧ ((((((((w'.setCell ⟨wc.heap.size, 0, none⟩ (.int .i64 aK)).setCell ⟨wc.heap.size, 1, none⟩ (.int .i64 aE)).setCell ⟨wc.heap.size, 2, none⟩ (.int .i64 aA)).setCell ⟨wc.heap.size, 3, none⟩ (.int .i64 aT)).setCell ⟨wc.heap.size, 4, none⟩ (.int .i64 aG)).setCell ⟨wc.heap.size, 5, none⟩ (.int .i64 0)).setCell ⟨wc.heap.size, 6, none⟩ (.int .i64 aC)).setCell ⟨wc.heap.size, 7, none⟩ (.bool aS)).cell? ⟨tb, toff + k, none⟩ = some (.int .i64 tm) := unhide RS _ (Lets.setCell (p := ⟨wc.heap.size, 7, none⟩) (Lets.setCell (p := ⟨wc.heap.size, 6, none⟩) (Lets.setCell (p := ⟨wc.heap.size, 5, none⟩) (Lets.setCell (p := ⟨wc.heap.size, 4, none⟩) (Lets.setCell (p := ⟨wc.heap.size, 3, none⟩) (Lets.setCell (p := ⟨wc.heap.size, 2, none⟩) (Lets.setCell (p := ⟨wc.heap.size, 1, none⟩) (Lets.setCell (p := ⟨wc.heap.size, 0, none⟩) (unhide (And.left hS3)) (Nat.le_refl _) (.int .i64 aK)) (Nat.le_refl _) (.int .i64 aE)) (Nat.le_refl _) (.int .i64 aA)) (Nat.le_refl _) (.int .i64 aT)) (Nat.le_refl _) (.int .i64 aG)) (Nat.le_refl _) (.int .i64 0)) (Nat.le_refl _) (.int .i64 aC)) (Nat.le_refl _) (.bool aS)); try (have hfh := Lets.fresh8 hk; have hfa := hfh.c8; have hfl := hfh.2; obtain ⟨⟨hx0, hx1, hx2, hx3, hx4, hx5, hx6, hx7⟩, ⟨hxf0, hxf1, hxf2, hxf3, hxf4, hxf5, hxf6, hxf7⟩⟩ := hfa)))
                          · as_aux_lemma =>
                              have HY3 : Hid (Held (w'.alloc (.cells #[.int .i64 aK, .int .i64 aE, .int .i64 aA, .int .i64 aT, .int .i64 aG, .int .i64 0, .int .i64 aC, .bool aS] 62)) w'.heap.size (na aK aE aA aT aG aC aS)) := hide (Held.fresh (w := w') (na aK aE aA aT aG aC aS) 62 rfl)
                              have HD3 := hide (hd.more (below_alloc (Below.refl _ _) (.cells #[.int .i64 aK, .int .i64 aE, .int .i64 aA, .int .i64 aT, .int .i64 aG, .int .i64 0, .int .i64 aC, .bool aS] 62)) (Nat.le_refl w'.heap.size) (by simp))
                              have HT3 := hide ((unhide (And.left hA4)).held (by simp) (unhide HT2))
                              have HK3 := hide ((unhide (And.left hA4)).held (by simp) (unhide HK2))
                              have HH3 := hide ((unhide (And.left hA4)).held (by simp) (unhide HH2))
                              have HX3 := hide ((unhide (And.left hA4)).held (by simp) (unhide HX2))
                              have HB3 : Hid (Below w.heap.size w _) := hide ((unhide (And.left hA4)).below (unhide HB2) (unhide HB2).size)
                              try go_wp2_with fail
                              go_meet
                              exact ⟨_, rfl, rfl, HY3, HD3, HT3, HK3, HH3, HX3, HB3⟩
                          · as_aux_lemma =>
                              have HY3 : Hid (Held ((((((((w'.setCell ⟨wc.heap.size, 0, none⟩ (.int .i64 aK)).setCell ⟨wc.heap.size, 1, none⟩ (.int .i64 aE)).setCell ⟨wc.heap.size, 2, none⟩ (.int .i64 aA)).setCell ⟨wc.heap.size, 3, none⟩ (.int .i64 aT)).setCell ⟨wc.heap.size, 4, none⟩ (.int .i64 aG)).setCell ⟨wc.heap.size, 5, none⟩ (.int .i64 0)).setCell ⟨wc.heap.size, 6, none⟩ (.int .i64 aC)).setCell ⟨wc.heap.size, 7, none⟩ (.bool aS)) wc.heap.size (na aK aE aA aT aG aC aS)) := hide ((((((((hfh.put 0 (.int .i64 aK)).put 1 (.int .i64 aE)).put 2 (.int .i64 aA)).put 3 (.int .i64 aT)).put 4 (.int .i64 aG)).put 5 (.int .i64 0)).put 6 (.int .i64 aC)).put 7 (.bool aS))
                              have HD3 := hide (hd.kept (w' := ((((((((w'.setCell ⟨wc.heap.size, 0, none⟩ (.int .i64 aK)).setCell ⟨wc.heap.size, 1, none⟩ (.int .i64 aE)).setCell ⟨wc.heap.size, 2, none⟩ (.int .i64 aA)).setCell ⟨wc.heap.size, 3, none⟩ (.int .i64 aT)).setCell ⟨wc.heap.size, 4, none⟩ (.int .i64 aG)).setCell ⟨wc.heap.size, 5, none⟩ (.int .i64 0)).setCell ⟨wc.heap.size, 6, none⟩ (.int .i64 aC)).setCell ⟨wc.heap.size, 7, none⟩ (.bool aS))) (Kept.setCell (p := ⟨wc.heap.size, 7, none⟩) (Kept.setCell (p := ⟨wc.heap.size, 6, none⟩) (Kept.setCell (p := ⟨wc.heap.size, 5, none⟩) (Kept.setCell (p := ⟨wc.heap.size, 4, none⟩) (Kept.setCell (p := ⟨wc.heap.size, 3, none⟩) (Kept.setCell (p := ⟨wc.heap.size, 2, none⟩) (Kept.setCell (p := ⟨wc.heap.size, 1, none⟩) (Kept.setCell (p := ⟨wc.heap.size, 0, none⟩) (Kept.refl [wc.heap.size] w') (.inl (List.mem_singleton.2 rfl)) (.int .i64 aK)) (.inl (List.mem_singleton.2 rfl)) (.int .i64 aE)) (.inl (List.mem_singleton.2 rfl)) (.int .i64 aA)) (.inl (List.mem_singleton.2 rfl)) (.int .i64 aT)) (.inl (List.mem_singleton.2 rfl)) (.int .i64 aG)) (.inl (List.mem_singleton.2 rfl)) (.int .i64 0)) (.inl (List.mem_singleton.2 rfl)) (.int .i64 aC)) (.inl (List.mem_singleton.2 rfl)) (.bool aS)) (fun q hq => .inl (by rw [List.mem_singleton.1 hq]; simp)))
                              have HT3 := hide ((unhide (And.left hC)).held (by simp) (unhide HT2))
                              have HK3 := hide ((unhide (And.left hC)).held (by simp) (unhide HK2))
                              have HH3 := hide ((unhide (And.left hC)).held (by simp) (unhide HH2))
                              have HX3 := hide ((unhide (And.left hC)).held (by simp) (unhide HX2))
                              have HB3 : Hid (Below w.heap.size w _) := hide ((unhide (And.left hC)).below (unhide HB2) (unhide HB2).size)
                              try go_wp2_with fail
                              go_meet
                              exact ⟨_, rfl, rfl, HY3, HD3, HT3, HK3, HH3, HX3, HB3⟩
                        case rest =>
                          obtain ⟨bz, rfl, rfl, HY3, HD3, HT3, HK3, HH3, HX3, HB3⟩ := hcut
                          clear HT2 HK2 HH2 HX2 HD2 HB2
                          by_cases hE : E = 0
                          · subst hE
                            rw [errV_zero rfl]
                            by_cases hK : aK = 0
                            · as_aux_lemma =>
                                subst hK
                                go_wp2_with fail
                                refine (same_nil _ _).mono ?_
                                rintro e w4 ⟨rfl, hb4⟩
                                have HT4 := hide ((unhide HT3).later hb4)
                                have HK4 := hide ((unhide HK3).later hb4)
                                have HH4 := hide ((unhide HH3).later hb4)
                                have HX4 := hide ((unhide HX3).later hb4)
                                have HY4 := hide ((unhide HY3).later hb4)
                                have HD4 := hide ((unhide HD3).later hb4)
                                have HB4 : Hid (Below w.heap.size w w4) := hide (bel3 (unhide HB3) (Below.refl _ _) hb4)
                                clear HT3 HK3 HH3 HX3 HY3 HD3 HB3 hb4
                                obtain ⟨x0, x1, x2, x3, x4, x5, x6, x7⟩ := (unhide HX4).c8.1
                                have xl := (unhide HX4).2
                                obtain ⟨y0, y1, y2, y3, y4, y5, y6, y7⟩ := (unhide HY4).c8.1
                                have yl := (unhide HY4).2
                                obtain ⟨t0, t1, t2, t3⟩ := (unhide HT4).c4.1
                                have tl := (unhide HT4).2
                                obtain ⟨tf0, tf1, tf2, tf3⟩ := (unhide HT4).c4.2
                                go_upto_region 49 with fail
                                clear HH4
                                clear HX4
                                clear HY4
                                clear x0 x1 x2 x3 x4 x5 x6 x7 xl y0 y1 y2 y3 y4 y5 y6 y7 yl t0 t1 t2 t3 tl tf0 tf1 tf2 tf3
                                have HT5 : Hid (Held ((((w4.setCell ⟨bt, 0, none⟩ (.int .i64 aE)).setCell ⟨bt, 1, none⟩ (.int .i64 aA)).setCell ⟨bt, 2, none⟩ (.int .i64 aT)).setCell ⟨bt, 3, none⟩ (.int .i64 aG)) bt (n4 aE aA aT aG)) := hide (((((unhide HT4).put 0 (.int .i64 aE)).put 1 (.int .i64 aA)).put 2 (.int .i64 aT)).put 3 (.int .i64 aG))
                                have HK5 : Hid (Held ((((w4.setCell ⟨bt, 0, none⟩ (.int .i64 aE)).setCell ⟨bt, 1, none⟩ (.int .i64 aA)).setCell ⟨bt, 2, none⟩ (.int .i64 aT)).setCell ⟨bt, 3, none⟩ (.int .i64 aG)) bk _) := hide (((((unhide HK4).far (c := bt) (by omega) 0 _).far (c := bt) (by omega) 1 _).far (c := bt) (by omega) 2 _).far (c := bt) (by omega) 3 _)
                                have HD5 := hide ((unhide HD4).kept (Kept.setCell (p := ⟨bt, 3, none⟩) (Kept.setCell (p := ⟨bt, 2, none⟩) (Kept.setCell (p := ⟨bt, 1, none⟩) (Kept.setCell (p := ⟨bt, 0, none⟩) (Kept.refl [bt] w4) (.inl (List.mem_singleton.2 rfl)) (.int .i64 aE)) (.inl (List.mem_singleton.2 rfl)) (.int .i64 aA)) (.inl (List.mem_singleton.2 rfl)) (.int .i64 aT)) (.inl (List.mem_singleton.2 rfl)) (.int .i64 aG)) (fun q hq => .inl (by rw [List.mem_singleton.1 hq]; simp)))
                                have HB5 : Hid (Below w.heap.size w ((((w4.setCell ⟨bt, 0, none⟩ (.int .i64 aE)).setCell ⟨bt, 1, none⟩ (.int .i64 aA)).setCell ⟨bt, 2, none⟩ (.int .i64 aT)).setCell ⟨bt, 3, none⟩ (.int .i64 aG))) := hide ((Kept.setCell (p := ⟨bt, 3, none⟩) (Kept.setCell (p := ⟨bt, 2, none⟩) (Kept.setCell (p := ⟨bt, 1, none⟩) (Kept.setCell (p := ⟨bt, 0, none⟩) (Kept.refl [bt] w4) (.inl (List.mem_singleton.2 rfl)) (.int .i64 aE)) (.inl (List.mem_singleton.2 rfl)) (.int .i64 aA)) (.inl (List.mem_singleton.2 rfl)) (.int .i64 aT)) (.inl (List.mem_singleton.2 rfl)) (.int .i64 aG)).below (unhide HB4) (unhide HB4).size (fun q hq => by rw [List.mem_singleton.1 hq]; first | exact zt | exact zk))
                                clear HT4 HK4 HD4 HB4
                                generalize ((((w4.setCell ⟨bt, 0, none⟩ (.int .i64 aE)).setCell ⟨bt, 1, none⟩ (.int .i64 aA)).setCell ⟨bt, 2, none⟩ (.int .i64 aT)).setCell ⟨bt, 3, none⟩ (.int .i64 aG)) = w5 at HT5 HK5 HD5 HB5 ⊢
                                go_upto_region 49 with fail
                                obtain ⟨wa, wc, wq, -⟩ := (unhide HD5).wait
                                have wl := (unhide HD5).lt.2
                                have CW := hide (fun V (hV : Below w5.heap.size w5 V) => ((unhide HD5).later hV).waits (unhide GY).len)
                                generalize y.L.length = ln at wq CW
                                have RS : Hid (∀ V : World, Below w5.heap.size w5 V → Hid (Below w5.heap.size w5 V) ∧ V.cell? ⟨m, 4, none⟩ = some (.slice wa ln wc)) := hide (fun V hV => ⟨hide hV, cell_later hV wq⟩)
                                go_region_held3 (fun w' => Hid (Below w5.heap.size w5 w') ∧ w'.cell? ⟨m, 4, none⟩ = some (.slice wa ln wc)) (first | exact unhide RS _ (Below.trans (unhide (And.left ‹Hid (Below w5.heap.size w5 _) ∧ _›)) (hbW.mono (unhide (And.left ‹Hid (Below w5.heap.size w5 _) ∧ _›)).size)) | exact unhide RS _ (Below.refl _ _).drew | exact unhide RS _ (unhide (And.left ‹Hid (Below w5.heap.size w5 _) ∧ _›)).drew)
                                  (first | (go_at_call 19; refine (unhide CW _ (unhide (And.left ‹Hid (Below w5.heap.size w5 _) ∧ _›))).mono ?_; rintro e w6 ⟨rfl, hbW⟩))
                                have hbx := unhide (And.left ‹Hid (Below w5.heap.size w5 _) ∧ _›)
                                have HT6 := hide ((unhide HT5).later hbx)
                                have HK6 := hide ((unhide HK5).later hbx)
                                have HD6 := hide (((unhide HD5).later hbx).less (G' := [bt, bk]) (by simp))
                                have HB6 : Hid (Below w.heap.size w w6) := hide (bel3 (unhide HB5) (Below.refl _ _) hbx)
                                clear hbx hbW RS CW wq wl
                                go_wp2
                                go_roundw
                                case rel => exact ⟨k + 1, y, aE, aA, aT, aG, q0, q1, q2, q3, by omega, rfl, by go_num, GY, HD6, HT6, HK6, HB6⟩
                                case measure => simp [intOf]; omega
                            · as_aux_lemma =>
                                have hK2 := beq_no hK
                                go_wp2_with fail
                                refine (same_nil _ _).mono ?_
                                rintro e w4 ⟨rfl, hb4⟩
                                have HT4 := hide ((unhide HT3).later hb4)
                                have HK4 := hide ((unhide HK3).later hb4)
                                have HH4 := hide ((unhide HH3).later hb4)
                                have HX4 := hide ((unhide HX3).later hb4)
                                have HY4 := hide ((unhide HY3).later hb4)
                                have HD4 := hide ((unhide HD3).later hb4)
                                have HB4 : Hid (Below w.heap.size w w4) := hide (bel3 (unhide HB3) (Below.refl _ _) hb4)
                                clear HT3 HK3 HH3 HX3 HY3 HD3 HB3 hb4
                                obtain ⟨x0, x1, x2, x3, x4, x5, x6, x7⟩ := (unhide HX4).c8.1
                                have xl := (unhide HX4).2
                                obtain ⟨y0, y1, y2, y3, y4, y5, y6, y7⟩ := (unhide HY4).c8.1
                                have yl := (unhide HY4).2
                                go_upto_region 49 with fail
                                clear x0 x1 x2 x3 x4 x5 x6 x7 xl y0 y1 y2 y3 y4 y5 y6 y7 yl
                                go_upto_region 49 with fail
                                obtain ⟨wa, wc, wq, -⟩ := (unhide HD4).wait
                                have wl := (unhide HD4).lt.2
                                have CW := hide (fun V (hV : Below w4.heap.size w4 V) => ((unhide HD4).later hV).waits (unhide GY).len)
                                generalize y.L.length = ln at wq CW
                                have RS : Hid (∀ V : World, Below w4.heap.size w4 V → Hid (Below w4.heap.size w4 V) ∧ V.cell? ⟨m, 4, none⟩ = some (.slice wa ln wc)) := hide (fun V hV => ⟨hide hV, cell_later hV wq⟩)
                                go_region_held3 (fun w' => Hid (Below w4.heap.size w4 w') ∧ w'.cell? ⟨m, 4, none⟩ = some (.slice wa ln wc)) (first | exact unhide RS _ (Below.trans (unhide (And.left ‹Hid (Below w4.heap.size w4 _) ∧ _›)) (hbW.mono (unhide (And.left ‹Hid (Below w4.heap.size w4 _) ∧ _›)).size)) | exact unhide RS _ (Below.refl _ _).drew | exact unhide RS _ (unhide (And.left ‹Hid (Below w4.heap.size w4 _) ∧ _›)).drew)
                                  (first | (go_at_call 19; refine (unhide CW _ (unhide (And.left ‹Hid (Below w4.heap.size w4 _) ∧ _›))).mono ?_; rintro e w5 ⟨rfl, hbW⟩))
                                have hbx := unhide (And.left ‹Hid (Below w4.heap.size w4 _) ∧ _›)
                                have HT5 := hide ((unhide HT4).later hbx)
                                have HK5 := hide ((unhide HK4).later hbx)
                                have HD5 := hide (((unhide HD4).later hbx).less (G' := [bt, bk]) (by simp))
                                have HB5 : Hid (Below w.heap.size w w5) := hide (bel3 (unhide HB4) (Below.refl _ _) hbx)
                                clear hbx hbW RS CW wq wl
                                go_wp2
                                go_roundw
                                case rel => exact ⟨k + 1, y, p0, p1, p2, p3, q0, q1, q2, q3, by omega, rfl, by go_num, GY, HD5, HT5, HK5, HB5⟩
                                case measure => simp [intOf]; omega
                          · as_aux_lemma =>
                              rw [errV_pos hE]
                              go_wp2_with fail
                              refine (same_errno E E _ ((unhide HG).later (unhide HB3))).mono ?_
                              rintro e w4 ⟨rfl, hb4⟩
                              have HT4 := hide ((unhide HT3).later hb4)
                              have HK4 := hide ((unhide HK3).later hb4)
                              have HH4 := hide ((unhide HH3).later hb4)
                              have HX4 := hide ((unhide HX3).later hb4)
                              have HY4 := hide ((unhide HY3).later hb4)
                              have HD4 := hide ((unhide HD3).later hb4)
                              have HB4 : Hid (Below w.heap.size w w4) := hide (bel3 (unhide HB3) (Below.refl _ _) hb4)
                              clear HT3 HK3 HH3 HX3 HY3 HD3 HB3 hb4
                              obtain ⟨x0, x1, x2, x3, x4, x5, x6, x7⟩ := (unhide HX4).c8.1
                              have xl := (unhide HX4).2
                              obtain ⟨y0, y1, y2, y3, y4, y5, y6, y7⟩ := (unhide HY4).c8.1
                              have yl := (unhide HY4).2
                              go_upto_region 49 with fail
                              clear x0 x1 x2 x3 x4 x5 x6 x7 xl y0 y1 y2 y3 y4 y5 y6 y7 yl
                              go_upto_region 49 with fail
                              obtain ⟨wa, wc, wq, -⟩ := (unhide HD4).wait
                              have wl := (unhide HD4).lt.2
                              have CW := hide (fun V (hV : Below w4.heap.size w4 V) => ((unhide HD4).later hV).waits (unhide GY).len)
                              generalize y.L.length = ln at wq CW
                              have RS : Hid (∀ V : World, Below w4.heap.size w4 V → Hid (Below w4.heap.size w4 V) ∧ V.cell? ⟨m, 4, none⟩ = some (.slice wa ln wc)) := hide (fun V hV => ⟨hide hV, cell_later hV wq⟩)
                              go_region_held3 (fun w' => Hid (Below w4.heap.size w4 w') ∧ w'.cell? ⟨m, 4, none⟩ = some (.slice wa ln wc)) (first | exact unhide RS _ (Below.trans (unhide (And.left ‹Hid (Below w4.heap.size w4 _) ∧ _›)) (hbW.mono (unhide (And.left ‹Hid (Below w4.heap.size w4 _) ∧ _›)).size)) | exact unhide RS _ (Below.refl _ _).drew | exact unhide RS _ (unhide (And.left ‹Hid (Below w4.heap.size w4 _) ∧ _›)).drew)
                                (first | (go_at_call 19; refine (unhide CW _ (unhide (And.left ‹Hid (Below w4.heap.size w4 _) ∧ _›))).mono ?_; rintro e w5 ⟨rfl, hbW⟩))
                              have hbx := unhide (And.left ‹Hid (Below w4.heap.size w4 _) ∧ _›)
                              have HT5 := hide ((unhide HT4).later hbx)
                              have HK5 := hide ((unhide HK4).later hbx)
                              have HD5 := hide (((unhide HD4).later hbx).less (G' := [bt, bk]) (by simp))
                              have HB5 : Hid (Below w.heap.size w w5) := hide (bel3 (unhide HB4) (Below.refl _ _) hbx)
                              clear hbx hbW RS CW wq wl
                              go_wp2
                              go_roundw
                              case rel => exact ⟨k + 1, y, p0, p1, p2, p3, q0, q1, q2, q3, by omega, rfl, by go_num, GY, HD5, HT5, HK5, HB5⟩
                              case measure => simp [intOf]; omega
                    · go_upto_region 21 with fail
                      have HH1 : Hid (Held (wr.alloc (.cells #[.int .i64 za, .int .i64 z1, .int .i64 z2, .int .i64 z3, .int .i64 z4, .int .i64 z5, .int .i64 z6, .int .i64 z7, .int .i64 z8, .string zs] 60)) wr.heap.size (nh za z1 z2 z3 z4 z5 z6 z7 z8 zs)) := hide (Held.fresh (w := wr) (nh za z1 z2 z3 z4 z5 z6 z7 z8 zs) 60 rfl)
                      have HT1 := hide ((unhide HT0).alloc (.cells #[.int .i64 za, .int .i64 z1, .int .i64 z2, .int .i64 z3, .int .i64 z4, .int .i64 z5, .int .i64 z6, .int .i64 z7, .int .i64 z8, .string zs] 60))
                      have HK1 := hide ((unhide HK0).alloc (.cells #[.int .i64 za, .int .i64 z1, .int .i64 z2, .int .i64 z3, .int .i64 z4, .int .i64 z5, .int .i64 z6, .int .i64 z7, .int .i64 z8, .string zs] 60))
                      have HD1 := hide ((unhide HD0).more (below_alloc (Below.refl _ _) (.cells #[.int .i64 za, .int .i64 z1, .int .i64 z2, .int .i64 z3, .int .i64 z4, .int .i64 z5, .int .i64 z6, .int .i64 z7, .int .i64 z8, .string zs] 60)) (Nat.le_refl wr.heap.size) (by simp))
                      have HB1 : Hid (Below w.heap.size w (wr.alloc (.cells #[.int .i64 za, .int .i64 z1, .int .i64 z2, .int .i64 z3, .int .i64 z4, .int .i64 z5, .int .i64 z6, .int .i64 z7, .int .i64 z8, .string zs] 60))) := hide (below_alloc (unhide HB0) (.cells #[.int .i64 za, .int .i64 z1, .int .i64 z2, .int .i64 z3, .int .i64 z4, .int .i64 z5, .int .i64 z6, .int .i64 z7, .int .i64 z8, .string zs] 60))
                      clear HT0 HK0 HD0 HB0
                      generalize (wr.alloc (.cells #[.int .i64 za, .int .i64 z1, .int .i64 z2, .int .i64 z3, .int .i64 z4, .int .i64 z5, .int .i64 z6, .int .i64 z7, .int .i64 z8, .string zs] 60)) = w1 at HT1 HK1 HH1 HD1 HB1 ⊢
                      generalize wr.heap.size = bh at HH1 HD1 ⊢
                      obtain ⟨v1, v2, v3, v4, v5, v6, v7, v8, HHv⟩ : ∃ v1 v2 v3 v4 v5 v6 v7 v8 : Int, Hid (Held w1 bh (nh za v1 v2 v3 v4 v5 v6 v7 v8 zs)) := ⟨z1, z2, z3, z4, z5, z6, z7, z8, HH1⟩
                      clear HH1
                      have HH1 := HHv
                      clear HHv
                      clear zc0 zc1 zc2 zc3 zc4 zc5 zc6 zc7 zc8 zc9 dc zl hev hev2
                      obtain ⟨hi, hie⟩ : ∃ hi : ServM.Hi, hi = ⟨za, v1, v2, v3, v4, v5, v6, v7, v8, zs⟩ := ⟨_, rfl⟩
                      have CM := hide (fun (V : World) (G : List Nat) (hd : Duo w.heap.size V s m G x x) => hd.m (fun o R h => rhello_any hi tm V (unhide GX) h))
                      have CS := hide (fun (V : World) (G : List Nat) (hd : Duo w.heap.size V s m G x (ServM.next x hi tm)) => hd.s (fun F h => shello_any hi tm V (unhide GX) h))
                      have GY := hide (ServM.next_good (h := hi) (now := tm) (unhide GX))
                      generalize ServM.aKind x hi tm = aK at CM CS
                      generalize ServM.aEp x hi tm = aE at CM CS
                      generalize ServM.aAd x hi tm = aA at CM CS
                      generalize ServM.aTi x hi tm = aT at CM CS
                      generalize ServM.aTg x hi tm = aG at CM CS
                      generalize ServM.aCo x hi tm = aC at CM CS
                      generalize ServM.soon x hi tm = aS at CM CS
                      generalize ServM.err x hi tm = E at CM CS
                      generalize ServM.next x hi tm = y at CM CS GY
                      subst hie
                      dsimp only at CM CS
                      have hEE : (E == E) = true := by simp
                      have hSS : (aS == aS) = true := by simp
                      go_upto_region 21 with fail
                      go_cut [32, 33] from 63 to 242 (fun a b wx => ∃ bn : Nat, a = .pointer (some ⟨bn, 0, none⟩) ∧ b = .int .i64 E ∧ Hid (Held wx bn (na aK aE aA aT aG aC aS)) ∧ Hid (Duo w.heap.size wx s m (bn :: [bh, bt, bk]) x y) ∧ Hid (Held wx bt (n4 p0 p1 p2 p3)) ∧ Hid (Held wx bk (n4 q0 q1 q2 q3)) ∧ Hid (Held wx bh (nh za v1 v2 v3 v4 v5 v6 v7 v8 zs)) ∧ Hid (Below w.heap.size w wx))
                      case first =>
                        have HT0' := (unhide HTM).2
                        obtain ⟨⟨h0, h1, h2, h3, h4, h5, h6, h7, h8, h9⟩, -⟩ := (unhide HH1).c10
                        have tmc := cell_later (unhide HB1) (unhide HTM).1
                        have hhl := (unhide HH1).2
                        have RS : Hid (∀ V : World, Lets w.heap.size [bh, bt, bk] w1 V → Hid (Lets w.heap.size [bh, bt, bk] w1 V) ∧ V.cell? ⟨bh, 0, none⟩ = some (.int .i64 za) ∧ V.cell? ⟨bh, 1, none⟩ = some (.int .i64 v1) ∧ V.cell? ⟨bh, 2, none⟩ = some (.int .i64 v2) ∧ V.cell? ⟨bh, 3, none⟩ = some (.int .i64 v3) ∧ V.cell? ⟨bh, 4, none⟩ = some (.int .i64 v4) ∧ V.cell? ⟨bh, 5, none⟩ = some (.int .i64 v5) ∧ V.cell? ⟨bh, 6, none⟩ = some (.int .i64 v6) ∧ V.cell? ⟨bh, 7, none⟩ = some (.int .i64 v7) ∧ V.cell? ⟨bh, 8, none⟩ = some (.int .i64 v8) ∧ V.cell? ⟨bh, 9, none⟩ = some (.string zs) ∧ V.cell? ⟨tb, toff + k, none⟩ = some (.int .i64 tm)) := hide (fun V hk => by
                          obtain ⟨⟨g0, g1, g2, g3, g4, g5, g6, g7, g8, g9⟩, -⟩ := (hk.held (by simp) (unhide HH1)).c10
                          exact ⟨hide hk, g0, g1, g2, g3, g4, g5, g6, g7, g8, g9, hk.cell (unhide HTM).2 (cell_later (unhide HB1) (unhide HTM).1)⟩)
                        have hR0 : Hid (Lets w.heap.size [bh, bt, bk] w1 w1.drew) ∧ w1.drew.cell? ⟨bh, 0, none⟩ = some (.int .i64 za) ∧ w1.drew.cell? ⟨bh, 1, none⟩ = some (.int .i64 v1) ∧ w1.drew.cell? ⟨bh, 2, none⟩ = some (.int .i64 v2) ∧ w1.drew.cell? ⟨bh, 3, none⟩ = some (.int .i64 v3) ∧ w1.drew.cell? ⟨bh, 4, none⟩ = some (.int .i64 v4) ∧ w1.drew.cell? ⟨bh, 5, none⟩ = some (.int .i64 v5) ∧ w1.drew.cell? ⟨bh, 6, none⟩ = some (.int .i64 v6) ∧ w1.drew.cell? ⟨bh, 7, none⟩ = some (.int .i64 v7) ∧ w1.drew.cell? ⟨bh, 8, none⟩ = some (.int .i64 v8) ∧ w1.drew.cell? ⟨bh, 9, none⟩ = some (.string zs) ∧ w1.drew.cell? ⟨tb, toff + k, none⟩ = some (.int .i64 tm) := unhide RS _ (Lets.refl _ _ _).drew
                        have hR1 : Hid (Lets w.heap.size [bh, bt, bk] w1 (w1.alloc (.cells #[.int .i64 0, .int .i64 0, .int .i64 0, .int .i64 0, .int .i64 0, .int .i64 0, .int .i64 0, .bool false] 62)).drew) ∧ (w1.alloc (.cells #[.int .i64 0, .int .i64 0, .int .i64 0, .int .i64 0, .int .i64 0, .int .i64 0, .int .i64 0, .bool false] 62)).drew.cell? ⟨bh, 0, none⟩ = some (.int .i64 za) ∧ (w1.alloc (.cells #[.int .i64 0, .int .i64 0, .int .i64 0, .int .i64 0, .int .i64 0, .int .i64 0, .int .i64 0, .bool false] 62)).drew.cell? ⟨bh, 1, none⟩ = some (.int .i64 v1) ∧ (w1.alloc (.cells #[.int .i64 0, .int .i64 0, .int .i64 0, .int .i64 0, .int .i64 0, .int .i64 0, .int .i64 0, .bool false] 62)).drew.cell? ⟨bh, 2, none⟩ = some (.int .i64 v2) ∧ (w1.alloc (.cells #[.int .i64 0, .int .i64 0, .int .i64 0, .int .i64 0, .int .i64 0, .int .i64 0, .int .i64 0, .bool false] 62)).drew.cell? ⟨bh, 3, none⟩ = some (.int .i64 v3) ∧ (w1.alloc (.cells #[.int .i64 0, .int .i64 0, .int .i64 0, .int .i64 0, .int .i64 0, .int .i64 0, .int .i64 0, .bool false] 62)).drew.cell? ⟨bh, 4, none⟩ = some (.int .i64 v4) ∧ (w1.alloc (.cells #[.int .i64 0, .int .i64 0, .int .i64 0, .int .i64 0, .int .i64 0, .int .i64 0, .int .i64 0, .bool false] 62)).drew.cell? ⟨bh, 5, none⟩ = some (.int .i64 v5) ∧ (w1.alloc (.cells #[.int .i64 0, .int .i64 0, .int .i64 0, .int .i64 0, .int .i64 0, .int .i64 0, .int .i64 0, .bool false] 62)).drew.cell? ⟨bh, 6, none⟩ = some (.int .i64 v6) ∧ (w1.alloc (.cells #[.int .i64 0, .int .i64 0, .int .i64 0, .int .i64 0, .int .i64 0, .int .i64 0, .int .i64 0, .bool false] 62)).drew.cell? ⟨bh, 7, none⟩ = some (.int .i64 v7) ∧ (w1.alloc (.cells #[.int .i64 0, .int .i64 0, .int .i64 0, .int .i64 0, .int .i64 0, .int .i64 0, .int .i64 0, .bool false] 62)).drew.cell? ⟨bh, 8, none⟩ = some (.int .i64 v8) ∧ (w1.alloc (.cells #[.int .i64 0, .int .i64 0, .int .i64 0, .int .i64 0, .int .i64 0, .int .i64 0, .int .i64 0, .bool false] 62)).drew.cell? ⟨bh, 9, none⟩ = some (.string zs) ∧ (w1.alloc (.cells #[.int .i64 0, .int .i64 0, .int .i64 0, .int .i64 0, .int .i64 0, .int .i64 0, .int .i64 0, .bool false] 62)).drew.cell? ⟨tb, toff + k, none⟩ = some (.int .i64 tm) := unhide RS _ ((Lets.refl _ _ _).alloc _).drew
                        go_region_held3 (fun w' => Hid (Lets w.heap.size [bh, bt, bk] w1 w') ∧ w'.cell? ⟨bh, 0, none⟩ = some (.int .i64 za) ∧ w'.cell? ⟨bh, 1, none⟩ = some (.int .i64 v1) ∧ w'.cell? ⟨bh, 2, none⟩ = some (.int .i64 v2) ∧ w'.cell? ⟨bh, 3, none⟩ = some (.int .i64 v3) ∧ w'.cell? ⟨bh, 4, none⟩ = some (.int .i64 v4) ∧ w'.cell? ⟨bh, 5, none⟩ = some (.int .i64 v5) ∧ w'.cell? ⟨bh, 6, none⟩ = some (.int .i64 v6) ∧ w'.cell? ⟨bh, 7, none⟩ = some (.int .i64 v7) ∧ w'.cell? ⟨bh, 8, none⟩ = some (.int .i64 v8) ∧ w'.cell? ⟨bh, 9, none⟩ = some (.string zs) ∧ w'.cell? ⟨tb, toff + k, none⟩ = some (.int .i64 tm)) (with_reducible assumption)
                          (first | (go_at_call 17; refine (unhide CM _ _ (by first | exact (unhide HD1).drew | exact ((unhide HD1).more (below_alloc (Below.refl _ _) (.cells #[.int .i64 0, .int .i64 0, .int .i64 0, .int .i64 0, .int .i64 0, .int .i64 0, .int .i64 0, .bool false] 62)) (Nat.le_refl w1.heap.size) (by simp)).drew)).mono ?_; rintro e w' ⟨rfl, hd, hk⟩; have hk0 : Lets w.heap.size [bh, bt, bk] _ w' := Lets.less hk (by first | exact fun _ q => q | exact fun _ q => List.mem_cons_of_mem _ q); have hS3 : Hid (Lets w.heap.size [bh, bt, bk] w1 w') ∧ w'.cell? ⟨bh, 0, none⟩ = some (.int .i64 za) ∧ w'.cell? ⟨bh, 1, none⟩ = some (.int .i64 v1) ∧ w'.cell? ⟨bh, 2, none⟩ = some (.int .i64 v2) ∧ w'.cell? ⟨bh, 3, none⟩ = some (.int .i64 v3) ∧ w'.cell? ⟨bh, 4, none⟩ = some (.int .i64 v4) ∧ w'.cell? ⟨bh, 5, none⟩ = some (.int .i64 v5) ∧ w'.cell? ⟨bh, 6, none⟩ = some (.int .i64 v6) ∧ w'.cell? ⟨bh, 7, none⟩ = some (.int .i64 v7) ∧ w'.cell? ⟨bh, 8, none⟩ = some (.int .i64 v8) ∧ w'.cell? ⟨bh, 9, none⟩ = some (.string zs) ∧ w'.cell? ⟨tb, toff + k, none⟩ = some (.int .i64 tm) := unhide RS w' (Lets.trans (unhide (And.left ‹Hid (Lets w.heap.size [bh, bt, bk] w1 _) ∧ _›)) hk0); have hA3 : Hid (Lets w.heap.size [bh, bt, bk] w1 (w'.alloc (.cells #[.int .i64 0, .int .i64 0, .int .i64 0, .int .i64 0, .int .i64 0, .int .i64 0, .int .i64 0, .bool false] 62))) ∧ (w'.alloc (.cells #[.int .i64 0, .int .i64 0, .int .i64 0, .int .i64 0, .int .i64 0, .int .i64 0, .int .i64 0, .bool false] 62)).cell? ⟨bh, 0, none⟩ = some (.int .i64 za) ∧ (w'.alloc (.cells #[.int .i64 0, .int .i64 0, .int .i64 0, .int .i64 0, .int .i64 0, .int .i64 0, .int .i64 0, .bool false] 62)).cell? ⟨bh, 1, none⟩ = some (.int .i64 v1) ∧ (w'.alloc (.cells #[.int .i64 0, .int .i64 0, .int .i64 0, .int .i64 0, .int .i64 0, .int .i64 0, .int .i64 0, .bool false] 62)).cell? ⟨bh, 2, none⟩ = some (.int .i64 v2) ∧ (w'.alloc (.cells #[.int .i64 0, .int .i64 0, .int .i64 0, .int .i64 0, .int .i64 0, .int .i64 0, .int .i64 0, .bool false] 62)).cell? ⟨bh, 3, none⟩ = some (.int .i64 v3) ∧ (w'.alloc (.cells #[.int .i64 0, .int .i64 0, .int .i64 0, .int .i64 0, .int .i64 0, .int .i64 0, .int .i64 0, .bool false] 62)).cell? ⟨bh, 4, none⟩ = some (.int .i64 v4) ∧ (w'.alloc (.cells #[.int .i64 0, .int .i64 0, .int .i64 0, .int .i64 0, .int .i64 0, .int .i64 0, .int .i64 0, .bool false] 62)).cell? ⟨bh, 5, none⟩ = some (.int .i64 v5) ∧ (w'.alloc (.cells #[.int .i64 0, .int .i64 0, .int .i64 0, .int .i64 0, .int .i64 0, .int .i64 0, .int .i64 0, .bool false] 62)).cell? ⟨bh, 6, none⟩ = some (.int .i64 v6) ∧ (w'.alloc (.cells #[.int .i64 0, .int .i64 0, .int .i64 0, .int .i64 0, .int .i64 0, .int .i64 0, .int .i64 0, .bool false] 62)).cell? ⟨bh, 7, none⟩ = some (.int .i64 v7) ∧ (w'.alloc (.cells #[.int .i64 0, .int .i64 0, .int .i64 0, .int .i64 0, .int .i64 0, .int .i64 0, .int .i64 0, .bool false] 62)).cell? ⟨bh, 8, none⟩ = some (.int .i64 v8) ∧ (w'.alloc (.cells #[.int .i64 0, .int .i64 0, .int .i64 0, .int .i64 0, .int .i64 0, .int .i64 0, .int .i64 0, .bool false] 62)).cell? ⟨bh, 9, none⟩ = some (.string zs) ∧ (w'.alloc (.cells #[.int .i64 0, .int .i64 0, .int .i64 0, .int .i64 0, .int .i64 0, .int .i64 0, .int .i64 0, .bool false] 62)).cell? ⟨tb, toff + k, none⟩ = some (.int .i64 tm) := unhide RS _ (Lets.alloc (unhide (And.left hS3)) _); have hA4 : Hid (Lets w.heap.size [bh, bt, bk] w1 (w'.alloc (.cells #[.int .i64 aK, .int .i64 aE, .int .i64 aA, .int .i64 aT, .int .i64 aG, .int .i64 0, .int .i64 aC, .bool aS] 62))) ∧ (w'.alloc (.cells #[.int .i64 aK, .int .i64 aE, .int .i64 aA, .int .i64 aT, .int .i64 aG, .int .i64 0, .int .i64 aC, .bool aS] 62)).cell? ⟨bh, 0, none⟩ = some (.int .i64 za) ∧ (w'.alloc (.cells #[.int .i64 aK, .int .i64 aE, .int .i64 aA, .int .i64 aT, .int .i64 aG, .int .i64 0, .int .i64 aC, .bool aS] 62)).cell? ⟨bh, 1, none⟩ = some (.int .i64 v1) ∧ (w'.alloc (.cells #[.int .i64 aK, .int .i64 aE, .int .i64 aA, .int .i64 aT, .int .i64 aG, .int .i64 0, .int .i64 aC, .bool aS] 62)).cell? ⟨bh, 2, none⟩ = some (.int .i64 v2) ∧ (w'.alloc (.cells #[.int .i64 aK, .int .i64 aE, .int .i64 aA, .int .i64 aT, .int .i64 aG, .int .i64 0, .int .i64 aC, .bool aS] 62)).cell? ⟨bh, 3, none⟩ = some (.int .i64 v3) ∧ (w'.alloc (.cells #[.int .i64 aK, .int .i64 aE, .int .i64 aA, .int .i64 aT, .int .i64 aG, .int .i64 0, .int .i64 aC, .bool aS] 62)).cell? ⟨bh, 4, none⟩ = some (.int .i64 v4) ∧ (w'.alloc (.cells #[.int .i64 aK, .int .i64 aE, .int .i64 aA, .int .i64 aT, .int .i64 aG, .int .i64 0, .int .i64 aC, .bool aS] 62)).cell? ⟨bh, 5, none⟩ = some (.int .i64 v5) ∧ (w'.alloc (.cells #[.int .i64 aK, .int .i64 aE, .int .i64 aA, .int .i64 aT, .int .i64 aG, .int .i64 0, .int .i64 aC, .bool aS] 62)).cell? ⟨bh, 6, none⟩ = some (.int .i64 v6) ∧ (w'.alloc (.cells #[.int .i64 aK, .int .i64 aE, .int .i64 aA, .int .i64 aT, .int .i64 aG, .int .i64 0, .int .i64 aC, .bool aS] 62)).cell? ⟨bh, 7, none⟩ = some (.int .i64 v7) ∧ (w'.alloc (.cells #[.int .i64 aK, .int .i64 aE, .int .i64 aA, .int .i64 aT, .int .i64 aG, .int .i64 0, .int .i64 aC, .bool aS] 62)).cell? ⟨bh, 8, none⟩ = some (.int .i64 v8) ∧ (w'.alloc (.cells #[.int .i64 aK, .int .i64 aE, .int .i64 aA, .int .i64 aT, .int .i64 aG, .int .i64 0, .int .i64 aC, .bool aS] 62)).cell? ⟨bh, 9, none⟩ = some (.string zs) ∧ (w'.alloc (.cells #[.int .i64 aK, .int .i64 aE, .int .i64 aA, .int .i64 aT, .int .i64 aG, .int .i64 0, .int .i64 aC, .bool aS] 62)).cell? ⟨tb, toff + k, none⟩ = some (.int .i64 tm) := unhide RS _ (Lets.alloc (unhide (And.left hS3)) _); have hC : Hid (Lets w.heap.size [bh, bt, bk] w1 ((((((((w'.setCell ⟨w1.heap.size, 0, none⟩ (.int .i64 aK)).setCell ⟨w1.heap.size, 1, none⟩ (.int .i64 aE)).setCell ⟨w1.heap.size, 2, none⟩ (.int .i64 aA)).setCell ⟨w1.heap.size, 3, none⟩ (.int .i64 aT)).setCell ⟨w1.heap.size, 4, none⟩ (.int .i64 aG)).setCell ⟨w1.heap.size, 5, none⟩ (.int .i64 0)).setCell ⟨w1.heap.size, 6, none⟩ (.int .i64 aC)).setCell ⟨w1.heap.size, 7, none⟩ (.bool aS))) ∧ ((((((((w'.setCell ⟨w1.heap.size, 0, none⟩ (.int .i64 aK)).setCell ⟨w1.heap.size, 1, none⟩ (.int .i64 aE)).setCell ⟨w1.heap.size, 2, none⟩ (.int .i64 aA)).setCell ⟨w1.heap.size, 3, none⟩ (.int .i64 aT)).setCell ⟨w1.heap.size, 4, none⟩ (.int .i64 aG)).setCell ⟨w1.heap.size, 5, none⟩ (.int .i64 0)).setCell ⟨w1.heap.size, 6, none⟩ (.int .i64 aC)).setCell ⟨w1.heap.size, 7, none⟩ (.bool aS)).cell? ⟨bh, 0, none⟩ = some (.int .i64 za) ∧ ((((((((w'.setCell ⟨w1.heap.size, 0, none⟩ (.int .i64 aK)).setCell ⟨w1.heap.size, 1, none⟩ (.int .i64 aE)).setCell ⟨w1.heap.size, 2, none⟩ (.int .i64 aA)).setCell ⟨w1.heap.size, 3, none⟩ (.int .i64 aT)).setCell ⟨w1.heap.size, 4, none⟩ (.int .i64 aG)).setCell ⟨w1.heap.size, 5, none⟩ (.int .i64 0)).setCell ⟨w1.heap.size, 6, none⟩ (.int .i64 aC)).setCell ⟨w1.heap.size, 7, none⟩ (.bool aS)).cell? ⟨bh, 1, none⟩ = some (.int .i64 v1) ∧ ((((((((w'.setCell ⟨w1.heap.size, 0, none⟩ (.int .i64 aK)).setCell ⟨w1.heap.size, 1, none⟩ (.int .i64 aE)).setCell ⟨w1.heap.size, 2, none⟩ (.int .i64 aA)).setCell ⟨w1.heap.size, 3, none⟩ (.int .i64 aT)).setCell ⟨w1.heap.size, 4, none⟩ (.int .i64 aG)).setCell ⟨w1.heap.size, 5, none⟩ (.int .i64 0)).setCell ⟨w1.heap.size, 6, none⟩ (.int .i64 aC)).setCell ⟨w1.heap.size, 7, none⟩ (.bool aS)).cell? ⟨bh, 2, none⟩ = some (.int .i64 v2) ∧ ((((((((w'.setCell ⟨w1.heap.size, 0, none⟩ (.int .i64 aK)).setCell ⟨w1.heap.size, 1, none⟩ (.int .i64 aE)).setCell ⟨w1.heap.size, 2, none⟩ (.int .i64 aA)).setCell ⟨w1.heap.size, 3, none⟩ (.int .i64 aT)).setCell ⟨w1.heap.size, 4, none⟩ (.int .i64 aG)).setCell ⟨w1.heap.size, 5, none⟩ (.int .i64 0)).setCell ⟨w1.heap.size, 6, none⟩ (.int .i64 aC)).setCell ⟨w1.heap.size, 7, none⟩ (.bool aS)).cell? ⟨bh, 3, none⟩ = some (.int .i64 v3) ∧ ((((((((w'.setCell ⟨w1.heap.size, 0, none⟩ (.int .i64 aK)).setCell ⟨w1.heap.size, 1, none⟩ (.int .i64 aE)).setCell ⟨w1.heap.size, 2, none⟩ (.int .i64 aA)).setCell ⟨w1.heap.size, 3, none⟩ (.int .i64 aT)).setCell ⟨w1.heap.size, 4, none⟩ (.int .i64 aG)).setCell ⟨w1.heap.size, 5, none⟩ (.int .i64 0)).setCell ⟨w1.heap.size, 6, none⟩ (.int .i64 aC)).setCell ⟨w1.heap.size, 7, none⟩ (.bool aS)).cell? ⟨bh, 4, none⟩ = some (.int .i64 v4) ∧ ((((((((w'.setCell ⟨w1.heap.size, 0, none⟩ (.int .i64 aK)).setCell ⟨w1.heap.size, 1, none⟩ (.int .i64 aE)).setCell ⟨w1.heap.size, 2, none⟩ (.int .i64 aA)).setCell ⟨w1.heap.size, 3, none⟩ (.int .i64 aT)).setCell ⟨w1.heap.size, 4, none⟩ (.int .i64 aG)).setCell ⟨w1.heap.size, 5, none⟩ (.int .i64 0)).setCell ⟨w1.heap.size, 6, none⟩ (.int .i64 aC)).setCell ⟨w1.heap.size, 7, none⟩ (.bool aS)).cell? ⟨bh, 5, none⟩ = some (.int .i64 v5) ∧ ((((((((w'.setCell ⟨w1.heap.size, 0, none⟩ (.int .i64 aK)).setCell ⟨w1.heap.size, 1, none⟩ (.int .i64 aE)).setCell ⟨w1.heap.size, 2, none⟩ (.int .i64 aA)).setCell ⟨w1.heap.size, 3, none⟩ (.int .i64 aT)).setCell ⟨w1.heap.size, 4, none⟩ (.int .i64 aG)).setCell ⟨w1.heap.size, 5, none⟩ (.int .i64 0)).setCell ⟨w1.heap.size, 6, none⟩ (.int .i64 aC)).setCell ⟨w1.heap.size, 7, none⟩ (.bool aS)).cell? ⟨bh, 6, none⟩ = some (.int .i64 v6) ∧ ((((((((w'.setCell ⟨w1.heap.size, 0, none⟩ (.int .i64 aK)).setCell ⟨w1.heap.size, 1, none⟩ (.int .i64 aE)).setCell ⟨w1.heap.size, 2, none⟩ (.int .i64 aA)).setCell ⟨w1.heap.size, 3, none⟩ (.int .i64 aT)).setCell ⟨w1.heap.size, 4, none⟩ (.int .i64 aG)).setCell ⟨w1.heap.size, 5, none⟩ (.int .i64 0)).setCell ⟨w1.heap.size, 6, none⟩ (.int .i64 aC)).setCell ⟨w1.heap.size, 7, none⟩ (.bool aS)).cell? ⟨bh, 7, none⟩ = some (.int .i64 v7) ∧ ((((((((w'.setCell ⟨w1.heap.size, 0, none⟩ (.int .i64 aK)).setCell ⟨w1.heap.size, 1, none⟩ (.int .i64 aE)).setCell ⟨w1.heap.size, 2, none⟩ (.int .i64 aA)).setCell ⟨w1.heap.size, 3, none⟩ (.int .i64 aT)).setCell ⟨w1.heap.size, 4, none⟩ (.int .i64 aG)).setCell ⟨w1.heap.size, 5, none⟩ (.int .i64 0)).setCell ⟨w1.heap.size, 6, none⟩ (.int .i64 aC)).setCell ⟨w1.heap.size, 7, none⟩ (.bool aS)).cell? ⟨bh, 8, none⟩ = some (.int .i64 v8) ∧ ((((((((w'.setCell ⟨w1.heap.size, 0, none⟩ (.int .i64 aK)).setCell ⟨w1.heap.size, 1, none⟩ (.int .i64 aE)).setCell ⟨w1.heap.size, 2, none⟩ (.int .i64 aA)).setCell ⟨w1.heap.size, 3, none⟩ (.int .i64 aT)).setCell ⟨w1.heap.size, 4, none⟩ (.int .i64 aG)).setCell ⟨w1.heap.size, 5, none⟩ (.int .i64 0)).setCell ⟨w1.heap.size, 6, none⟩ (.int .i64 aC)).setCell ⟨w1.heap.size, 7, none⟩ (.bool aS)).cell? ⟨bh, 9, none⟩ = some (.string zs) ∧ ((((((((w'.setCell ⟨w1.heap.size, 0, none⟩ (.int .i64 aK)).setCell ⟨w1.heap.size, 1, none⟩ (.int .i64 aE)).setCell ⟨w1.heap.size, 2, none⟩ (.int .i64 aA)).setCell ⟨w1.heap.size, 3, none⟩ (.int .i64 aT)).setCell ⟨w1.heap.size, 4, none⟩ (.int .i64 aG)).setCell ⟨w1.heap.size, 5, none⟩ (.int .i64 0)).setCell ⟨w1.heap.size, 6, none⟩ (.int .i64 aC)).setCell ⟨w1.heap.size, 7, none⟩ (.bool aS)).cell? ⟨tb, toff + k, none⟩ = some (.int .i64 tm) := unhide RS _ (Lets.setCell (p := ⟨w1.heap.size, 7, none⟩) (Lets.setCell (p := ⟨w1.heap.size, 6, none⟩) (Lets.setCell (p := ⟨w1.heap.size, 5, none⟩) (Lets.setCell (p := ⟨w1.heap.size, 4, none⟩) (Lets.setCell (p := ⟨w1.heap.size, 3, none⟩) (Lets.setCell (p := ⟨w1.heap.size, 2, none⟩) (Lets.setCell (p := ⟨w1.heap.size, 1, none⟩) (Lets.setCell (p := ⟨w1.heap.size, 0, none⟩) (unhide (And.left hS3)) (Nat.le_refl _) (.int .i64 aK)) (Nat.le_refl _) (.int .i64 aE)) (Nat.le_refl _) (.int .i64 aA)) (Nat.le_refl _) (.int .i64 aT)) (Nat.le_refl _) (.int .i64 aG)) (Nat.le_refl _) (.int .i64 0)) (Nat.le_refl _) (.int .i64 aC)) (Nat.le_refl _) (.bool aS)); try (have hfh := Lets.fresh8 hk; have hfa := hfh.c8; have hfl := hfh.2; obtain ⟨⟨hx0, hx1, hx2, hx3, hx4, hx5, hx6, hx7⟩, ⟨hxf0, hxf1, hxf2, hxf3, hxf4, hxf5, hxf6, hxf7⟩⟩ := hfa)))
                        · as_aux_lemma =>
                            have HX2 : Hid (Held (w'.alloc (.cells #[.int .i64 aK, .int .i64 aE, .int .i64 aA, .int .i64 aT, .int .i64 aG, .int .i64 0, .int .i64 aC, .bool aS] 62)) w'.heap.size (na aK aE aA aT aG aC aS)) := hide (Held.fresh (w := w') (na aK aE aA aT aG aC aS) 62 rfl)
                            have HD2 := hide (hd.more (below_alloc (Below.refl _ _) (.cells #[.int .i64 aK, .int .i64 aE, .int .i64 aA, .int .i64 aT, .int .i64 aG, .int .i64 0, .int .i64 aC, .bool aS] 62)) (Nat.le_refl w'.heap.size) (by simp))
                            have HT2 := hide ((unhide (And.left hA4)).held (by simp) (unhide HT1))
                            have HK2 := hide ((unhide (And.left hA4)).held (by simp) (unhide HK1))
                            have HH2 := hide ((unhide (And.left hA4)).held (by simp) (unhide HH1))
                            have HB2 : Hid (Below w.heap.size w _) := hide ((unhide (And.left hA4)).below (unhide HB1) (unhide HB1).size)
                            try go_wp2_with fail
                            go_meet
                            exact ⟨_, rfl, rfl, HX2, HD2, HT2, HK2, HH2, HB2⟩
                        · as_aux_lemma =>
                            have HX2 : Hid (Held ((((((((w'.setCell ⟨w1.heap.size, 0, none⟩ (.int .i64 aK)).setCell ⟨w1.heap.size, 1, none⟩ (.int .i64 aE)).setCell ⟨w1.heap.size, 2, none⟩ (.int .i64 aA)).setCell ⟨w1.heap.size, 3, none⟩ (.int .i64 aT)).setCell ⟨w1.heap.size, 4, none⟩ (.int .i64 aG)).setCell ⟨w1.heap.size, 5, none⟩ (.int .i64 0)).setCell ⟨w1.heap.size, 6, none⟩ (.int .i64 aC)).setCell ⟨w1.heap.size, 7, none⟩ (.bool aS)) w1.heap.size (na aK aE aA aT aG aC aS)) := hide ((((((((hfh.put 0 (.int .i64 aK)).put 1 (.int .i64 aE)).put 2 (.int .i64 aA)).put 3 (.int .i64 aT)).put 4 (.int .i64 aG)).put 5 (.int .i64 0)).put 6 (.int .i64 aC)).put 7 (.bool aS))
                            have HD2 := hide (hd.kept (w' := ((((((((w'.setCell ⟨w1.heap.size, 0, none⟩ (.int .i64 aK)).setCell ⟨w1.heap.size, 1, none⟩ (.int .i64 aE)).setCell ⟨w1.heap.size, 2, none⟩ (.int .i64 aA)).setCell ⟨w1.heap.size, 3, none⟩ (.int .i64 aT)).setCell ⟨w1.heap.size, 4, none⟩ (.int .i64 aG)).setCell ⟨w1.heap.size, 5, none⟩ (.int .i64 0)).setCell ⟨w1.heap.size, 6, none⟩ (.int .i64 aC)).setCell ⟨w1.heap.size, 7, none⟩ (.bool aS))) (Kept.setCell (p := ⟨w1.heap.size, 7, none⟩) (Kept.setCell (p := ⟨w1.heap.size, 6, none⟩) (Kept.setCell (p := ⟨w1.heap.size, 5, none⟩) (Kept.setCell (p := ⟨w1.heap.size, 4, none⟩) (Kept.setCell (p := ⟨w1.heap.size, 3, none⟩) (Kept.setCell (p := ⟨w1.heap.size, 2, none⟩) (Kept.setCell (p := ⟨w1.heap.size, 1, none⟩) (Kept.setCell (p := ⟨w1.heap.size, 0, none⟩) (Kept.refl [w1.heap.size] w') (.inl (List.mem_singleton.2 rfl)) (.int .i64 aK)) (.inl (List.mem_singleton.2 rfl)) (.int .i64 aE)) (.inl (List.mem_singleton.2 rfl)) (.int .i64 aA)) (.inl (List.mem_singleton.2 rfl)) (.int .i64 aT)) (.inl (List.mem_singleton.2 rfl)) (.int .i64 aG)) (.inl (List.mem_singleton.2 rfl)) (.int .i64 0)) (.inl (List.mem_singleton.2 rfl)) (.int .i64 aC)) (.inl (List.mem_singleton.2 rfl)) (.bool aS)) (fun q hq => .inl (by rw [List.mem_singleton.1 hq]; simp)))
                            have HT2 := hide ((unhide (And.left hC)).held (by simp) (unhide HT1))
                            have HK2 := hide ((unhide (And.left hC)).held (by simp) (unhide HK1))
                            have HH2 := hide ((unhide (And.left hC)).held (by simp) (unhide HH1))
                            have HB2 : Hid (Below w.heap.size w _) := hide ((unhide (And.left hC)).below (unhide HB1) (unhide HB1).size)
                            try go_wp2_with fail
                            go_meet
                            exact ⟨_, rfl, rfl, HX2, HD2, HT2, HK2, HH2, HB2⟩
                      case rest =>
                        obtain ⟨bx, rfl, rfl, HX2, HD2, HT2, HK2, HH2, HB2⟩ := hcut
                        clear HT1 HK1 HH1 HD1 HB1
                        go_upto_region 22 with fail
                        go_cut [34, 35] from 63 to 242 (fun a b wx => ∃ bn : Nat, a = .pointer (some ⟨bn, 0, none⟩) ∧ b = errV E ∧ Hid (Held wx bn (na aK aE aA aT aG aC aS)) ∧ Hid (Duo w.heap.size wx s m (bn :: [bx, bh, bt, bk]) y y) ∧ Hid (Held wx bt (n4 p0 p1 p2 p3)) ∧ Hid (Held wx bk (n4 q0 q1 q2 q3)) ∧ Hid (Held wx bh (nh za v1 v2 v3 v4 v5 v6 v7 v8 zs)) ∧ Hid (Held wx bx (na aK aE aA aT aG aC aS)) ∧ Hid (Below w.heap.size w wx))
                        case first =>
                          have HT0' := (unhide HTM).2
                          obtain ⟨⟨h0, h1, h2, h3, h4, h5, h6, h7, h8, h9⟩, -⟩ := (unhide HH2).c10
                          have tmc := cell_later (unhide HB2) (unhide HTM).1
                          have hhl := (unhide HH2).2
                          have RS : Hid (∀ V : World, Lets w.heap.size [bx, bh, bt, bk] wc V → Hid (Lets w.heap.size [bx, bh, bt, bk] wc V) ∧ V.cell? ⟨bh, 0, none⟩ = some (.int .i64 za) ∧ V.cell? ⟨bh, 1, none⟩ = some (.int .i64 v1) ∧ V.cell? ⟨bh, 2, none⟩ = some (.int .i64 v2) ∧ V.cell? ⟨bh, 3, none⟩ = some (.int .i64 v3) ∧ V.cell? ⟨bh, 4, none⟩ = some (.int .i64 v4) ∧ V.cell? ⟨bh, 5, none⟩ = some (.int .i64 v5) ∧ V.cell? ⟨bh, 6, none⟩ = some (.int .i64 v6) ∧ V.cell? ⟨bh, 7, none⟩ = some (.int .i64 v7) ∧ V.cell? ⟨bh, 8, none⟩ = some (.int .i64 v8) ∧ V.cell? ⟨bh, 9, none⟩ = some (.string zs) ∧ V.cell? ⟨tb, toff + k, none⟩ = some (.int .i64 tm)) := hide (fun V hk => by
                            obtain ⟨⟨g0, g1, g2, g3, g4, g5, g6, g7, g8, g9⟩, -⟩ := (hk.held (by simp) (unhide HH2)).c10
                            exact ⟨hide hk, g0, g1, g2, g3, g4, g5, g6, g7, g8, g9, hk.cell (unhide HTM).2 (cell_later (unhide HB2) (unhide HTM).1)⟩)
                          have hR0 : Hid (Lets w.heap.size [bx, bh, bt, bk] wc wc.drew) ∧ wc.drew.cell? ⟨bh, 0, none⟩ = some (.int .i64 za) ∧ wc.drew.cell? ⟨bh, 1, none⟩ = some (.int .i64 v1) ∧ wc.drew.cell? ⟨bh, 2, none⟩ = some (.int .i64 v2) ∧ wc.drew.cell? ⟨bh, 3, none⟩ = some (.int .i64 v3) ∧ wc.drew.cell? ⟨bh, 4, none⟩ = some (.int .i64 v4) ∧ wc.drew.cell? ⟨bh, 5, none⟩ = some (.int .i64 v5) ∧ wc.drew.cell? ⟨bh, 6, none⟩ = some (.int .i64 v6) ∧ wc.drew.cell? ⟨bh, 7, none⟩ = some (.int .i64 v7) ∧ wc.drew.cell? ⟨bh, 8, none⟩ = some (.int .i64 v8) ∧ wc.drew.cell? ⟨bh, 9, none⟩ = some (.string zs) ∧ wc.drew.cell? ⟨tb, toff + k, none⟩ = some (.int .i64 tm) := unhide RS _ (Lets.refl _ _ _).drew
                          have hR1 : Hid (Lets w.heap.size [bx, bh, bt, bk] wc (wc.alloc (.cells #[.int .i64 0, .int .i64 0, .int .i64 0, .int .i64 0, .int .i64 0, .int .i64 0, .int .i64 0, .bool false] 62)).drew) ∧ (wc.alloc (.cells #[.int .i64 0, .int .i64 0, .int .i64 0, .int .i64 0, .int .i64 0, .int .i64 0, .int .i64 0, .bool false] 62)).drew.cell? ⟨bh, 0, none⟩ = some (.int .i64 za) ∧ (wc.alloc (.cells #[.int .i64 0, .int .i64 0, .int .i64 0, .int .i64 0, .int .i64 0, .int .i64 0, .int .i64 0, .bool false] 62)).drew.cell? ⟨bh, 1, none⟩ = some (.int .i64 v1) ∧ (wc.alloc (.cells #[.int .i64 0, .int .i64 0, .int .i64 0, .int .i64 0, .int .i64 0, .int .i64 0, .int .i64 0, .bool false] 62)).drew.cell? ⟨bh, 2, none⟩ = some (.int .i64 v2) ∧ (wc.alloc (.cells #[.int .i64 0, .int .i64 0, .int .i64 0, .int .i64 0, .int .i64 0, .int .i64 0, .int .i64 0, .bool false] 62)).drew.cell? ⟨bh, 3, none⟩ = some (.int .i64 v3) ∧ (wc.alloc (.cells #[.int .i64 0, .int .i64 0, .int .i64 0, .int .i64 0, .int .i64 0, .int .i64 0, .int .i64 0, .bool false] 62)).drew.cell? ⟨bh, 4, none⟩ = some (.int .i64 v4) ∧ (wc.alloc (.cells #[.int .i64 0, .int .i64 0, .int .i64 0, .int .i64 0, .int .i64 0, .int .i64 0, .int .i64 0, .bool false] 62)).drew.cell? ⟨bh, 5, none⟩ = some (.int .i64 v5) ∧ (wc.alloc (.cells #[.int .i64 0, .int .i64 0, .int .i64 0, .int .i64 0, .int .i64 0, .int .i64 0, .int .i64 0, .bool false] 62)).drew.cell? ⟨bh, 6, none⟩ = some (.int .i64 v6) ∧ (wc.alloc (.cells #[.int .i64 0, .int .i64 0, .int .i64 0, .int .i64 0, .int .i64 0, .int .i64 0, .int .i64 0, .bool false] 62)).drew.cell? ⟨bh, 7, none⟩ = some (.int .i64 v7) ∧ (wc.alloc (.cells #[.int .i64 0, .int .i64 0, .int .i64 0, .int .i64 0, .int .i64 0, .int .i64 0, .int .i64 0, .bool false] 62)).drew.cell? ⟨bh, 8, none⟩ = some (.int .i64 v8) ∧ (wc.alloc (.cells #[.int .i64 0, .int .i64 0, .int .i64 0, .int .i64 0, .int .i64 0, .int .i64 0, .int .i64 0, .bool false] 62)).drew.cell? ⟨bh, 9, none⟩ = some (.string zs) ∧ (wc.alloc (.cells #[.int .i64 0, .int .i64 0, .int .i64 0, .int .i64 0, .int .i64 0, .int .i64 0, .int .i64 0, .bool false] 62)).drew.cell? ⟨tb, toff + k, none⟩ = some (.int .i64 tm) := unhide RS _ ((Lets.refl _ _ _).alloc _).drew
                          go_region_held3 (fun w' => Hid (Lets w.heap.size [bx, bh, bt, bk] wc w') ∧ w'.cell? ⟨bh, 0, none⟩ = some (.int .i64 za) ∧ w'.cell? ⟨bh, 1, none⟩ = some (.int .i64 v1) ∧ w'.cell? ⟨bh, 2, none⟩ = some (.int .i64 v2) ∧ w'.cell? ⟨bh, 3, none⟩ = some (.int .i64 v3) ∧ w'.cell? ⟨bh, 4, none⟩ = some (.int .i64 v4) ∧ w'.cell? ⟨bh, 5, none⟩ = some (.int .i64 v5) ∧ w'.cell? ⟨bh, 6, none⟩ = some (.int .i64 v6) ∧ w'.cell? ⟨bh, 7, none⟩ = some (.int .i64 v7) ∧ w'.cell? ⟨bh, 8, none⟩ = some (.int .i64 v8) ∧ w'.cell? ⟨bh, 9, none⟩ = some (.string zs) ∧ w'.cell? ⟨tb, toff + k, none⟩ = some (.int .i64 tm)) (with_reducible assumption)
                            (first | (go_at_call 18; refine (unhide CS _ _ (by first | exact (unhide HD2).drew | exact ((unhide HD2).more (below_alloc (Below.refl _ _) (.cells #[.int .i64 0, .int .i64 0, .int .i64 0, .int .i64 0, .int .i64 0, .int .i64 0, .int .i64 0, .bool false] 62)) (Nat.le_refl wc.heap.size) (by simp)).drew)).mono ?_; rintro e w' ⟨rfl, hd, hk⟩; have hk0 : Lets w.heap.size [bx, bh, bt, bk] _ w' := Lets.less hk (by first | exact fun _ q => q | exact fun _ q => List.mem_cons_of_mem _ q); have hS3 : Hid (Lets w.heap.size [bx, bh, bt, bk] wc w') ∧ w'.cell? ⟨bh, 0, none⟩ = some (.int .i64 za) ∧ w'.cell? ⟨bh, 1, none⟩ = some (.int .i64 v1) ∧ w'.cell? ⟨bh, 2, none⟩ = some (.int .i64 v2) ∧ w'.cell? ⟨bh, 3, none⟩ = some (.int .i64 v3) ∧ w'.cell? ⟨bh, 4, none⟩ = some (.int .i64 v4) ∧ w'.cell? ⟨bh, 5, none⟩ = some (.int .i64 v5) ∧ w'.cell? ⟨bh, 6, none⟩ = some (.int .i64 v6) ∧ w'.cell? ⟨bh, 7, none⟩ = some (.int .i64 v7) ∧ w'.cell? ⟨bh, 8, none⟩ = some (.int .i64 v8) ∧ w'.cell? ⟨bh, 9, none⟩ = some (.string zs) ∧ w'.cell? ⟨tb, toff + k, none⟩ = some (.int .i64 tm) := unhide RS w' (Lets.trans (unhide (And.left ‹Hid (Lets w.heap.size [bx, bh, bt, bk] wc _) ∧ _›)) hk0); have hA3 : Hid (Lets w.heap.size [bx, bh, bt, bk] wc (w'.alloc (.cells #[.int .i64 0, .int .i64 0, .int .i64 0, .int .i64 0, .int .i64 0, .int .i64 0, .int .i64 0, .bool false] 62))) ∧ (w'.alloc (.cells #[.int .i64 0, .int .i64 0, .int .i64 0, .int .i64 0, .int .i64 0, .int .i64 0, .int .i64 0, .bool false] 62)).cell? ⟨bh, 0, none⟩ = some (.int .i64 za) ∧ (w'.alloc (.cells #[.int .i64 0, .int .i64 0, .int .i64 0, .int .i64 0, .int .i64 0, .int .i64 0, .int .i64 0, .bool false] 62)).cell? ⟨bh, 1, none⟩ = some (.int .i64 v1) ∧ (w'.alloc (.cells #[.int .i64 0, .int .i64 0, .int .i64 0, .int .i64 0, .int .i64 0, .int .i64 0, .int .i64 0, .bool false] 62)).cell? ⟨bh, 2, none⟩ = some (.int .i64 v2) ∧ (w'.alloc (.cells #[.int .i64 0, .int .i64 0, .int .i64 0, .int .i64 0, .int .i64 0, .int .i64 0, .int .i64 0, .bool false] 62)).cell? ⟨bh, 3, none⟩ = some (.int .i64 v3) ∧ (w'.alloc (.cells #[.int .i64 0, .int .i64 0, .int .i64 0, .int .i64 0, .int .i64 0, .int .i64 0, .int .i64 0, .bool false] 62)).cell? ⟨bh, 4, none⟩ = some (.int .i64 v4) ∧ (w'.alloc (.cells #[.int .i64 0, .int .i64 0, .int .i64 0, .int .i64 0, .int .i64 0, .int .i64 0, .int .i64 0, .bool false] 62)).cell? ⟨bh, 5, none⟩ = some (.int .i64 v5) ∧ (w'.alloc (.cells #[.int .i64 0, .int .i64 0, .int .i64 0, .int .i64 0, .int .i64 0, .int .i64 0, .int .i64 0, .bool false] 62)).cell? ⟨bh, 6, none⟩ = some (.int .i64 v6) ∧ (w'.alloc (.cells #[.int .i64 0, .int .i64 0, .int .i64 0, .int .i64 0, .int .i64 0, .int .i64 0, .int .i64 0, .bool false] 62)).cell? ⟨bh, 7, none⟩ = some (.int .i64 v7) ∧ (w'.alloc (.cells #[.int .i64 0, .int .i64 0, .int .i64 0, .int .i64 0, .int .i64 0, .int .i64 0, .int .i64 0, .bool false] 62)).cell? ⟨bh, 8, none⟩ = some (.int .i64 v8) ∧ (w'.alloc (.cells #[.int .i64 0, .int .i64 0, .int .i64 0, .int .i64 0, .int .i64 0, .int .i64 0, .int .i64 0, .bool false] 62)).cell? ⟨bh, 9, none⟩ = some (.string zs) ∧ (w'.alloc (.cells #[.int .i64 0, .int .i64 0, .int .i64 0, .int .i64 0, .int .i64 0, .int .i64 0, .int .i64 0, .bool false] 62)).cell? ⟨tb, toff + k, none⟩ = some (.int .i64 tm) := unhide RS _ (Lets.alloc (unhide (And.left hS3)) _); have hA4 : Hid (Lets w.heap.size [bx, bh, bt, bk] wc (w'.alloc (.cells #[.int .i64 aK, .int .i64 aE, .int .i64 aA, .int .i64 aT, .int .i64 aG, .int .i64 0, .int .i64 aC, .bool aS] 62))) ∧ (w'.alloc (.cells #[.int .i64 aK, .int .i64 aE, .int .i64 aA, .int .i64 aT, .int .i64 aG, .int .i64 0, .int .i64 aC, .bool aS] 62)).cell? ⟨bh, 0, none⟩ = some (.int .i64 za) ∧ (w'.alloc (.cells #[.int .i64 aK, .int .i64 aE, .int .i64 aA, .int .i64 aT, .int .i64 aG, .int .i64 0, .int .i64 aC, .bool aS] 62)).cell? ⟨bh, 1, none⟩ = some (.int .i64 v1) ∧ (w'.alloc (.cells #[.int .i64 aK, .int .i64 aE, .int .i64 aA, .int .i64 aT, .int .i64 aG, .int .i64 0, .int .i64 aC, .bool aS] 62)).cell? ⟨bh, 2, none⟩ = some (.int .i64 v2) ∧ (w'.alloc (.cells #[.int .i64 aK, .int .i64 aE, .int .i64 aA, .int .i64 aT, .int .i64 aG, .int .i64 0, .int .i64 aC, .bool aS] 62)).cell? ⟨bh, 3, none⟩ = some (.int .i64 v3) ∧ (w'.alloc (.cells #[.int .i64 aK, .int .i64 aE, .int .i64 aA, .int .i64 aT, .int .i64 aG, .int .i64 0, .int .i64 aC, .bool aS] 62)).cell? ⟨bh, 4, none⟩ = some (.int .i64 v4) ∧ (w'.alloc (.cells #[.int .i64 aK, .int .i64 aE, .int .i64 aA, .int .i64 aT, .int .i64 aG, .int .i64 0, .int .i64 aC, .bool aS] 62)).cell? ⟨bh, 5, none⟩ = some (.int .i64 v5) ∧ (w'.alloc (.cells #[.int .i64 aK, .int .i64 aE, .int .i64 aA, .int .i64 aT, .int .i64 aG, .int .i64 0, .int .i64 aC, .bool aS] 62)).cell? ⟨bh, 6, none⟩ = some (.int .i64 v6) ∧ (w'.alloc (.cells #[.int .i64 aK, .int .i64 aE, .int .i64 aA, .int .i64 aT, .int .i64 aG, .int .i64 0, .int .i64 aC, .bool aS] 62)).cell? ⟨bh, 7, none⟩ = some (.int .i64 v7) ∧ (w'.alloc (.cells #[.int .i64 aK, .int .i64 aE, .int .i64 aA, .int .i64 aT, .int .i64 aG, .int .i64 0, .int .i64 aC, .bool aS] 62)).cell? ⟨bh, 8, none⟩ = some (.int .i64 v8) ∧ (w'.alloc (.cells #[.int .i64 aK, .int .i64 aE, .int .i64 aA, .int .i64 aT, .int .i64 aG, .int .i64 0, .int .i64 aC, .bool aS] 62)).cell? ⟨bh, 9, none⟩ = some (.string zs) ∧ (w'.alloc (.cells #[.int .i64 aK, .int .i64 aE, .int .i64 aA, .int .i64 aT, .int .i64 aG, .int .i64 0, .int .i64 aC, .bool aS] 62)).cell? ⟨tb, toff + k, none⟩ = some (.int .i64 tm) := unhide RS _ (Lets.alloc (unhide (And.left hS3)) _); have hC : Hid (Lets w.heap.size [bx, bh, bt, bk] wc ((((((((w'.setCell ⟨wc.heap.size, 0, none⟩ (.int .i64 aK)).setCell ⟨wc.heap.size, 1, none⟩ (.int .i64 aE)).setCell ⟨wc.heap.size, 2, none⟩ (.int .i64 aA)).setCell ⟨wc.heap.size, 3, none⟩ (.int .i64 aT)).setCell ⟨wc.heap.size, 4, none⟩ (.int .i64 aG)).setCell ⟨wc.heap.size, 5, none⟩ (.int .i64 0)).setCell ⟨wc.heap.size, 6, none⟩ (.int .i64 aC)).setCell ⟨wc.heap.size, 7, none⟩ (.bool aS))) ∧ ((((((((w'.setCell ⟨wc.heap.size, 0, none⟩ (.int .i64 aK)).setCell ⟨wc.heap.size, 1, none⟩ (.int .i64 aE)).setCell ⟨wc.heap.size, 2, none⟩ (.int .i64 aA)).setCell ⟨wc.heap.size, 3, none⟩ (.int .i64 aT)).setCell ⟨wc.heap.size, 4, none⟩ (.int .i64 aG)).setCell ⟨wc.heap.size, 5, none⟩ (.int .i64 0)).setCell ⟨wc.heap.size, 6, none⟩ (.int .i64 aC)).setCell ⟨wc.heap.size, 7, none⟩ (.bool aS)).cell? ⟨bh, 0, none⟩ = some (.int .i64 za) ∧ ((((((((w'.setCell ⟨wc.heap.size, 0, none⟩ (.int .i64 aK)).setCell ⟨wc.heap.size, 1, none⟩ (.int .i64 aE)).setCell ⟨wc.heap.size, 2, none⟩ (.int .i64 aA)).setCell ⟨wc.heap.size, 3, none⟩ (.int .i64 aT)).setCell ⟨wc.heap.size, 4, none⟩ (.int .i64 aG)).setCell ⟨wc.heap.size, 5, none⟩ (.int .i64 0)).setCell ⟨wc.heap.size, 6, none⟩ (.int .i64 aC)).setCell ⟨wc.heap.size, 7, none⟩ (.bool aS)).cell? ⟨bh, 1, none⟩ = some (.int .i64 v1) ∧ ((((((((w'.setCell ⟨wc.heap.size, 0, none⟩ (.int .i64 aK)).setCell ⟨wc.heap.size, 1, none⟩ (.int .i64 aE)).setCell ⟨wc.heap.size, 2, none⟩ (.int .i64 aA)).setCell ⟨wc.heap.size, 3, none⟩ (.int .i64 aT)).setCell ⟨wc.heap.size, 4, none⟩ (.int .i64 aG)).setCell ⟨wc.heap.size, 5, none⟩ (.int .i64 0)).setCell ⟨wc.heap.size, 6, none⟩ (.int .i64 aC)).setCell ⟨wc.heap.size, 7, none⟩ (.bool aS)).cell? ⟨bh, 2, none⟩ = some (.int .i64 v2) ∧ ((((((((w'.setCell ⟨wc.heap.size, 0, none⟩ (.int .i64 aK)).setCell ⟨wc.heap.size, 1, none⟩ (.int .i64 aE)).setCell ⟨wc.heap.size, 2, none⟩ (.int .i64 aA)).setCell ⟨wc.heap.size, 3, none⟩ (.int .i64 aT)).setCell ⟨wc.heap.size, 4, none⟩ (.int .i64 aG)).setCell ⟨wc.heap.size, 5, none⟩ (.int .i64 0)).setCell ⟨wc.heap.size, 6, none⟩ (.int .i64 aC)).setCell ⟨wc.heap.size, 7, none⟩ (.bool aS)).cell? ⟨bh, 3, none⟩ = some (.int .i64 v3) ∧ ((((((((w'.setCell ⟨wc.heap.size, 0, none⟩ (.int .i64 aK)).setCell ⟨wc.heap.size, 1, none⟩ (.int .i64 aE)).setCell ⟨wc.heap.size, 2, none⟩ (.int .i64 aA)).setCell ⟨wc.heap.size, 3, none⟩ (.int .i64 aT)).setCell ⟨wc.heap.size, 4, none⟩ (.int .i64 aG)).setCell ⟨wc.heap.size, 5, none⟩ (.int .i64 0)).setCell ⟨wc.heap.size, 6, none⟩ (.int .i64 aC)).setCell ⟨wc.heap.size, 7, none⟩ (.bool aS)).cell? ⟨bh, 4, none⟩ = some (.int .i64 v4) ∧ ((((((((w'.setCell ⟨wc.heap.size, 0, none⟩ (.int .i64 aK)).setCell ⟨wc.heap.size, 1, none⟩ (.int .i64 aE)).setCell ⟨wc.heap.size, 2, none⟩ (.int .i64 aA)).setCell ⟨wc.heap.size, 3, none⟩ (.int .i64 aT)).setCell ⟨wc.heap.size, 4, none⟩ (.int .i64 aG)).setCell ⟨wc.heap.size, 5, none⟩ (.int .i64 0)).setCell ⟨wc.heap.size, 6, none⟩ (.int .i64 aC)).setCell ⟨wc.heap.size, 7, none⟩ (.bool aS)).cell? ⟨bh, 5, none⟩ = some (.int .i64 v5) ∧ ((((((((w'.setCell ⟨wc.heap.size, 0, none⟩ (.int .i64 aK)).setCell ⟨wc.heap.size, 1, none⟩ (.int .i64 aE)).setCell ⟨wc.heap.size, 2, none⟩ (.int .i64 aA)).setCell ⟨wc.heap.size, 3, none⟩ (.int .i64 aT)).setCell ⟨wc.heap.size, 4, none⟩ (.int .i64 aG)).setCell ⟨wc.heap.size, 5, none⟩ (.int .i64 0)).setCell ⟨wc.heap.size, 6, none⟩ (.int .i64 aC)).setCell ⟨wc.heap.size, 7, none⟩ (.bool aS)).cell? ⟨bh, 6, none⟩ = some (.int .i64 v6) ∧ ((((((((w'.setCell ⟨wc.heap.size, 0, none⟩ (.int .i64 aK)).setCell ⟨wc.heap.size, 1, none⟩ (.int .i64 aE)).setCell ⟨wc.heap.size, 2, none⟩ (.int .i64 aA)).setCell ⟨wc.heap.size, 3, none⟩ (.int .i64 aT)).setCell ⟨wc.heap.size, 4, none⟩ (.int .i64 aG)).setCell ⟨wc.heap.size, 5, none⟩ (.int .i64 0)).setCell ⟨wc.heap.size, 6, none⟩ (.int .i64 aC)).setCell ⟨wc.heap.size, 7, none⟩ (.bool aS)).cell? ⟨bh, 7, none⟩ = some (.int .i64 v7) ∧ ((((((((w'.setCell ⟨wc.heap.size, 0, none⟩ (.int .i64 aK)).setCell ⟨wc.heap.size, 1, none⟩ (.int .i64 aE)).setCell ⟨wc.heap.size, 2, none⟩ (.int .i64 aA)).setCell ⟨wc.heap.size, 3, none⟩ (.int .i64 aT)).setCell ⟨wc.heap.size, 4, none⟩ (.int .i64 aG)).setCell ⟨wc.heap.size, 5, none⟩ (.int .i64 0)).setCell ⟨wc.heap.size, 6, none⟩ (.int .i64 aC)).setCell ⟨wc.heap.size, 7, none⟩ (.bool aS)).cell? ⟨bh, 8, none⟩ = some (.int .i64 v8) ∧ ((((((((w'.setCell ⟨wc.heap.size, 0, none⟩ (.int .i64 aK)).setCell ⟨wc.heap.size, 1, none⟩ (.int .i64 aE)).setCell ⟨wc.heap.size, 2, none⟩ (.int .i64 aA)).setCell ⟨wc.heap.size, 3, none⟩ (.int .i64 aT)).setCell ⟨wc.heap.size, 4, none⟩ (.int .i64 aG)).setCell ⟨wc.heap.size, 5, none⟩ (.int .i64 0)).setCell ⟨wc.heap.size, 6, none⟩ (.int .i64 aC)).setCell ⟨wc.heap.size, 7, none⟩ (.bool aS)).cell? ⟨bh, 9, none⟩ = some (.string zs) ∧ ((((((((w'.setCell ⟨wc.heap.size, 0, none⟩ (.int .i64 aK)).setCell ⟨wc.heap.size, 1, none⟩ (.int .i64 aE)).setCell ⟨wc.heap.size, 2, none⟩ (.int .i64 aA)).setCell ⟨wc.heap.size, 3, none⟩ (.int .i64 aT)).setCell ⟨wc.heap.size, 4, none⟩ (.int .i64 aG)).setCell ⟨wc.heap.size, 5, none⟩ (.int .i64 0)).setCell ⟨wc.heap.size, 6, none⟩ (.int .i64 aC)).setCell ⟨wc.heap.size, 7, none⟩ (.bool aS)).cell? ⟨tb, toff + k, none⟩ = some (.int .i64 tm) := unhide RS _ (Lets.setCell (p := ⟨wc.heap.size, 7, none⟩) (Lets.setCell (p := ⟨wc.heap.size, 6, none⟩) (Lets.setCell (p := ⟨wc.heap.size, 5, none⟩) (Lets.setCell (p := ⟨wc.heap.size, 4, none⟩) (Lets.setCell (p := ⟨wc.heap.size, 3, none⟩) (Lets.setCell (p := ⟨wc.heap.size, 2, none⟩) (Lets.setCell (p := ⟨wc.heap.size, 1, none⟩) (Lets.setCell (p := ⟨wc.heap.size, 0, none⟩) (unhide (And.left hS3)) (Nat.le_refl _) (.int .i64 aK)) (Nat.le_refl _) (.int .i64 aE)) (Nat.le_refl _) (.int .i64 aA)) (Nat.le_refl _) (.int .i64 aT)) (Nat.le_refl _) (.int .i64 aG)) (Nat.le_refl _) (.int .i64 0)) (Nat.le_refl _) (.int .i64 aC)) (Nat.le_refl _) (.bool aS)); try (have hfh := Lets.fresh8 hk; have hfa := hfh.c8; have hfl := hfh.2; obtain ⟨⟨hx0, hx1, hx2, hx3, hx4, hx5, hx6, hx7⟩, ⟨hxf0, hxf1, hxf2, hxf3, hxf4, hxf5, hxf6, hxf7⟩⟩ := hfa)))
                          · as_aux_lemma =>
                              have HY3 : Hid (Held (w'.alloc (.cells #[.int .i64 aK, .int .i64 aE, .int .i64 aA, .int .i64 aT, .int .i64 aG, .int .i64 0, .int .i64 aC, .bool aS] 62)) w'.heap.size (na aK aE aA aT aG aC aS)) := hide (Held.fresh (w := w') (na aK aE aA aT aG aC aS) 62 rfl)
                              have HD3 := hide (hd.more (below_alloc (Below.refl _ _) (.cells #[.int .i64 aK, .int .i64 aE, .int .i64 aA, .int .i64 aT, .int .i64 aG, .int .i64 0, .int .i64 aC, .bool aS] 62)) (Nat.le_refl w'.heap.size) (by simp))
                              have HT3 := hide ((unhide (And.left hA4)).held (by simp) (unhide HT2))
                              have HK3 := hide ((unhide (And.left hA4)).held (by simp) (unhide HK2))
                              have HH3 := hide ((unhide (And.left hA4)).held (by simp) (unhide HH2))
                              have HX3 := hide ((unhide (And.left hA4)).held (by simp) (unhide HX2))
                              have HB3 : Hid (Below w.heap.size w _) := hide ((unhide (And.left hA4)).below (unhide HB2) (unhide HB2).size)
                              try go_wp2_with fail
                              go_meet
                              exact ⟨_, rfl, rfl, HY3, HD3, HT3, HK3, HH3, HX3, HB3⟩
                          · as_aux_lemma =>
                              have HY3 : Hid (Held ((((((((w'.setCell ⟨wc.heap.size, 0, none⟩ (.int .i64 aK)).setCell ⟨wc.heap.size, 1, none⟩ (.int .i64 aE)).setCell ⟨wc.heap.size, 2, none⟩ (.int .i64 aA)).setCell ⟨wc.heap.size, 3, none⟩ (.int .i64 aT)).setCell ⟨wc.heap.size, 4, none⟩ (.int .i64 aG)).setCell ⟨wc.heap.size, 5, none⟩ (.int .i64 0)).setCell ⟨wc.heap.size, 6, none⟩ (.int .i64 aC)).setCell ⟨wc.heap.size, 7, none⟩ (.bool aS)) wc.heap.size (na aK aE aA aT aG aC aS)) := hide ((((((((hfh.put 0 (.int .i64 aK)).put 1 (.int .i64 aE)).put 2 (.int .i64 aA)).put 3 (.int .i64 aT)).put 4 (.int .i64 aG)).put 5 (.int .i64 0)).put 6 (.int .i64 aC)).put 7 (.bool aS))
                              have HD3 := hide (hd.kept (w' := ((((((((w'.setCell ⟨wc.heap.size, 0, none⟩ (.int .i64 aK)).setCell ⟨wc.heap.size, 1, none⟩ (.int .i64 aE)).setCell ⟨wc.heap.size, 2, none⟩ (.int .i64 aA)).setCell ⟨wc.heap.size, 3, none⟩ (.int .i64 aT)).setCell ⟨wc.heap.size, 4, none⟩ (.int .i64 aG)).setCell ⟨wc.heap.size, 5, none⟩ (.int .i64 0)).setCell ⟨wc.heap.size, 6, none⟩ (.int .i64 aC)).setCell ⟨wc.heap.size, 7, none⟩ (.bool aS))) (Kept.setCell (p := ⟨wc.heap.size, 7, none⟩) (Kept.setCell (p := ⟨wc.heap.size, 6, none⟩) (Kept.setCell (p := ⟨wc.heap.size, 5, none⟩) (Kept.setCell (p := ⟨wc.heap.size, 4, none⟩) (Kept.setCell (p := ⟨wc.heap.size, 3, none⟩) (Kept.setCell (p := ⟨wc.heap.size, 2, none⟩) (Kept.setCell (p := ⟨wc.heap.size, 1, none⟩) (Kept.setCell (p := ⟨wc.heap.size, 0, none⟩) (Kept.refl [wc.heap.size] w') (.inl (List.mem_singleton.2 rfl)) (.int .i64 aK)) (.inl (List.mem_singleton.2 rfl)) (.int .i64 aE)) (.inl (List.mem_singleton.2 rfl)) (.int .i64 aA)) (.inl (List.mem_singleton.2 rfl)) (.int .i64 aT)) (.inl (List.mem_singleton.2 rfl)) (.int .i64 aG)) (.inl (List.mem_singleton.2 rfl)) (.int .i64 0)) (.inl (List.mem_singleton.2 rfl)) (.int .i64 aC)) (.inl (List.mem_singleton.2 rfl)) (.bool aS)) (fun q hq => .inl (by rw [List.mem_singleton.1 hq]; simp)))
                              have HT3 := hide ((unhide (And.left hC)).held (by simp) (unhide HT2))
                              have HK3 := hide ((unhide (And.left hC)).held (by simp) (unhide HK2))
                              have HH3 := hide ((unhide (And.left hC)).held (by simp) (unhide HH2))
                              have HX3 := hide ((unhide (And.left hC)).held (by simp) (unhide HX2))
                              have HB3 : Hid (Below w.heap.size w _) := hide ((unhide (And.left hC)).below (unhide HB2) (unhide HB2).size)
                              try go_wp2_with fail
                              go_meet
                              exact ⟨_, rfl, rfl, HY3, HD3, HT3, HK3, HH3, HX3, HB3⟩
                        case rest =>
                          obtain ⟨bz, rfl, rfl, HY3, HD3, HT3, HK3, HH3, HX3, HB3⟩ := hcut
                          clear HT2 HK2 HH2 HX2 HD2 HB2
                          by_cases hE : E = 0
                          · subst hE
                            rw [errV_zero rfl]
                            by_cases hK : aK = 0
                            · as_aux_lemma =>
                                subst hK
                                go_wp2_with fail
                                refine (same_nil _ _).mono ?_
                                rintro e w4 ⟨rfl, hb4⟩
                                have HT4 := hide ((unhide HT3).later hb4)
                                have HK4 := hide ((unhide HK3).later hb4)
                                have HH4 := hide ((unhide HH3).later hb4)
                                have HX4 := hide ((unhide HX3).later hb4)
                                have HY4 := hide ((unhide HY3).later hb4)
                                have HD4 := hide ((unhide HD3).later hb4)
                                have HB4 : Hid (Below w.heap.size w w4) := hide (bel3 (unhide HB3) (Below.refl _ _) hb4)
                                clear HT3 HK3 HH3 HX3 HY3 HD3 HB3 hb4
                                obtain ⟨x0, x1, x2, x3, x4, x5, x6, x7⟩ := (unhide HX4).c8.1
                                have xl := (unhide HX4).2
                                obtain ⟨y0, y1, y2, y3, y4, y5, y6, y7⟩ := (unhide HY4).c8.1
                                have yl := (unhide HY4).2
                                obtain ⟨t0, t1, t2, t3⟩ := (unhide HT4).c4.1
                                have tl := (unhide HT4).2
                                obtain ⟨tf0, tf1, tf2, tf3⟩ := (unhide HT4).c4.2
                                go_upto_region 49 with fail
                                clear HH4
                                clear HX4
                                clear HY4
                                clear x0 x1 x2 x3 x4 x5 x6 x7 xl y0 y1 y2 y3 y4 y5 y6 y7 yl t0 t1 t2 t3 tl tf0 tf1 tf2 tf3
                                have HT5 : Hid (Held ((((w4.setCell ⟨bt, 0, none⟩ (.int .i64 aE)).setCell ⟨bt, 1, none⟩ (.int .i64 aA)).setCell ⟨bt, 2, none⟩ (.int .i64 aT)).setCell ⟨bt, 3, none⟩ (.int .i64 aG)) bt (n4 aE aA aT aG)) := hide (((((unhide HT4).put 0 (.int .i64 aE)).put 1 (.int .i64 aA)).put 2 (.int .i64 aT)).put 3 (.int .i64 aG))
                                have HK5 : Hid (Held ((((w4.setCell ⟨bt, 0, none⟩ (.int .i64 aE)).setCell ⟨bt, 1, none⟩ (.int .i64 aA)).setCell ⟨bt, 2, none⟩ (.int .i64 aT)).setCell ⟨bt, 3, none⟩ (.int .i64 aG)) bk _) := hide (((((unhide HK4).far (c := bt) (by omega) 0 _).far (c := bt) (by omega) 1 _).far (c := bt) (by omega) 2 _).far (c := bt) (by omega) 3 _)
                                have HD5 := hide ((unhide HD4).kept (Kept.setCell (p := ⟨bt, 3, none⟩) (Kept.setCell (p := ⟨bt, 2, none⟩) (Kept.setCell (p := ⟨bt, 1, none⟩) (Kept.setCell (p := ⟨bt, 0, none⟩) (Kept.refl [bt] w4) (.inl (List.mem_singleton.2 rfl)) (.int .i64 aE)) (.inl (List.mem_singleton.2 rfl)) (.int .i64 aA)) (.inl (List.mem_singleton.2 rfl)) (.int .i64 aT)) (.inl (List.mem_singleton.2 rfl)) (.int .i64 aG)) (fun q hq => .inl (by rw [List.mem_singleton.1 hq]; simp)))
                                have HB5 : Hid (Below w.heap.size w ((((w4.setCell ⟨bt, 0, none⟩ (.int .i64 aE)).setCell ⟨bt, 1, none⟩ (.int .i64 aA)).setCell ⟨bt, 2, none⟩ (.int .i64 aT)).setCell ⟨bt, 3, none⟩ (.int .i64 aG))) := hide ((Kept.setCell (p := ⟨bt, 3, none⟩) (Kept.setCell (p := ⟨bt, 2, none⟩) (Kept.setCell (p := ⟨bt, 1, none⟩) (Kept.setCell (p := ⟨bt, 0, none⟩) (Kept.refl [bt] w4) (.inl (List.mem_singleton.2 rfl)) (.int .i64 aE)) (.inl (List.mem_singleton.2 rfl)) (.int .i64 aA)) (.inl (List.mem_singleton.2 rfl)) (.int .i64 aT)) (.inl (List.mem_singleton.2 rfl)) (.int .i64 aG)).below (unhide HB4) (unhide HB4).size (fun q hq => by rw [List.mem_singleton.1 hq]; first | exact zt | exact zk))
                                clear HT4 HK4 HD4 HB4
                                generalize ((((w4.setCell ⟨bt, 0, none⟩ (.int .i64 aE)).setCell ⟨bt, 1, none⟩ (.int .i64 aA)).setCell ⟨bt, 2, none⟩ (.int .i64 aT)).setCell ⟨bt, 3, none⟩ (.int .i64 aG)) = w5 at HT5 HK5 HD5 HB5 ⊢
                                go_upto_region 49 with fail
                                obtain ⟨wa, wc, wq, -⟩ := (unhide HD5).wait
                                have wl := (unhide HD5).lt.2
                                have CW := hide (fun V (hV : Below w5.heap.size w5 V) => ((unhide HD5).later hV).waits (unhide GY).len)
                                generalize y.L.length = ln at wq CW
                                have RS : Hid (∀ V : World, Below w5.heap.size w5 V → Hid (Below w5.heap.size w5 V) ∧ V.cell? ⟨m, 4, none⟩ = some (.slice wa ln wc)) := hide (fun V hV => ⟨hide hV, cell_later hV wq⟩)
                                go_region_held3 (fun w' => Hid (Below w5.heap.size w5 w') ∧ w'.cell? ⟨m, 4, none⟩ = some (.slice wa ln wc)) (first | exact unhide RS _ (Below.trans (unhide (And.left ‹Hid (Below w5.heap.size w5 _) ∧ _›)) (hbW.mono (unhide (And.left ‹Hid (Below w5.heap.size w5 _) ∧ _›)).size)) | exact unhide RS _ (Below.refl _ _).drew | exact unhide RS _ (unhide (And.left ‹Hid (Below w5.heap.size w5 _) ∧ _›)).drew)
                                  (first | (go_at_call 19; refine (unhide CW _ (unhide (And.left ‹Hid (Below w5.heap.size w5 _) ∧ _›))).mono ?_; rintro e w6 ⟨rfl, hbW⟩))
                                have hbx := unhide (And.left ‹Hid (Below w5.heap.size w5 _) ∧ _›)
                                have HT6 := hide ((unhide HT5).later hbx)
                                have HK6 := hide ((unhide HK5).later hbx)
                                have HD6 := hide (((unhide HD5).later hbx).less (G' := [bt, bk]) (by simp))
                                have HB6 : Hid (Below w.heap.size w w6) := hide (bel3 (unhide HB5) (Below.refl _ _) hbx)
                                clear hbx hbW RS CW wq wl
                                go_wp2
                                go_roundw
                                case rel => exact ⟨k + 1, y, aE, aA, aT, aG, q0, q1, q2, q3, by omega, rfl, by go_num, GY, HD6, HT6, HK6, HB6⟩
                                case measure => simp [intOf]; omega
                            · as_aux_lemma =>
                                have hK2 := beq_no hK
                                go_wp2_with fail
                                refine (same_nil _ _).mono ?_
                                rintro e w4 ⟨rfl, hb4⟩
                                have HT4 := hide ((unhide HT3).later hb4)
                                have HK4 := hide ((unhide HK3).later hb4)
                                have HH4 := hide ((unhide HH3).later hb4)
                                have HX4 := hide ((unhide HX3).later hb4)
                                have HY4 := hide ((unhide HY3).later hb4)
                                have HD4 := hide ((unhide HD3).later hb4)
                                have HB4 : Hid (Below w.heap.size w w4) := hide (bel3 (unhide HB3) (Below.refl _ _) hb4)
                                clear HT3 HK3 HH3 HX3 HY3 HD3 HB3 hb4
                                obtain ⟨x0, x1, x2, x3, x4, x5, x6, x7⟩ := (unhide HX4).c8.1
                                have xl := (unhide HX4).2
                                obtain ⟨y0, y1, y2, y3, y4, y5, y6, y7⟩ := (unhide HY4).c8.1
                                have yl := (unhide HY4).2
                                go_upto_region 49 with fail
                                clear x0 x1 x2 x3 x4 x5 x6 x7 xl y0 y1 y2 y3 y4 y5 y6 y7 yl
                                go_upto_region 49 with fail
                                obtain ⟨wa, wc, wq, -⟩ := (unhide HD4).wait
                                have wl := (unhide HD4).lt.2
                                have CW := hide (fun V (hV : Below w4.heap.size w4 V) => ((unhide HD4).later hV).waits (unhide GY).len)
                                generalize y.L.length = ln at wq CW
                                have RS : Hid (∀ V : World, Below w4.heap.size w4 V → Hid (Below w4.heap.size w4 V) ∧ V.cell? ⟨m, 4, none⟩ = some (.slice wa ln wc)) := hide (fun V hV => ⟨hide hV, cell_later hV wq⟩)
                                go_region_held3 (fun w' => Hid (Below w4.heap.size w4 w') ∧ w'.cell? ⟨m, 4, none⟩ = some (.slice wa ln wc)) (first | exact unhide RS _ (Below.trans (unhide (And.left ‹Hid (Below w4.heap.size w4 _) ∧ _›)) (hbW.mono (unhide (And.left ‹Hid (Below w4.heap.size w4 _) ∧ _›)).size)) | exact unhide RS _ (Below.refl _ _).drew | exact unhide RS _ (unhide (And.left ‹Hid (Below w4.heap.size w4 _) ∧ _›)).drew)
                                  (first | (go_at_call 19; refine (unhide CW _ (unhide (And.left ‹Hid (Below w4.heap.size w4 _) ∧ _›))).mono ?_; rintro e w5 ⟨rfl, hbW⟩))
                                have hbx := unhide (And.left ‹Hid (Below w4.heap.size w4 _) ∧ _›)
                                have HT5 := hide ((unhide HT4).later hbx)
                                have HK5 := hide ((unhide HK4).later hbx)
                                have HD5 := hide (((unhide HD4).later hbx).less (G' := [bt, bk]) (by simp))
                                have HB5 : Hid (Below w.heap.size w w5) := hide (bel3 (unhide HB4) (Below.refl _ _) hbx)
                                clear hbx hbW RS CW wq wl
                                go_wp2
                                go_roundw
                                case rel => exact ⟨k + 1, y, p0, p1, p2, p3, q0, q1, q2, q3, by omega, rfl, by go_num, GY, HD5, HT5, HK5, HB5⟩
                                case measure => simp [intOf]; omega
                          · as_aux_lemma =>
                              rw [errV_pos hE]
                              go_wp2_with fail
                              refine (same_errno E E _ ((unhide HG).later (unhide HB3))).mono ?_
                              rintro e w4 ⟨rfl, hb4⟩
                              have HT4 := hide ((unhide HT3).later hb4)
                              have HK4 := hide ((unhide HK3).later hb4)
                              have HH4 := hide ((unhide HH3).later hb4)
                              have HX4 := hide ((unhide HX3).later hb4)
                              have HY4 := hide ((unhide HY3).later hb4)
                              have HD4 := hide ((unhide HD3).later hb4)
                              have HB4 : Hid (Below w.heap.size w w4) := hide (bel3 (unhide HB3) (Below.refl _ _) hb4)
                              clear HT3 HK3 HH3 HX3 HY3 HD3 HB3 hb4
                              obtain ⟨x0, x1, x2, x3, x4, x5, x6, x7⟩ := (unhide HX4).c8.1
                              have xl := (unhide HX4).2
                              obtain ⟨y0, y1, y2, y3, y4, y5, y6, y7⟩ := (unhide HY4).c8.1
                              have yl := (unhide HY4).2
                              go_upto_region 49 with fail
                              clear x0 x1 x2 x3 x4 x5 x6 x7 xl y0 y1 y2 y3 y4 y5 y6 y7 yl
                              go_upto_region 49 with fail
                              obtain ⟨wa, wc, wq, -⟩ := (unhide HD4).wait
                              have wl := (unhide HD4).lt.2
                              have CW := hide (fun V (hV : Below w4.heap.size w4 V) => ((unhide HD4).later hV).waits (unhide GY).len)
                              generalize y.L.length = ln at wq CW
                              have RS : Hid (∀ V : World, Below w4.heap.size w4 V → Hid (Below w4.heap.size w4 V) ∧ V.cell? ⟨m, 4, none⟩ = some (.slice wa ln wc)) := hide (fun V hV => ⟨hide hV, cell_later hV wq⟩)
                              go_region_held3 (fun w' => Hid (Below w4.heap.size w4 w') ∧ w'.cell? ⟨m, 4, none⟩ = some (.slice wa ln wc)) (first | exact unhide RS _ (Below.trans (unhide (And.left ‹Hid (Below w4.heap.size w4 _) ∧ _›)) (hbW.mono (unhide (And.left ‹Hid (Below w4.heap.size w4 _) ∧ _›)).size)) | exact unhide RS _ (Below.refl _ _).drew | exact unhide RS _ (unhide (And.left ‹Hid (Below w4.heap.size w4 _) ∧ _›)).drew)
                                (first | (go_at_call 19; refine (unhide CW _ (unhide (And.left ‹Hid (Below w4.heap.size w4 _) ∧ _›))).mono ?_; rintro e w5 ⟨rfl, hbW⟩))
                              have hbx := unhide (And.left ‹Hid (Below w4.heap.size w4 _) ∧ _›)
                              have HT5 := hide ((unhide HT4).later hbx)
                              have HK5 := hide ((unhide HK4).later hbx)
                              have HD5 := hide (((unhide HD4).later hbx).less (G' := [bt, bk]) (by simp))
                              have HB5 : Hid (Below w.heap.size w w5) := hide (bel3 (unhide HB4) (Below.refl _ _) hbx)
                              clear hbx hbW RS CW wq wl
                              go_wp2
                              go_roundw
                              case rel => exact ⟨k + 1, y, p0, p1, p2, p3, q0, q1, q2, q3, by omega, rfl, by go_num, GY, HD5, HT5, HK5, HB5⟩
                              case measure => simp [intOf]; omega
          · go_wp2
            go_ret
            exact ⟨rfl, unhide HB0⟩
        · go_wp2
          go_ret
          exact ⟨rfl, unhide HB0⟩
      · go_wp2
        go_ret
        exact ⟨rfl, unhide HB0⟩
    · go_wp2
      go_ret
      exact ⟨rfl, unhide HB0⟩

theorem walk (seed long : Int) (a0 : Option Addr) (len0 cap0 : Nat) (z0 : List Int) (a1 : Option Addr) (len1 cap1 : Nat) (Z1 : Nat → ServM.Hi) (a2 : Option Addr) (len2 cap2 : Nat) (z2 : List Int) (w : World) (_w0 : (Lit.int .i64 seed).wf = true) (_w1 : (Lit.int .i64 long).wf = true) (w2 : IsRow .i64 w a0 len0 cap0 z0) (w3 : IsHellos w a1 len1 cap1 Z1) (w4 : IsRow .i64 w a2 len2 cap2 z2) (hg : ErrType w) :
    Calls Tryz.prog 3 #[.int .i64 seed, .int .i64 long, .slice a0 len0 cap0, .slice a1 len1 cap1, .slice a2 len2 cap2] w fun e w' => e = .returned (.bool true) ∧ Below w.heap.size w w' := by
  obtain ⟨ds, hdl, hdi, _, _⟩ := row_ints rfl w2
  obtain ⟨ts, htl, hti, _, _⟩ := row_ints rfl w4
  cases hb : (TagM.inB seed && TokenM.timeB long) with
  | false => exact walk_bad seed long a0 len0 cap0 ds a1 len1 cap1 Z1 a2 len2 cap2 ts w hg hb
  | true =>
    obtain ⟨hs, hl⟩ := Bool.and_eq_true_iff.1 hb
    obtain ⟨s0, s1⟩ := (TagM.inB_iff seed).1 hs
    exact walk1 seed long a0 len0 cap0 ds a1 len1 cap1 Z1 a2 len2 cap2 ts w hdl hdi w3 htl hti hg s0 s1 hl


theorem gErr : Tryz.prog.globalNamed "errors.errorType" = some 0 := by kernel_rfl
theorem rtErr : (Tryz.prog.cutTypes.find? (·.1 == "internal/reflectlite.rtype")).map (·.2) = some 159 := by kernel_rfl
theorem oneRow : ((List.range 209).filter fun t => Tryz.prog.rowNamed t [101, 114, 114, 111, 114]) = [27] := by kernel_rfl
theorem sizeT : Tryz.prog.types.size = 209 := by kernel_rfl
theorem handle_of_laid {W : World} (h : laidMetH Tryz.prog Rows.serverPlaysRow.laid W) : ErrType W := by
  have h' : laidMet Tryz.prog [] W ∧ handlesMet Tryz.prog Rows.serverPlaysRow.laid W := h
  obtain ⟨name, u, ty, e1, e2, e3, e4, e5⟩ := h'.2 _ (List.mem_singleton.2 rfl)
  have en : name = [101, 114, 114, 111, 114] := (Option.some.inj e1).symm
  subst en
  obtain rfl := Option.some.inj (rtErr.symm.trans e2)
  have hm : ty ∈ (List.range 209).filter fun t => Tryz.prog.rowNamed t [101, 114, 114, 111, 114] := List.mem_filter.2 ⟨List.mem_range.2 (by rw [← sizeT]; exact e3), e4⟩
  rw [oneRow] at hm
  obtain rfl := List.mem_singleton.1 hm
  have hh : typeHandle Tryz.prog 27 = .pointer (some ⟨1, 27, none⟩) := by kernel_rfl
  rw [hh] at e5
  unfold ErrType
  simpa using World.var?_cell gErr e5 0
theorem door_met (os : Os) (args : Array Value) : laidMetH Tryz.prog Rows.serverPlaysRow.laid ((World.doorLaid Tryz.prog 400 os).forCall (fun _ _ => 0) ⟨#[], args, []⟩).memory :=
  laidMetH_of_parts (laidMet_nil _ _) (by kernel_rfl)


set_option maxRecDepth 100000 in
theorem lifted (os : Os) (started : os.Started) (H : Type) (enc : TypeId × Value → H) :
    ReturnsInHanded {} Tryz.checked os 3 .any (fun w args => (Rows.serverPlaysSpec.pre enc Tryz.prog Tryz.f3 [] false w args ∧ laidMetH Tryz.prog Rows.serverPlaysRow.laid w) ∧ sizedMet enc Tryz.prog Tryz.f3 (OpenSpec.ofChange Rows.serverPlaysSpec) false w args) (Rows.serverPlaysSpec.post enc Tryz.prog Tryz.f3 false true false false) := by
  refine returnsInHanded_of_change_and (C := Tryz.checked) (X := fun w _ => laidMetH Tryz.prog Rows.serverPlaysRow.laid w) (fun _ _ _ hh h => h.of_heap hh) own started (by kernel_rfl) Tryz.func3
    (ChangeSpec.witness_shaped (enc := enc) (C := Tryz.checked) (os := os) (X := fun w _ => laidMetH Tryz.prog Rows.serverPlaysRow.laid w) false (World.doorLaid Tryz.prog 400 os) #[.int .i64 0, .int .i64 0, .slice none 0 0, .slice none 0 0, .slice none 0 0] 8 rfl (World.shaped_of_RefB (by kernel_rfl) (by kernel_rfl)) (by kernel_rfl) (by kernel_rfl) (by kernel_rfl) (door_met os _)) ?_
  intro W base args ds gs before hval0 hW _ hsz hL _
  have hg := handle_of_laid hL
  have hval : ∀ (j : Nat) t v, Tryz.f3.params[j]? = some t → args[j]? = some v → Value.okWide Tryz.prog W .any base t v := hval0
  have hW' := hW
  obtain ⟨p, q, hA0, hV, rfl, hfz, hnd⟩ := hW
  have hA : DataW.TrodAll enc Tryz.prog W 0 (fun _ => true) true Tryz.f3.params.toList args.toList ds p := hA0
  rw [Tryz.params3] at hA hval
  obtain ⟨v0, vs0, d0, ds0, p0, q0, hargs, rfl, rfl, h0, r0⟩ := trodAll_cons hA
  obtain ⟨v1, vs1, d1, ds1, p1, q1, rfl, rfl, rfl, h1, r1⟩ := trodAll_cons r0
  obtain ⟨v2, vs2, d2, ds2, p2, q2, rfl, rfl, rfl, h2, r2⟩ := trodAll_cons r1
  obtain ⟨v3, vs3, d3, ds3, p3, q3, rfl, rfl, rfl, h3, r3⟩ := trodAll_cons r2
  obtain ⟨v4, vs4, d4, ds4, p4, q4, rfl, rfl, rfl, h4, r4⟩ := trodAll_cons r3
  obtain ⟨rfl, rfl, rfl⟩ := trodAll_nil r4
  obtain rfl : args = #[v0, v1, v2, v3, v4] := by cases args; simp_all
  obtain ⟨rfl, rfl⟩ := trodVars_none hV
  have k0 := h0
  have lt0 : ∀ x ∈ p0, x.block < W.heap.size := by obtain ⟨m, hm⟩ := k0; exact DataW.trod_lt m _ _ _ hm
  obtain ⟨a0, rfl, rfl, rfl, w0⟩ := open_int Tryz.underlying3 (hval 0 3 v0 rfl rfl) h0
  have k1 := h1
  have lt1 : ∀ x ∈ p1, x.block < W.heap.size := by obtain ⟨m, hm⟩ := k1; exact DataW.trod_lt m _ _ _ hm
  obtain ⟨a1, rfl, rfl, rfl, w1⟩ := open_int Tryz.underlying3 (hval 1 3 v1 rfl rfl) h1
  have k2 := h2
  have lt2 : ∀ x ∈ p2, x.block < W.heap.size := by obtain ⟨m, hm⟩ := k2; exact DataW.trod_lt m _ _ _ hm
  obtain ⟨a2, len2, cap2, rfl⟩ := okWide_slice Tryz.underlying22 (hval 2 22 v2 rfl rfl)
  obtain ⟨z2, w2⟩ : ∃ zs, IsRow .i64 W a2 len2 cap2 zs := by
    obtain ⟨fuel, hf⟩ := h2
    rcases open_ints Tryz.underlying22 Tryz.underlying3 (by kernel_rfl) hf with ⟨hcs, _⟩ | ⟨x, l, c, zs, hcs, _, hl, hm, hz, _, hcell, hwz⟩
    · simp [Value.cells] at hcs
      obtain ⟨rfl, rfl, rfl⟩ := hcs
      exact ⟨[], .inl ⟨rfl, rfl, rfl, rfl⟩⟩
    · simp [Value.cells] at hcs
      obtain ⟨rfl, rfl, rfl⟩ := hcs
      exact ⟨zs, .inr ⟨_, rfl, hl, hm, by simpa using hz, hcell, hwz⟩⟩
  have k3 := h3
  have lt3 : ∀ x ∈ p3, x.block < W.heap.size := by obtain ⟨m, hm⟩ := k3; exact DataW.trod_lt m _ _ _ hm
  obtain ⟨a3, len3, cap3, rfl⟩ := okWide_slice Tryz.underlying23 (hval 3 23 v3 rfl rfl)
  obtain ⟨Z3, w3⟩ : ∃ Z, IsHellos W a3 len3 cap3 Z := by
    obtain ⟨fuel, hf⟩ := h3
    exact open_hellos (by simp [Value.cells]) hf
  have k4 := h4
  have lt4 : ∀ x ∈ p4, x.block < W.heap.size := by obtain ⟨m, hm⟩ := k4; exact DataW.trod_lt m _ _ _ hm
  obtain ⟨a4, len4, cap4, rfl⟩ := okWide_slice Tryz.underlying22 (hval 4 22 v4 rfl rfl)
  obtain ⟨z4, w4⟩ : ∃ zs, IsRow .i64 W a4 len4 cap4 zs := by
    obtain ⟨fuel, hf⟩ := h4
    rcases open_ints Tryz.underlying22 Tryz.underlying3 (by kernel_rfl) hf with ⟨hcs, _⟩ | ⟨x, l, c, zs, hcs, _, hl, hm, hz, _, hcell, hwz⟩
    · simp [Value.cells] at hcs
      obtain ⟨rfl, rfl, rfl⟩ := hcs
      exact ⟨[], .inl ⟨rfl, rfl, rfl, rfl⟩⟩
    · simp [Value.cells] at hcs
      obtain ⟨rfl, rfl, rfl⟩ := hcs
      exact ⟨zs, .inr ⟨_, rfl, hl, hm, by simpa using hz, hcell, hwz⟩⟩
  clear hA0 hval0
  refine (walk a0 a1 a2 len2 cap2 z2 a3 len3 cap3 Z3 a4 len4 cap4 z4 W w0 w1 w2 w3 w4 hg).mono fun e W' ⟨he, bel⟩ => ?_
  subst he
  exact ⟨_, rfl, _, _, _, [], _, [], hW', trodAll_mk1 (shut_bool Tryz.underlying4 _), (trodAll_cons_mk (Below.trod laidOut (by kernel_rfl) (of_decide_eq_true (by kernel_rfl)) k0 bel lt0) (trodAll_cons_mk (Below.trod laidOut (by kernel_rfl) (of_decide_eq_true (by kernel_rfl)) k1 bel lt1) (trodAll_cons_mk (Below.trod laidOut (by kernel_rfl) (of_decide_eq_true (by kernel_rfl)) k2 bel lt2) (trodAll_cons_mk (Below.trod laidOut (by kernel_rfl) (of_decide_eq_true (by kernel_rfl)) k3 bel lt3) (trodAll_cons_mk (Below.trod laidOut (by kernel_rfl) (of_decide_eq_true (by kernel_rfl)) k4 bel lt4) trodAll_mk0))))), rfl, bel.frame _, fun h => by cases h⟩

theorem over : Rows.serverPlaysRow.holds Tryz.pinned (OpenSpec.ofChange Rows.serverPlaysSpec) :=
  OpenClaim.holds_of_wide 3 Tryz.f3 rfl rfl rfl rfl rfl rfl rfl ⟨rfl, rfl, rfl, rfl, rfl⟩ rfl rfl rfl rfl rfl (by kernel_rfl) Tryz.func3 (by kernel_rfl)
    (of_decide_eq_true (by kernel_rfl)) (by unfold Func.isWrapper; first | (rw [if_pos (by decide +kernel)]; kernel_rfl) | (rw [if_neg (by decide +kernel)]; exact ⟨rfl, rfl⟩))
    (fun os started H enc _ => lifted os started H enc)

theorem card : Rows.ServerPlaysCardSaid :=
  Claim7.holds_tied_plain_at .later [] [.handle] true (true, "de6177f1bc0b4e22dc3ddd0dce2de92bfa3214ef290e2d420a4c732351dd2dba") true
    over (fun _ h => by cases h) (by kernel_rfl) (fun _ h => by cases h) serverPlays_row_tie rfl ⟨rfl, rfl⟩ (by kernel_rfl) rfl
    (fun f fn hf hfn => by
      obtain rfl : f = 3 := Option.some.inj ((show Tryz.prog.funcNamed "tokenfold/foldlaw2.ServerPlays" = some 3 by kernel_rfl).symm.trans hf) |>.symm
      obtain rfl : fn = Tryz.f3 := (Option.some.inj (Tryz.func3.symm.trans hfn)).symm
      exact ⟨by kernel_rfl, fun j t ht => by
        rw [Tryz.params3] at ht
        have hm : t ∈ [3, 3, 22, 23, 22] := by simpa using Array.mem_of_getElem? ht
        have hall : ([3, 3, 22, 23, 22].all fun u => !Tryz.prog.wantsStandIn u) = true := by kernel_rfl
        exact (show Tryz.prog.wantsStandIn t = false by simpa using List.all_eq_true.1 hall t hm)⟩)
    (by kernel_rfl)

end Go.Proofs.YtimilfnbbimipajGreatDoor.serverPlays
namespace Go.Proofs.YtimilfnbbimipajGreatDoor
theorem serverPlays_holds : Rows.ServerPlaysCardSaid := serverPlays.card
#print axioms serverPlays_holds
end Go.Proofs.YtimilfnbbimipajGreatDoor

