/-
  What the reference's queue comes to, said of who waits: Place, Offer, Out; and foldsame.Conns of two that read alike.
-/
import Derived.Test.YtccphnljogjbiagDoorQueueWalks
import Derived.Test.YtccphnljogjbiagDoorRefConn
namespace Go.Proofs.YtccphnljogjbiagDoor
open Go.RowKit
attribute [local go_sem ↓] Go.wp_at_zero Go.wp_at_succ

set_option maxHeartbeats 1600000 in
set_option maxRecDepth 8000 in
/-- Two that read alike. -/
theorem same_conns {l : List (Int × Int)} {a b : Option Addr} {len cap len' cap' : Nat} (w : World) (hl : len ≤ 8) (hp : PRow w a len cap l) (hp' : PRow w b len' cap' l) :
    Calls Tryd.prog 21 #[.slice a len cap, .slice b len' cap'] w fun e w' => e = .returned (.bool true) ∧ Below w.heap.size w w' := by
  obtain rfl : len = len' := by rw [← hp.1, ← hp'.1]
  have HL := hide hp.1
  have HP := hide hp
  have HP' := hide hp'
  clear hp hp'
  go_enter Tryd.func21, Tryd.ntmps21
  go_wp2
  go_loopw [5] (fun i wr => ∃ k : Nat, k ≤ len ∧ i = .int .i64 k ∧ Hid (Below w.heap.size w wr)) (fun i _ => len - (intOf i).toNat)
  case atStart => exact ⟨0, Nat.zero_le _, rfl, hide (Below.refl _ _)⟩
  case round =>
    obtain ⟨k, hk, rfl, HB⟩ := hrel
    by_cases hlt : k < len
    · obtain ⟨b1, off1, rfl, c1, c2⟩ := ((unhide HP).later (unhide HB)).2.2 k (by rw [unhide HL]; exact hlt)
      obtain ⟨b2, off2, rfl, d1, d2⟩ := ((unhide HP').later (unhide HB)).2.2 k (by rw [unhide HL]; exact hlt)
      generalize l.getD k (0, 0) = s at c1 c2 d1 d2
      obtain ⟨x, t⟩ := s
      dsimp only at c1 c2 d1 d2
      have hk0 : (0 : Int) ≤ (k : Int) := by omega
      have hkc : (k : Int) < (len : Int) := by omega
      have e1 : (x == x) = true := by simp
      have e2 : (t == t) = true := by simp
      go_wp2
      go_quiet (fail)
      go_wp2
      go_roundw
      case rel => exact ⟨k + 1, by omega, by go_num, hide (below_drewN (unhide HB) _)⟩
      case measure => simp [intOf]; omega
    · go_wp2
      go_ret
      exact ⟨rfl, unhide HB⟩

set_option maxHeartbeats 1600000 in
set_option maxRecDepth 8000 in
theorem rplace_any {B b : Nat} {o : Option Nat} {L : List (Int × Int)} (s m : Int) (w : World) (h : QAt 47 B w b o L) (hl : L.length ≤ 8) :
    Calls Tryd.prog 19 #[.pointer (some ⟨b, 0, none⟩), .agg #[.int .i64 s, .int .i64 m]] w fun e w' => e = .returned (.int .i64 (QueueM.place L (s, m))) ∧ Below w.heap.size w w' := by
  have hb := h.lt
  obtain ⟨_, v, _, h2, h3⟩ := h
  have c0 : w.cell? ⟨b, 0, none⟩ = some v := by rw [Go.Lib.cell_of_heap h2]; rfl
  obtain ⟨a, cap, rfl, hp⟩ := own_row h3
  have HC0 := hide c0
  have HP := hide hp
  generalize hq : QueueM.place L (s, m) = E
  have HQ := hide hq
  clear h2 h3 hp hq c0
  generalize hn : L.length = n at HC0 HP hl
  have HL := hide hn
  clear hn
  go_enter Tryd.func19, Tryd.ntmps19
  go_wp2
  have HC := hide (Held.fresh (w := w) [.int .i64 s, .int .i64 m] 39 rfl)
  have HB0 := hide (show Below w.heap.size w (w.alloc (.cells #[.int .i64 s, .int .i64 m] 39)) from (by (repeat' (first | exact Below.refl _ _ | refine Below.alloc ?_ ?_ _ | refine Below.setCell ?_ ?_ _ | refine Below.drew ?_)); all_goals (first | exact Nat.le_refl _ | omega | (simp; done) | (simp; omega))))
  go_loopw [5] (fun i wr => ∃ k : Nat, k ≤ n ∧ i = .int .i64 k ∧ Hid ((s, m) ∉ L.take k) ∧ Hid (Held wr w.heap.size [.int .i64 s, .int .i64 m]) ∧ Hid (Below w.heap.size w wr)) (fun i _ => n - (intOf i).toNat)
  case atStart => exact ⟨0, Nat.zero_le _, rfl, hide (by simp), HC, HB0⟩
  case round =>
    obtain ⟨k, hk, rfl, HN, HC, HB⟩ := hrel
    have q0 := cell_later (unhide HB) (unhide HC0)
    have hbr : b < wr.heap.size := World.block_lt_of_cell? _ _ q0
    by_cases hlt : k < n
    · have hs := hide (QueueM.place_at (l := L) (k := k) (c := (s, m)) (by rw [unhide HL]; exact hlt) (unhide HN))
      have hn := hide (QueueM.no_step (l := L) (k := k) (c := (s, m)) (by rw [unhide HL]; exact hlt) (unhide HN))
      obtain ⟨rb, off, rfl, c1, c2⟩ := ((unhide HP).later (unhide HB)).2.2 k (by rw [unhide HL]; exact hlt)
      generalize L.getD k (0, 0) = p at c1 c2 hs hn
      obtain ⟨x, t⟩ := p
      dsimp only at c1 c2 hs hn
      obtain ⟨d1, d2⟩ := (unhide HC).c2.1
      have hk0 : (0 : Int) ≤ (k : Int) := by omega
      have hkc : (k : Int) < (n : Int) := by omega
      by_cases hx : x = s ∧ t = m
      · obtain ⟨rfl, rfl⟩ := hx
        have HE := hide (show E = (k : Int) by rw [← unhide HQ]; exact unhide hs rfl)
        clear hs hn
        have e1 : (x == x) = true := by simp
        have e2 : (t == t) = true := by simp
        go_wp2
        go_quiet (fail)
        go_wp2
        go_ret
        exact ⟨by rw [unhide HE]; rfl, below_drewN (unhide HB) _⟩
      · have hn' := hide (unhide hn (fun e => hx ⟨congrArg Prod.fst e, congrArg Prod.snd e⟩))
        clear hs hn
        by_cases hy : x = s
        · have hz : ¬ t = m := fun e => hx ⟨hy, e⟩
          subst hy
          have e1 : (x == x) = true := by simp
          have e2 : (t == m) = false := by simp [hz]
          go_wp2
          go_quiet (fail)
          go_wp2
          go_roundw
          case rel => exact ⟨k + 1, by omega, by go_num, hn', hide (unhide HC), hide (below_drewN (unhide HB) _)⟩
          case measure => simp [intOf]; omega
        · have e1 : (x == s) = false := by simp [hy]
          go_wp2
          go_quiet (fail)
          go_wp2
          go_roundw
          case rel => exact ⟨k + 1, by omega, by go_num, hn', hide (unhide HC), hide (below_drewN (unhide HB) _)⟩
          case measure => simp [intOf]; omega
    · have HE := hide (show E = -1 by rw [← unhide HQ]; exact QueueM.place_no (QueueM.no_all (by rw [unhide HL]; omega) (unhide HN)))
      go_wp2
      go_ret
      exact ⟨by rw [unhide HE]; rfl, unhide HB⟩

theorem conn_ok {s m : Int} : (ConnM.bad s m == 0) = !decide (QueueM.bad (s, m)) := by
  rw [bad_iff]
  by_cases h : QueueM.bad (s, m)
  · rw [if_pos h, decide_eq_true h]; rfl
  · rw [if_neg h, decide_eq_false h]; rfl

set_option maxHeartbeats 3200000 in
set_option maxRecDepth 8000 in
theorem roffer_any {B b : Nat} {o : Option Nat} {L : List (Int × Int)} (s m : Int) (w : World) (h : QAt 47 B w b o L) (hl : L.length ≤ 8) (hBw : B ≤ w.heap.size) :
    Calls Tryd.prog 20 #[.pointer (some ⟨b, 0, none⟩), .agg #[.int .i64 s, .int .i64 m]] w fun e w' => e = .returned (.int .i64 (QueueM.offerErr L (s, m))) ∧ QStep 47 B w w' b o (QueueM.offered L (s, m)) := by
  have hbw := h.lt
  have H := hide h
  have C := hide (fun w => rconn_any s m w)
  rw [conn_ok] at C
  by_cases hbad : QueueM.bad (s, m)
  · rw [QueueM.offered_no (by rw [QueueM.offer_bad hbad]; decide), QueueM.offer_bad hbad]
    rw [decide_eq_true hbad] at C
    clear h hbad
    go_enter Tryd.func20, Tryd.ntmps20
    go_wp2_with fail
    refine (unhide C _).mono ?_
    rintro e w1 ⟨rfl, hb1⟩
    have HB1 := hide (bel3 (Below.refl _ _) (show Below w.heap.size w (w.alloc _) from (by (repeat' (first | exact Below.refl _ _ | refine Below.alloc ?_ ?_ _ | refine Below.setCell ?_ ?_ _ | refine Below.drew ?_)); all_goals (first | exact Nat.le_refl _ | omega | (simp; done) | (simp; omega)))) hb1)
    clear hb1
    go_wp2
    go_ret
    exact ⟨rfl, QStep.same (unhide H) (unhide HB1)⟩
  · rw [decide_eq_false hbad] at C
    have Q := hide (fun W (hW : Below w.heap.size w W) => rplace_any s m W ((unhide H).later hW) hl)
    obtain ⟨hB, v, rfl, h2, h3⟩ := h
    have c0 : w.cell? ⟨b, 0, none⟩ = some v := by rw [Go.Lib.cell_of_heap h2]; rfl
    have hne : v.ownBlock ≠ some b := row_not h3 h2 (by decide)
    have H2 := hide h2
    have H3 := hide h3
    have HN := hide hne
    obtain ⟨a, cap, rfl, hp⟩ := own_row h3
    have HC0 := hide c0
    clear h2 h3 hp c0 hne
    by_cases hm : (s, m) ∈ L
    · rw [QueueM.offered_no (by rw [QueueM.offer_there hbad hm]; decide), QueueM.offer_there hbad hm]
      rw [QueueM.place_yes hm] at Q
      clear hbad hm
      generalize L.idxOf (s, m) = k at Q
      generalize L.length = n at HC0 hl H H2 H3 HN
      have hk0 : (0 : Int) ≤ (k : Int) := by omega
      go_enter Tryd.func20, Tryd.ntmps20
      go_wp2_with fail
      refine (unhide C _).mono ?_
      rintro e w1 ⟨rfl, hb1⟩
      have HB1 := hide (bel3 (Below.refl _ _) (show Below w.heap.size w (w.alloc _) from (by (repeat' (first | exact Below.refl _ _ | refine Below.alloc ?_ ?_ _ | refine Below.setCell ?_ ?_ _ | refine Below.drew ?_)); all_goals (first | exact Nat.le_refl _ | omega | (simp; done) | (simp; omega)))) hb1)
      have HP1 := hide ((Held.fresh (w := w) [.int .i64 s, .int .i64 m] 39 rfl).later hb1)
      clear hb1
      obtain ⟨p0, p1⟩ := (unhide HP1).c2.1
      have pl1 := (unhide HP1).2
      go_wp2_with fail
      refine (unhide Q _ (unhide HB1)).mono ?_
      rintro e w2 ⟨rfl, hb2⟩
      have HB2 := hide (bel3 (unhide HB1) (Below.refl _ _) hb2)
      have HP2 := hide ((unhide HP1).later hb2)
      clear hb2 p0 p1 pl1
      clear HP2
      go_wp2
      go_ret
      exact ⟨rfl, QStep.same (unhide H) (unhide HB2)⟩
    · rw [QueueM.place_no hm] at Q
      by_cases hf : 8 ≤ L.length
      · rw [QueueM.offered_no (by rw [QueueM.offer_full hbad hm hf]; decide), QueueM.offer_full hbad hm hf]
        clear hbad hm
        generalize L.length = n at HC0 hl H H2 H3 HN hf
        have hn8 : (8 : Int) ≤ (n : Int) := by omega
        go_enter Tryd.func20, Tryd.ntmps20
        go_wp2_with fail
        refine (unhide C _).mono ?_
        rintro e w1 ⟨rfl, hb1⟩
        have HB1 := hide (bel3 (Below.refl _ _) (show Below w.heap.size w (w.alloc _) from (by (repeat' (first | exact Below.refl _ _ | refine Below.alloc ?_ ?_ _ | refine Below.setCell ?_ ?_ _ | refine Below.drew ?_)); all_goals (first | exact Nat.le_refl _ | omega | (simp; done) | (simp; omega)))) hb1)
        have HP1 := hide ((Held.fresh (w := w) [.int .i64 s, .int .i64 m] 39 rfl).later hb1)
        clear hb1
        obtain ⟨p0, p1⟩ := (unhide HP1).c2.1
        have pl1 := (unhide HP1).2
        go_wp2_with fail
        refine (unhide Q _ (unhide HB1)).mono ?_
        rintro e w2 ⟨rfl, hb2⟩
        have HB2 := hide (bel3 (unhide HB1) (Below.refl _ _) hb2)
        have HP2 := hide ((unhide HP1).later hb2)
        clear hb2 p0 p1 pl1
        have c0 := cell_later (unhide HB2) (unhide HC0)
        have hbl : b < w2.heap.size := World.block_lt_of_cell? _ _ c0
        clear HP2
        go_wp2
        go_ret
        exact ⟨rfl, QStep.same (unhide H) (unhide HB2)⟩
      · rw [QueueM.offered_yes (QueueM.offer_yes hbad hm (by omega)), QueueM.offer_yes hbad hm (by omega)]
        clear hbad hm
        generalize hn : L.length = n at HC0 hl H H2 H3 HN hf
        have HLN := hide hn
        clear hn
        have hn8 : (n : Int) < 8 := by omega
        obtain ⟨i0, hi0, hz0, hz1, hz2⟩ := info_parts infoConn
        go_enter Tryd.func20, Tryd.ntmps20
        go_wp2_with fail
        refine (unhide C _).mono ?_
        rintro e w1 ⟨rfl, hb1⟩
        have HB1 := hide (bel3 (Below.refl _ _) (show Below w.heap.size w (w.alloc _) from (by (repeat' (first | exact Below.refl _ _ | refine Below.alloc ?_ ?_ _ | refine Below.setCell ?_ ?_ _ | refine Below.drew ?_)); all_goals (first | exact Nat.le_refl _ | omega | (simp; done) | (simp; omega)))) hb1)
        have HP1 := hide ((Held.fresh (w := w) [.int .i64 s, .int .i64 m] 39 rfl).later hb1)
        clear hb1
        obtain ⟨p0, p1⟩ := (unhide HP1).c2.1
        have pl1 := (unhide HP1).2
        go_wp2_with fail
        refine (unhide Q _ (unhide HB1)).mono ?_
        rintro e w2 ⟨rfl, hb2⟩
        have HB2 := hide (bel3 (unhide HB1) (Below.refl _ _) hb2)
        have HP2 := hide ((unhide HP1).later hb2)
        clear hb2 p0 p1 pl1
        have hb2 := (unhide HB2).size
        have HOx := hide (own_later (unhide H3) (unhide HB2))
        have H2x := hide (((unhide HB2).block b hbw).trans (unhide H2))
        have c0 := cell_later (unhide HB2) (unhide HC0)
        obtain ⟨p0, p1⟩ := (unhide HP2).c2.1
        have pl := (unhide HP2).2
        have hbl : b < w2.heap.size := by omega
        go_wp2_with fail
        go_region_law ((refine step_append_lies _ (by rfl) _ _ _ (by rfl) B 39 i0 _ 2 16 Tryd.underlying34 hi0 hz0 hz1 hz2 rfl (by omega) (.slice a n cap) n (flat L) (by rfl) (((unhide HOx).alloc _).drew) ⟨w2.heap.size, 0, none⟩ 1 1 [.int .i64 s, .int .i64 m] (by rfl) (by rfl) (World.news_of_block (cs := #[.int .i64 s, .int .i64 m]) (t := 39) (fr := (0, 0)) (heap_alloc_new w2 _)) (by simp [Value.oneCell']) (by omega) (by unfold maxLen; omega) (by omega) (by simp; omega) (w2.heap.size + 1) (by simp) ?_; intro gg cp w3 hown1 hgrow hat hlt; obtain ⟨d0, f0, bl3⟩ := grew_cell (unhide H2x) (unhide HN) hgrow))
        all_goals
          have HS := hide (QStep.behind (unhide HB2) (QAt.grew (T := 47) (unhide HLN) hB (unhide H2x) (by decide) (unhide HN) hown1 hgrow hat))
          clear hown1 hgrow hat hlt
          go_wp2
          go_ret
          exact ⟨rfl, unhide HS⟩

theorem own_slice {w : World} {base n : Nat} {e : TypeId} {size : Nat} {v : Value} {xs : List Value} (h : w.ownsRow base e size v n xs) : ∃ a cap, v = .slice a n cap := by
  rcases h.2 with ⟨rfl, h0⟩ | ⟨g, cap, cur, rfl, _⟩
  · exact ⟨none, 0, by rw [h0]⟩
  · exact ⟨_, _, rfl⟩

set_option maxHeartbeats 3200000 in
set_option maxRecDepth 8000 in
theorem rout_any {B b i : Nat} {o : Option Nat} {L : List (Int × Int)} (w : World) (h : QAt 47 B w b o L) (hi : i < L.length) (hl : L.length ≤ 8) :
    Calls Tryd.prog 17 #[.pointer (some ⟨b, 0, none⟩), .int .i64 i] w fun e w' => e = .returned (.tuple #[]) ∧ QStep 47 B w w' b o (L.eraseIdx i) := by
  have hb := h.lt
  obtain ⟨i0, hi0, hz0, hz1, hz2⟩ := info_parts infoConn
  obtain ⟨hB, v, rfl, h2, h3⟩ := h
  have c0 : w.cell? ⟨b, 0, none⟩ = some v := by rw [Go.Lib.cell_of_heap h2]; rfl
  have hne : v.ownBlock ≠ some b := row_not h3 h2 (by decide)
  have hcap : ∀ a n c, v = .slice a n c → n ≤ c ∧ c ≤ 9223372036854775807 := by
    intro a n c hv
    rcases h3.2 with ⟨e, h0⟩ | ⟨g, cap, cur, e, _, _, q1, q2, _⟩
    · omega
    · rw [hv] at e
      simp only [Value.slice.injEq] at e
      obtain ⟨_, rfl, rfl⟩ := e
      unfold maxLen at q2
      omega
  obtain ⟨g, cap, rfl, _, _⟩ := own_shape h3 (by omega)
  obtain ⟨hnc, hcm⟩ := hcap _ _ _ rfl
  have hgl := (h3.lt g rfl).2
  have hcells := h3.cells (g := g) rfl
  have n1 : ∀ j u, (flat (L.take i))[j]? = some u → w.cell? ((⟨g, 0, none⟩ : Addr).add j) = some u := fun j u hu => by
    rw [flat_take, List.getElem?_take] at hu
    split at hu
    · exact hcells j u hu
    · cases hu
  have n2 : ∀ j u, (flat (L.drop (i + 1)))[j]? = some u → w.cell? ⟨g, (i + 1) * 2 + j, none⟩ = some u := fun j u hu => by
    rw [flat_drop, List.getElem?_drop] at hu
    have q := hcells _ u hu
    rw [Go.WideShapes.add_plain, Nat.zero_add] at q
    exact q
  have l1 : (flat (L.take i)).length = i * 2 := by rw [flat_length, List.length_take, Nat.min_eq_left (by omega)]
  have l2 : (flat (L.drop (i + 1))).length = (L.length - (i + 1)) * 2 := by rw [flat_length, List.length_drop]
  obtain ⟨A, hA, hsrc⟩ : ∃ A : Addr, (if cap = i + 1 then some (⟨g, 0, none⟩ : Addr) else some ⟨g, (i + 1) * 2, none⟩) = some A ∧ Hid (∀ W, Below w.heap.size w W → ∀ t u, (flat (L.drop (i + 1)))[t]? = some u → W.cell? (A.add t) = some u) := by
    by_cases h : cap = i + 1
    · refine ⟨⟨g, 0, none⟩, by simp [h], fun W _ t u hu => ?_⟩
      have := (List.getElem?_eq_some_iff.1 hu).1
      omega
    · refine ⟨⟨g, (i + 1) * 2, none⟩, by simp [h], fun W hW t u hu => ?_⟩
      rw [Addr.add_lit]
      exact cell_later hW (n2 t u hu)
  have HL := hide (show (L.eraseIdx i).length = i + (L.length - (i + 1)) by rw [List.length_eraseIdx, if_pos hi]; omega)
  have HE := hide (show flat (L.eraseIdx i) = flat (L.take i) ++ flat (L.drop (i + 1)) by rw [QueueM.erase_eq, flat_append])
  have H2 := hide h2
  have HN := hide hne
  have N1 := hide n1
  have L1 := hide l1
  have L2 := hide l2
  have O1 := hide (flat_one (L.take i))
  have O2 := hide (flat_one (L.drop (i + 1)))
  clear h2 h3 hne n1 n2 l1 l2 hcells hcap
  generalize L.length = n at c0 hl hi H2 HN L2 HL hnc ⊢
  generalize flat (L.take i) = xs at HE N1 L1 O1
  generalize flat (L.drop (i + 1)) = ys at HE L2 O2 hsrc
  have hic : (i : Int) ≤ (cap : Int) := by omega
  have hin : (i : Int) < (n : Int) := by omega
  have hi1 : (i : Int) + 1 ≤ (n : Int) := by omega
  have hw1 : ((i : Int) + 1).toNat = i + 1 := by omega
  go_enter Tryd.func17, Tryd.ntmps17
  go_wp2_with (at_builtin; refine wpList_append_own _ rfl _ _ 34 rfl w.heap.size 39 i0 (.agg #[.int .i64 0, .int .i64 0]) 2 16 Tryd.underlying34 hi0 hz0 hz1 hz2 rfl (by decide) (.slice none 0 0) 0 [] rfl (World.ownsRow_nil _ _ _ _) ⟨g, 0, none⟩ i cap xs rfl (unhide L1) (unhide N1) (unhide O1) ?c3 ?c4 ?c5 ?_)
  case c3 => unfold maxLen; omega
  case c4 => omega
  case c5 => exact Nat.le_refl _
  intro v1 w1 hown1 hgrow1 _
  have hown1 : w1.ownsRow w.heap.size 39 2 v1 i xs := by simpa using hown1
  have HB1 := hide ((Below.refl w.heap.size w).grown hgrow1 (Nat.le_refl _) (fun k hk => by simp [Value.ownBlock] at hk))
  have HO1 := hide hown1
  obtain ⟨a1, cap1, rfl⟩ := own_slice hown1
  have c1 := cell_later (unhide HB1) c0
  have hb1 : b < w1.heap.size := World.block_lt_of_cell? _ _ c1
  have hz1' := (unhide HB1).size
  have HS1 := hide (unhide hsrc w1 (unhide HB1))
  clear hown1 hgrow1 c0 hsrc N1
  go_wp2_with (at_builtin; refine wpList_append_own _ rfl _ _ 34 rfl w.heap.size 39 i0 (.agg #[.int .i64 0, .int .i64 0]) 2 16 Tryd.underlying34 hi0 hz0 hz1 hz2 rfl (by decide) _ i xs rfl (unhide HO1) A (n - (i + 1)) (cap - (i + 1)) ys rfl (unhide L2) (unhide HS1) (unhide O2) ?c3 ?c4 ?c5 ?_)
  case c3 => unfold maxLen; omega
  case c4 => omega
  case c5 => omega
  intro v2 w2 hown2 hgrow2 _
  have HB2 := hide ((unhide HB1).grown hgrow2 hz1' (fun k hk => ((unhide HO1).lt k hk).1))
  have hlt2 := hown2.lt
  have hown3 : w2.ownsRow B 39 2 v2 (L.eraseIdx i).length (flat (L.eraseIdx i)) := by rw [unhide HL, unhide HE]; exact own_base hown2 (by omega)
  have R := hide (QAt.put (T := 47) hB (unhide H2) (by decide) (Kept.of (unhide HB2)) (unhide HN) hown3 (fun k hk => .inr (hlt2 k hk).1))
  obtain ⟨a2, cap2, rfl⟩ := own_slice hown2
  have k2 : w2.heap[b]? = _ := ((unhide HB2).block b hb).trans (unhide H2)
  have d0 : w2.cell? ⟨b, 0, none⟩ = some (.slice (some ⟨g, 0, none⟩) n cap) := by rw [Go.Lib.cell_of_heap k2]; rfl
  have f0 : w2.frozen? ⟨b, 0, none⟩ = false := Go.Lib.frozen_of_heap k2 0
  have hb2 : b < w2.heap.size := World.block_lt_of_cell? _ _ d0
  clear hown2 hgrow2 hown3 hlt2 k2
  go_wp2
  go_end0
  exact ⟨rfl, unhide R⟩
end Go.Proofs.YtccphnljogjbiagDoor
