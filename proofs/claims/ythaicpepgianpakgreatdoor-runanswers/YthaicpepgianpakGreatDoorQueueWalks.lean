/-
  What the calls of package queue come to, said of who waits: New, Offer, Pull, Drop, All.
-/
import Derived.Test.YthaicpepgianpakGreatDoorQueueLib
import Derived.Test.YthaicpepgianpakGreatDoorJoinedRunAs
namespace Go.Proofs.YthaicpepgianpakGreatDoor
open Go.RowKit
attribute [local go_sem ↓] Go.wp_at_zero Go.wp_at_succ

theorem qnew_any (w : World) : Calls Tryz.prog 49 #[] w fun e w' => e = .returned (.pointer (some ⟨w.heap.size, 0, none⟩)) ∧ QAt 153 w.heap.size w' w.heap.size none [] ∧ Below w.heap.size w w' := by
  go_enter Tryz.func49, Tryz.ntmps49
  go_wp2
  go_ret
  exact ⟨rfl, ⟨Nat.le_refl _, .slice none 0 0, rfl, heap_alloc_new w _, World.ownsRow_nil _ _ _ _⟩, (by (repeat' (first | exact Below.refl _ _ | refine Below.alloc ?_ ?_ _ | refine Below.setCell ?_ ?_ _ | refine Below.drew ?_)); all_goals (first | exact Nat.le_refl _ | omega | (simp; done) | (simp; omega)))⟩

theorem bad_iff {s m : Int} : ConnM.bad s m = if QueueM.bad (s, m) then 1 else 0 := by
  by_cases h : QueueM.bad (s, m)
  · rw [if_pos h]; exact ConnM.bad_one.2 (by rw [QueueM.bad_prop] at h; dsimp only at h; omega)
  · rw [if_neg h]; exact ConnM.bad_zero.2 (by rw [QueueM.bad_prop] at h; dsimp only at h; omega)

theorem qall_any {B b : Nat} {o : Option Nat} {L : List (Int × Int)} (w : World) (h : QAt 153 B w b o L) (hl : L.length ≤ 8) :
    Calls Tryz.prog 68 #[.pointer (some ⟨b, 0, none⟩)] w fun e w' => ∃ a cap, e = .returned (.slice a L.length cap) ∧ PRow w' a L.length cap L ∧ Below w.heap.size w w' := by
  have hb := h.lt
  obtain ⟨_, v, _, h2, h3⟩ := h
  have c0 : w.cell? ⟨b, 0, none⟩ = some v := by rw [Go.Lib.cell_of_heap h2]; rfl
  have Q := hide (qclone_any w hl h3)
  obtain ⟨a, cap, rfl, _⟩ := own_row h3
  clear h2 h3
  generalize hn : L.length = n at c0 Q hl ⊢
  go_enter Tryz.func68, Tryz.ntmps68
  go_wp2_with fail
  refine (unhide Q).mono ?_
  rintro e w1 ⟨a1, cap1, rfl, hr, hbb⟩
  have HR := hide hr
  have HB := hide hbb
  clear hr hbb
  go_wp2
  go_ret
  exact ⟨_, _, rfl, unhide HR, unhide HB⟩

set_option maxHeartbeats 1600000 in
set_option maxRecDepth 8000 in
theorem qleave_any {B b i : Nat} {o : Option Nat} {L : List (Int × Int)} (w : World) (h : QAt 153 B w b o L) (hi : i < L.length) (hl : L.length ≤ 8) :
    Calls Tryz.prog 87 #[.pointer (some ⟨b, 0, none⟩), .int .i64 i] w fun e w' => e = .returned (.tuple #[]) ∧ QStep 153 B w w' b o (L.eraseIdx i) := by
  have hb := h.lt
  obtain ⟨hB, v, rfl, h2, h3⟩ := h
  have c0 : w.cell? ⟨b, 0, none⟩ = some v := by rw [Go.Lib.cell_of_heap h2]; rfl
  have hne : v.ownBlock ≠ some b := row_not h3 h2 (by decide)
  obtain ⟨g, cap, rfl, _, _⟩ := own_shape h3 (by omega)
  have Q := hide (qdelete_any (i := i) (j := i + 1) w (by omega) (by omega) h3)
  rw [← QueueM.erase_eq] at Q
  have HL := hide (show i + (L.length - (i + 1)) = (L.eraseIdx i).length by rw [List.length_eraseIdx, if_pos hi]; omega)
  have H2 := hide h2
  have HN := hide hne
  clear h2 h3 hne
  generalize hn : L.length = n at c0 Q hl hi HL H2 HN ⊢
  rw [show ((i + 1 : Nat) : Int) = (i : Int) + 1 from rfl] at Q
  go_enter Tryz.func87, Tryz.ntmps87
  go_wp2_with fail
  refine (unhide Q).mono ?_
  rintro e w1 ⟨rfl, ho1, hk1⟩
  rw [unhide HL] at ho1
  have R := hide (QAt.put (T := 153) hB (unhide H2) (by decide) hk1 (unhide HN) ho1 (fun k hk => .inl hk))
  have k2 : w1.heap[b]? = _ := (hk1.block b hb (by have := unhide HN; simpa [Value.ownBlock, eq_comm] using this)).trans (unhide H2)
  have d0 : w1.cell? ⟨b, 0, none⟩ = some (.slice (some ⟨g, 0, none⟩) n cap) := by rw [Go.Lib.cell_of_heap k2]; rfl
  have f0 : w1.frozen? ⟨b, 0, none⟩ = false := Go.Lib.frozen_of_heap k2 0
  have hb1 : b < w1.heap.size := Nat.lt_of_lt_of_le hb hk1.size
  clear ho1 hk1 k2
  rw [← unhide HL] at R
  go_wp2
  go_end0
  exact ⟨rfl, unhide R⟩

set_option maxHeartbeats 1600000 in
set_option maxRecDepth 8000 in
theorem qpull_none {B b : Nat} {o : Option Nat} (w : World) (h : QAt 153 B w b o []) :
    Calls Tryz.prog 62 #[.pointer (some ⟨b, 0, none⟩)] w fun e w' => e = .returned (.tuple #[.agg #[.int .i64 0, .int .i64 0], .iface 85 (.int .i64 5)]) ∧ Below w.heap.size w w' := by
  have hb := h.lt
  obtain ⟨_, v, _, h2, h3⟩ := h
  have c0 : w.cell? ⟨b, 0, none⟩ = some v := by rw [Go.Lib.cell_of_heap h2]; rfl
  obtain ⟨a, cap, rfl, _⟩ := own_row h3
  clear h2 h3
  go_enter Tryz.func62, Tryz.ntmps62
  go_wp2
  exact bodyPost_ret (v := .tuple #[.agg #[.int .i64 0, .int .i64 0], .iface 85 (.int .i64 5)]) (by simp [results, Tryz.results62, go_sem]) rfl ⟨rfl, (by (repeat' (first | exact Below.refl _ _ | refine Below.alloc ?_ ?_ _ | refine Below.setCell ?_ ?_ _ | refine Below.drew ?_)); all_goals (first | exact Nat.le_refl _ | omega | (simp; done) | (simp; omega)))⟩

set_option maxHeartbeats 1600000 in
set_option maxRecDepth 8000 in
theorem qpull_yes {B b : Nat} {o : Option Nat} {s m : Int} {r : List (Int × Int)} (w : World) (h : QAt 153 B w b o ((s, m) :: r)) (hl : r.length < 8) :
    Calls Tryz.prog 62 #[.pointer (some ⟨b, 0, none⟩)] w fun e w' => e = .returned (.tuple #[.agg #[.int .i64 s, .int .i64 m], .nilIface]) ∧ QStep 153 B w w' b o r := by
  have hb := h.lt
  have H := hide h
  obtain ⟨_, v, rfl, h2, h3⟩ := h
  have c0 : w.cell? ⟨b, 0, none⟩ = some v := by rw [Go.Lib.cell_of_heap h2]; rfl
  have hrow := own_row h3
  obtain ⟨a, cap, rfl, hp⟩ := hrow
  obtain ⟨g, off, rfl, d0, d1⟩ := hp.2.2 0 (by simp)
  have hgl : g < w.heap.size := World.block_lt_of_cell? _ _ d0
  simp only [List.length_cons, List.getD_cons_zero, Nat.zero_mul, Nat.add_zero] at d0 d1 c0 H
  have Q := hide (fun W (hW : Below w.heap.size w W) => qleave_any (i := 0) W ((unhide H).later hW) (by simp) (by simp; omega))
  rw [show ((s, m) :: r).eraseIdx 0 = r from rfl] at Q
  clear h2 h3 hp
  generalize hn : r.length = n at c0 H Q hl
  go_enter Tryz.func62, Tryz.ntmps62
  go_wp2_with fail
  have HP := hide (show Held ((w.alloc (.cells #[.int .i64 0, .int .i64 0] 78)).alloc (.cells #[.int .i64 s, .int .i64 m] 78)) w.heap.size [.int .i64 0, .int .i64 0] from (Held.fresh (w := w) [.int .i64 0, .int .i64 0] 78 rfl).later (by (repeat' (first | exact Below.refl _ _ | refine Below.alloc ?_ ?_ _ | refine Below.setCell ?_ ?_ _ | refine Below.drew ?_)); all_goals (first | exact Nat.le_refl _ | omega | (simp; done) | (simp; omega))))
  have HF := hide (show Held ((w.alloc (.cells #[.int .i64 0, .int .i64 0] 78)).alloc (.cells #[.int .i64 s, .int .i64 m] 78)) (w.heap.size + 1) [.int .i64 s, .int .i64 m] from Held.fresh (w := w.alloc (.cells #[.int .i64 0, .int .i64 0] 78)) [.int .i64 s, .int .i64 m] 78 (by simp))
  have HB := hide (show Below w.heap.size w ((w.alloc (.cells #[.int .i64 0, .int .i64 0] 78)).alloc (.cells #[.int .i64 s, .int .i64 m] 78)) from (by (repeat' (first | exact Below.refl _ _ | refine Below.alloc ?_ ?_ _ | refine Below.setCell ?_ ?_ _ | refine Below.drew ?_)); all_goals (first | exact Nat.le_refl _ | omega | (simp; done) | (simp; omega))))
  generalize ((w.alloc (.cells #[.int .i64 0, .int .i64 0] 78)).alloc (.cells #[.int .i64 s, .int .i64 m] 78)) = W at HP HF HB ⊢
  refine (unhide Q W (unhide HB)).mono ?_
  rintro e w1 ⟨rfl, hs⟩
  have HP1 := hide ((unhide H).held hs (unhide HP) (Nat.le_refl _))
  have HF1 := hide ((unhide H).held hs (unhide HF) (Nat.le_succ _))
  have HS := hide hs
  have hPl := (unhide HP).2
  clear hs HF HP Q d0 d1 c0
  obtain ⟨⟨p0, p1⟩, pf0, pf1⟩ := (unhide HP1).c2
  obtain ⟨f0, f1⟩ := (unhide HF1).c2.1
  have pl := (unhide HP1).2
  have fl := (unhide HF1).2
  go_wp2
  exact bodyPost_ret (v := .tuple #[.agg #[.int .i64 s, .int .i64 m], .nilIface]) (by simp [results, Tryz.results62, go_sem, p0, p1]) rfl ⟨rfl, (unhide HS).far (R := w.heap.size) (unhide HB) (unhide H) (Nat.le_refl _) hPl (((Kept.refl [w.heap.size] w1).setCell (.inl (List.mem_singleton.2 rfl)) _).setCell (.inl (List.mem_singleton.2 rfl)) _)⟩

theorem reg_q {W W1 W2 : World} {c d e : Addr} {v u t : Value} (h : Hid (Below W.heap.size W W1) ∧ W1.cell? c = some v ∧ W1.cell? d = some u ∧ W1.cell? e = some t) (hb : Below W1.heap.size W1 W2) : Hid (Below W.heap.size W W2) ∧ W2.cell? c = some v ∧ W2.cell? d = some u ∧ W2.cell? e = some t :=
  ⟨hide (Below.trans (unhide h.1) (hb.mono (unhide h.1).size)), cell_later hb h.2.1, cell_later hb h.2.2.1, cell_later hb h.2.2.2⟩
theorem reg_q0 {W : World} {c d e : Addr} {v u t : Value} (h1 : W.cell? c = some v) (h2 : W.cell? d = some u) (h3 : W.cell? e = some t) : Hid (Below W.heap.size W W.drew) ∧ W.drew.cell? c = some v ∧ W.drew.cell? d = some u ∧ W.drew.cell? e = some t :=
  ⟨hide ((Below.refl _ _).drew), by rw [World.cell?_drew]; exact h1, by rw [World.cell?_drew]; exact h2, by rw [World.cell?_drew]; exact h3⟩


set_option maxHeartbeats 3200000 in
set_option maxRecDepth 8000 in
theorem qoffer_any {B b : Nat} {o : Option Nat} {L : List (Int × Int)} (s m : Int) (w : World) (h : QAt 153 B w b o L) (hl : L.length ≤ 8) (hBw : B ≤ w.heap.size) :
    Calls Tryz.prog 118 #[.pointer (some ⟨b, 0, none⟩), .agg #[.int .i64 s, .int .i64 m]] w fun e w' => e = .returned (errV (QueueM.offerErr L (s, m))) ∧ QStep 153 B w w' b o (QueueM.offered L (s, m)) := by
  have hbw := h.lt
  have H := hide h
  have C := hide (fun w => cnumber_any s m w)
  rw [bad_iff] at C
  by_cases hbad : QueueM.bad (s, m)
  · rw [QueueM.offered_no (by rw [QueueM.offer_bad hbad]; decide), QueueM.offer_bad hbad, errV_pos (by omega)]
    rw [if_pos hbad, errV_pos (by omega), ConnM.told_pos (by omega)] at C
    clear h hbad
    go_enter Tryz.func118, Tryz.ntmps118
    go_wp2_with fail
    refine (unhide C _).mono ?_
    rintro e w1 ⟨rfl, hb1⟩
    have HB1 := hide (bel3 (Below.refl _ _) (show Below w.heap.size w (w.alloc _) from (by (repeat' (first | exact Below.refl _ _ | refine Below.alloc ?_ ?_ _ | refine Below.setCell ?_ ?_ _ | refine Below.drew ?_)); all_goals (first | exact Nat.le_refl _ | omega | (simp; done) | (simp; omega)))) hb1)
    clear hb1
    go_wp2
    go_ret
    exact ⟨rfl, QStep.same (unhide H) (unhide HB1)⟩
  · rw [if_neg hbad, errV_zero rfl, ConnM.told_zero rfl] at C
    generalize ConnM.turn (4096 * s + m) = tt at C
    obtain ⟨hB, v, rfl, h2, h3⟩ := h
    have c0 : w.cell? ⟨b, 0, none⟩ = some v := by rw [Go.Lib.cell_of_heap h2]; rfl
    have hne : v.ownBlock ≠ some b := row_not h3 h2 (by decide)
    have H2 := hide h2
    have H3 := hide h3
    have HN := hide hne
    obtain ⟨a, cap, rfl, hp⟩ := own_row h3
    have Q := hide (fun W (hW : Below w.heap.size w W) => qcontains_any s m W hl (hp.later hW))
    have HC0 := hide c0
    clear h2 h3 hp c0 hne
    by_cases hm : (s, m) ∈ L
    · rw [QueueM.offered_no (by rw [QueueM.offer_there hbad hm]; decide), QueueM.offer_there hbad hm, errV_pos (by omega)]
      rw [decide_eq_true hm] at Q
      clear hbad hm
      generalize L.length = n at HC0 Q hl H H2 H3 HN
      go_enter Tryz.func118, Tryz.ntmps118
      go_wp2_with fail
      refine (unhide C _).mono ?_
      rintro e w1 ⟨rfl, hb1⟩
      have HB1 := hide (bel3 (Below.refl _ _) (show Below w.heap.size w (w.alloc _) from (by (repeat' (first | exact Below.refl _ _ | refine Below.alloc ?_ ?_ _ | refine Below.setCell ?_ ?_ _ | refine Below.drew ?_)); all_goals (first | exact Nat.le_refl _ | omega | (simp; done) | (simp; omega)))) hb1)
      have HP1 := hide ((Held.fresh (w := w) [.int .i64 s, .int .i64 m] 78 rfl).later hb1)
      clear hb1
      have c0 := cell_later (unhide HB1) (unhide HC0)
      obtain ⟨p0, p1⟩ := (unhide HP1).c2.1
      go_wp2
      go_region_held3 (fun w' => Hid (Below w1.heap.size w1 w') ∧ w'.cell? ⟨b, 0, none⟩ = some (.slice a n cap) ∧ w'.cell? ⟨w.heap.size, 0, none⟩ = some (.int .i64 s) ∧ w'.cell? ⟨w.heap.size, 1, none⟩ = some (.int .i64 m)) (first | exact reg_q (by assumption) hb | exact reg_q0 c0 p0 p1)
        ((go_at_call 142; refine (unhide Q _ (Below.trans (unhide HB1) ((unhide (And.left ‹Hid (Below w1.heap.size w1 _) ∧ _›)).mono (unhide HB1).size))).mono ?_; rintro e w' ⟨rfl, hb⟩))
      have HBx := hide (Below.trans (unhide HB1) ((unhide (And.left ‹Hid (Below w1.heap.size w1 _) ∧ _›)).mono (unhide HB1).size))
      have HPx := hide ((unhide HP1).later (unhide (And.left ‹Hid (Below w1.heap.size w1 _) ∧ _›)))
      clear c0 p0 p1
      clear HPx
      go_wp2
      go_ret
      exact ⟨rfl, QStep.same (unhide H) (unhide HBx)⟩
    · rw [decide_eq_false hm] at Q
      by_cases hf : 8 ≤ L.length
      · rw [QueueM.offered_no (by rw [QueueM.offer_full hbad hm hf]; decide), QueueM.offer_full hbad hm hf, errV_pos (by omega)]
        clear hbad hm
        generalize L.length = n at HC0 Q hl H H2 H3 HN hf
        have hn8 : (8 : Int) ≤ (n : Int) := by omega
        go_enter Tryz.func118, Tryz.ntmps118
        go_wp2_with fail
        refine (unhide C _).mono ?_
        rintro e w1 ⟨rfl, hb1⟩
        have HB1 := hide (bel3 (Below.refl _ _) (show Below w.heap.size w (w.alloc _) from (by (repeat' (first | exact Below.refl _ _ | refine Below.alloc ?_ ?_ _ | refine Below.setCell ?_ ?_ _ | refine Below.drew ?_)); all_goals (first | exact Nat.le_refl _ | omega | (simp; done) | (simp; omega)))) hb1)
        have HP1 := hide ((Held.fresh (w := w) [.int .i64 s, .int .i64 m] 78 rfl).later hb1)
        clear hb1
        have c0 := cell_later (unhide HB1) (unhide HC0)
        obtain ⟨p0, p1⟩ := (unhide HP1).c2.1
        go_wp2
        go_region_held3 (fun w' => Hid (Below w1.heap.size w1 w') ∧ w'.cell? ⟨b, 0, none⟩ = some (.slice a n cap) ∧ w'.cell? ⟨w.heap.size, 0, none⟩ = some (.int .i64 s) ∧ w'.cell? ⟨w.heap.size, 1, none⟩ = some (.int .i64 m)) (first | exact reg_q (by assumption) hb | exact reg_q0 c0 p0 p1)
          ((go_at_call 142; refine (unhide Q _ (Below.trans (unhide HB1) ((unhide (And.left ‹Hid (Below w1.heap.size w1 _) ∧ _›)).mono (unhide HB1).size))).mono ?_; rintro e w' ⟨rfl, hb⟩))
        have HBx := hide (Below.trans (unhide HB1) ((unhide (And.left ‹Hid (Below w1.heap.size w1 _) ∧ _›)).mono (unhide HB1).size))
        have HPx := hide ((unhide HP1).later (unhide (And.left ‹Hid (Below w1.heap.size w1 _) ∧ _›)))
        clear c0 p0 p1
        clear HPx
        go_wp2
        go_ret
        exact ⟨rfl, QStep.same (unhide H) (unhide HBx)⟩
      · rw [QueueM.offered_yes (QueueM.offer_yes hbad hm (by omega)), QueueM.offer_yes hbad hm (by omega), errV_zero rfl]
        clear hbad hm
        generalize hn : L.length = n at HC0 Q hl H H2 H3 HN hf
        have HLN := hide hn
        clear hn
        have hn8 : (n : Int) < 8 := by omega
        obtain ⟨i0, hi0, hz0, hz1, hz2⟩ := info_parts infoConn
        go_enter Tryz.func118, Tryz.ntmps118
        go_wp2_with fail
        refine (unhide C _).mono ?_
        rintro e w1 ⟨rfl, hb1⟩
        have HB1 := hide (bel3 (Below.refl _ _) (show Below w.heap.size w (w.alloc _) from (by (repeat' (first | exact Below.refl _ _ | refine Below.alloc ?_ ?_ _ | refine Below.setCell ?_ ?_ _ | refine Below.drew ?_)); all_goals (first | exact Nat.le_refl _ | omega | (simp; done) | (simp; omega)))) hb1)
        have HP1 := hide ((Held.fresh (w := w) [.int .i64 s, .int .i64 m] 78 rfl).later hb1)
        clear hb1
        have c0 := cell_later (unhide HB1) (unhide HC0)
        obtain ⟨p0, p1⟩ := (unhide HP1).c2.1
        go_wp2
        go_region_held3 (fun w' => Hid (Below w1.heap.size w1 w') ∧ w'.cell? ⟨b, 0, none⟩ = some (.slice a n cap) ∧ w'.cell? ⟨w.heap.size, 0, none⟩ = some (.int .i64 s) ∧ w'.cell? ⟨w.heap.size, 1, none⟩ = some (.int .i64 m)) (first | exact reg_q (by assumption) hb | exact reg_q0 c0 p0 p1)
          ((go_at_call 142; refine (unhide Q _ (Below.trans (unhide HB1) ((unhide (And.left ‹Hid (Below w1.heap.size w1 _) ∧ _›)).mono (unhide HB1).size))).mono ?_; rintro e w' ⟨rfl, hb⟩))
        have HBx := hide (Below.trans (unhide HB1) ((unhide (And.left ‹Hid (Below w1.heap.size w1 _) ∧ _›)).mono (unhide HB1).size))
        have HPx := hide ((unhide HP1).later (unhide (And.left ‹Hid (Below w1.heap.size w1 _) ∧ _›)))
        clear c0 p0 p1
        have hb2 := (unhide HBx).size
        have HOx := hide (own_later (unhide H3) (unhide HBx))
        have H2x := hide (((unhide HBx).block b hbw).trans (unhide H2))
        generalize w' = w2 at HBx HPx hb2 HOx H2x ⊢
        have c0 := cell_later (unhide HBx) (unhide HC0)
        obtain ⟨p0, p1⟩ := (unhide HPx).c2.1
        have pl := (unhide HPx).2
        have hbl : b < w2.heap.size := by omega
        go_wp2_with fail
        go_region_law ((refine step_append_lies _ (by rfl) _ _ _ (by rfl) B 78 i0 _ 2 16 Tryz.underlying57 hi0 hz0 hz1 hz2 rfl (by omega) (.slice a n cap) n (flat L) (by rfl) (((unhide HOx).alloc _).drew) ⟨w2.heap.size, 0, none⟩ 1 1 [.int .i64 s, .int .i64 m] (by rfl) (by rfl) (World.news_of_block (cs := #[.int .i64 s, .int .i64 m]) (t := 78) (fr := (0, 0)) (heap_alloc_new w2 _)) (by simp [Value.oneCell']) (by omega) (by unfold maxLen; omega) (by omega) (by simp; omega) (w2.heap.size + 1) (by simp) ?_; intro gg cp w3 hown1 hgrow hat hlt; obtain ⟨d0, f0, bl3⟩ := grew_cell (unhide H2x) (unhide HN) hgrow))
        all_goals
          have HS := hide (QStep.behind (unhide HBx) (QAt.grew (T := 153) (unhide HLN) hB (unhide H2x) (by decide) (unhide HN) hown1 hgrow hat))
          clear hown1 hgrow hat hlt
          go_wp2
          go_ret
          exact ⟨rfl, unhide HS⟩
end Go.Proofs.YthaicpepgianpakGreatDoor
