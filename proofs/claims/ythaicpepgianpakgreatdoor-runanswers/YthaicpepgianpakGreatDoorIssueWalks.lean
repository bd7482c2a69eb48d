/-
  What the calls of package issue come to, said of its blocks' two numbers and of how many were issued: New, Issue, Crash, Many.
-/
import Derived.Test.YthaicpepgianpakGreatDoorBlockWalks
import Derived.Test.YthaicpepgianpakGreatDoorTicketWalks
import Derived.Test.YthaicpepgianpakGreatDoorJoinedLoadMath
import Derived.Deep.Cut
namespace Go.Proofs.YthaicpepgianpakGreatDoor
open Go.RowKit

/-- An issuer lies at s, its blocks at b: which is next, up to which they are kept, how many were issued. -/
def IAt (w : World) (s b : Nat) (n m c : Int) : Prop := Held w s [.pointer (some ⟨b, 0, none⟩), .int .i64 c] ∧ Held w b (n2 n m) ∧ s ≠ b
theorem IAt.later {w w' : World} {s b : Nat} {n m c : Int} (h : IAt w s b n m c) (hb : Below w.heap.size w w') : IAt w' s b n m c := ⟨h.1.later hb, h.2.1.later hb, h.2.2⟩
theorem IAt.kept {F : List Nat} {w w' : World} {s b : Nat} {n m c : Int} (h : IAt w s b n m c) (hk : Kept F w w') (hs : s ∉ F) (hb : b ∉ F) : IAt w' s b n m c := ⟨hk.held h.1 hs, hk.held h.2.1 hb, h.2.2⟩
theorem IAt.far {w : World} {s b d : Nat} {n m c : Int} (h : IAt w s b n m c) (hs : d ≠ s) (hb : d ≠ b) (j : Nat) (v : Value) : IAt (w.setCell ⟨d, j, none⟩ v) s b n m c := ⟨h.1.far hs j v, h.2.1.far hb j v, h.2.2⟩
theorem IAt.lt {w : World} {s b : Nat} {n m c : Int} (h : IAt w s b n m c) : s < w.heap.size ∧ b < w.heap.size := ⟨h.1.2, h.2.1.2⟩
theorem IAt.drew {w : World} {s b : Nat} {n m c : Int} (h : IAt w s b n m c) : IAt w.drew s b n m c := h
theorem IAt.drewN {w : World} {s b : Nat} {n m c : Int} (h : IAt w s b n m c) (k : Nat) : IAt (w.drewN k) s b n m c := h
theorem IAt.alloc {w : World} {s b : Nat} {n m c : Int} (h : IAt w s b n m c) (o : Obj) : IAt (w.alloc o) s b n m c := h.later (Below.alloc (Below.refl _ _) (Nat.le_refl _) _)
/-- What lay below is as it was, where the issuer's blocks are newer. -/
theorem iown {s b : Nat} {w0 w w' : World} (h : Kept [s, b] w w') (hb : Below w0.heap.size w0 w) (hs : w0.heap.size ≤ s) (hB : w0.heap.size ≤ b) : Below w0.heap.size w0 w' :=
  h.below hb hb.size (fun k hk => by
    rcases List.mem_cons.1 hk with e | e
    · rw [e]; exact hs
    · rw [List.mem_singleton.1 e]; exact hB)
theorem iwiden {s b : Nat} {w w' : World} (h : Kept [b] w w') : Kept [s, b] w w' := h.mono (fun _ hk => .inl (List.mem_cons_of_mem _ hk))

/-- A number that is told, of the block that is open or of the next. -/
theorem bnext_any (b : Nat) (n m : Int) (w : World) (h : Held w b (n2 n m)) (h0 : 0 ≤ n) (h1 : n ≤ m) (h2 : m ≤ 1000) (h3 : m % 8 = 0) (h4 : ¬ n = 1000) :
    Calls Tryz.prog 121 #[.pointer (some ⟨b, 0, none⟩)] w fun e w' => e = .returned (.tuple #[.int .i64 n, .nilIface]) ∧ Held w' b (n2 (n + 1) (IssueM.up n m)) ∧ Kept [b] w w' := by
  by_cases e : n = m
  · subst e
    rw [IssueM.up_same]
    exact bnext_more b n w h h0 (by omega)
  · rw [IssueM.up_less e]
    exact bnext_yes b n m w h h0 (by omega) h2
theorem rbnext_any (b : Nat) (n m : Int) (w : World) (h : Held w b (n2 n m)) (h0 : 0 ≤ n) (h1 : n ≤ m) (h2 : m ≤ 1000) (h3 : m % 8 = 0) (h4 : ¬ n = 1000) :
    Calls Tryz.prog 45 #[.pointer (some ⟨b, 0, none⟩)] w fun e w' => e = .returned (.tuple #[.int .i64 n, .int .i64 0]) ∧ Held w' b (n2 (n + 1) (IssueM.up n m)) ∧ Kept [b] w w' := by
  by_cases e : n = m
  · subst e
    rw [IssueM.up_same]
    exact rbnext_more b n w h h0 (by omega)
  · rw [IssueM.up_less e]
    exact rbnext_yes b n m w h h0 (by omega) h2

theorem inew_any (w : World) : Calls Tryz.prog 50 #[] w fun e w' => ∃ s b, e = .returned (.pointer (some ⟨s, 0, none⟩)) ∧ IAt w' s b 0 0 0 ∧ w.heap.size ≤ s ∧ w.heap.size ≤ b ∧ Below w.heap.size w w' := by
  go_enter Tryz.func50, Tryz.ntmps50
  go_wp2_with fail
  refine (bnew_any _).mono ?_
  rintro e w1 ⟨rfl, h1, hb1⟩
  have H1 := hide h1
  have HB1 := hide hb1
  have z1 := h1.2
  clear h1 hb1
  go_wp2
  go_ret
  exact ⟨_, _, rfl, ⟨Held.fresh (w := w1) [.pointer (some ⟨w.heap.size, 0, none⟩), .int .i64 0] _ rfl, (unhide H1).later (Below.alloc (Below.refl _ _) (Nat.le_refl _) _), by omega⟩, by omega, Nat.le_refl _, Below.alloc (unhide HB1) (by omega) _⟩

theorem icrash_any (s b : Nat) (n m c : Int) (w : World) (h : IAt w s b n m c) :
    Calls Tryz.prog 64 #[.pointer (some ⟨s, 0, none⟩)] w fun e w' => e = .returned (.tuple #[]) ∧ IAt w' s b m m c ∧ Kept [s, b] w w' := by
  obtain ⟨⟨c0, c1⟩, f0, f1⟩ := h.1.c2
  have hl := h.1.2
  have H := hide h
  clear h
  go_enter Tryz.func64, Tryz.ntmps64
  go_wp2_with fail
  refine (bcrash_any b n m _ (unhide H).2.1).mono ?_
  rintro e w1 ⟨rfl, h1, k1⟩
  have H1 := hide (show IAt w1 s b m m c from ⟨k1.held (unhide H).1 (by simp; exact (unhide H).2.2), h1, (unhide H).2.2⟩)
  have K1 := hide (iwiden (s := s) k1)
  clear h1 k1 c0 c1 f0 f1 hl
  go_wp2
  go_end0
  exact ⟨rfl, unhide H1, unhide K1⟩

set_option maxHeartbeats 6400000 in
set_option maxRecDepth 8000 in
theorem iissue_ring (s b : Nat) {ep key old u n m c : Int} (w : World) (h : IAt w s b n m c) (he : ¬ RingM.err ep key old = 0) :
    Calls Tryz.prog 86 #[.pointer (some ⟨s, 0, none⟩), .agg #[.int .i64 ep, .int .i64 key, .int .i64 old], .int .i64 u] w fun e w' => e = .returned (.tuple #[.agg #[.int .i64 0, .int .i64 0, .int .i64 0, .int .i64 0], .iface 85 (.int .i64 (RingM.err ep key old))]) ∧ IAt w' s b n m c ∧ Kept [s, b] w w' := by
  obtain ⟨hsl, hbl⟩ := h.lt
  have hne := h.2.2
  have HI0 := hide h
  have C := hide (fun w => rcheck_no w he)
  generalize RingM.err ep key old = q at C ⊢
  clear he h
  go_enter Tryz.func86, Tryz.ntmps86
  go_wp2_with fail
  refine (unhide C _).mono ?_
  rintro e w1 ⟨rfl, hb1⟩
  have HR1 : Hid (Held w1 w.heap.size (n3 ep key old)) := hide (((Held.fresh (w := w) (n3 ep key old) 56 rfl).later (by (repeat' (first | exact Below.refl _ _ | refine Below.alloc ?_ ?_ _ | refine Below.setCell ?_ ?_ _ | refine Below.drew ?_)); all_goals (first | exact Nat.le_refl _ | omega | (simp; done) | (simp; omega)))).later hb1)
  have HQ1 : Hid (Held w1 (w.heap.size + 1) (n4 0 0 0 0)) := hide ((Held.fresh (w := w.alloc (.cells (n3 ep key old).toArray 56)) (n4 0 0 0 0) 71 (by simp)).later hb1)
  have HI1 := hide (((unhide HI0).later (by (repeat' (first | exact Below.refl _ _ | refine Below.alloc ?_ ?_ _ | refine Below.setCell ?_ ?_ _ | refine Below.drew ?_)); all_goals (first | exact Nat.le_refl _ | omega | (simp; done) | (simp; omega)))).later hb1)
  have HB1 := hide (show Below w.heap.size w w1 from Below.trans (by (repeat' (first | exact Below.refl _ _ | refine Below.alloc ?_ ?_ _ | refine Below.setCell ?_ ?_ _ | refine Below.drew ?_)); all_goals (first | exact Nat.le_refl _ | omega | (simp; done) | (simp; omega))) (hb1.mono (by first | exact Nat.le_refl _ | (simp; done) | (simp; omega))))
  clear hb1
  have z1 := (unhide HQ1).2
  obtain ⟨⟨q0, q1, q2, q3⟩, g0, g1, g2, g3⟩ := (unhide HQ1).c4
  have ql := (unhide HQ1).2
  go_wp2
  refine bodyPost_ret (v := .tuple #[.agg #[.int .i64 0, .int .i64 0, .int .i64 0, .int .i64 0], .iface 85 (.int .i64 q)]) (by simp [results, Tryz.results86, go_sem, q0, q1, q2, q3]) rfl ⟨rfl, ?_, ?_⟩
  · exact ((((unhide HI1).far (d := w.heap.size + 1) (by omega) (by omega) _ _).far (d := w.heap.size + 1) (by omega) (by omega) _ _).far (d := w.heap.size + 1) (by omega) (by omega) _ _).far (d := w.heap.size + 1) (by omega) (by omega) _ _
  · exact ((((Kept.of (F := [s, b]) (unhide HB1)).setCell (p := ⟨w.heap.size + 1, _, none⟩) (.inr (Nat.le_succ _)) _).setCell (p := ⟨w.heap.size + 1, _, none⟩) (.inr (Nat.le_succ _)) _).setCell (p := ⟨w.heap.size + 1, _, none⟩) (.inr (Nat.le_succ _)) _).setCell (p := ⟨w.heap.size + 1, _, none⟩) (.inr (Nat.le_succ _)) _

set_option maxHeartbeats 6400000 in
set_option maxRecDepth 8000 in
theorem iissue_time (s b : Nat) {ep key old u n m c : Int} (w : World) (h : IAt w s b n m c) (he : RingM.err ep key old = 0) (hu : TokenM.timeB u = false) :
    Calls Tryz.prog 86 #[.pointer (some ⟨s, 0, none⟩), .agg #[.int .i64 ep, .int .i64 key, .int .i64 old], .int .i64 u] w fun e w' => e = .returned (.tuple #[.agg #[.int .i64 0, .int .i64 0, .int .i64 0, .int .i64 0], .iface 85 (.int .i64 1)]) ∧ IAt w' s b n m c ∧ Kept [s, b] w w' := by
  obtain ⟨hsl, hbl⟩ := h.lt
  have hne := h.2.2
  have HI0 := hide h
  have C := hide (fun w => rcheck_yes w he)
  have CT := hide (time_any u)
  rw [hu] at CT
  clear he hu h
  go_enter Tryz.func86, Tryz.ntmps86
  go_wp2_with fail
  refine (unhide C _).mono ?_
  rintro e w1 ⟨rfl, hb1⟩
  have HR1 : Hid (Held w1 w.heap.size (n3 ep key old)) := hide (((Held.fresh (w := w) (n3 ep key old) 56 rfl).later (by (repeat' (first | exact Below.refl _ _ | refine Below.alloc ?_ ?_ _ | refine Below.setCell ?_ ?_ _ | refine Below.drew ?_)); all_goals (first | exact Nat.le_refl _ | omega | (simp; done) | (simp; omega)))).later hb1)
  have HQ1 : Hid (Held w1 (w.heap.size + 1) (n4 0 0 0 0)) := hide ((Held.fresh (w := w.alloc (.cells (n3 ep key old).toArray 56)) (n4 0 0 0 0) 71 (by simp)).later hb1)
  have HI1 := hide (((unhide HI0).later (by (repeat' (first | exact Below.refl _ _ | refine Below.alloc ?_ ?_ _ | refine Below.setCell ?_ ?_ _ | refine Below.drew ?_)); all_goals (first | exact Nat.le_refl _ | omega | (simp; done) | (simp; omega)))).later hb1)
  have HB1 := hide (show Below w.heap.size w w1 from Below.trans (by (repeat' (first | exact Below.refl _ _ | refine Below.alloc ?_ ?_ _ | refine Below.setCell ?_ ?_ _ | refine Below.drew ?_)); all_goals (first | exact Nat.le_refl _ | omega | (simp; done) | (simp; omega))) (hb1.mono (by first | exact Nat.le_refl _ | (simp; done) | (simp; omega))))
  clear hb1
  have z1 := (unhide HQ1).2
  go_wp2_with fail
  refine (unhide CT _).mono ?_
  rintro e w' ⟨rfl, rfl⟩
  obtain ⟨⟨q0, q1, q2, q3⟩, g0, g1, g2, g3⟩ := (unhide HQ1).c4
  have ql := (unhide HQ1).2
  go_wp2
  refine bodyPost_ret (v := .tuple #[.agg #[.int .i64 0, .int .i64 0, .int .i64 0, .int .i64 0], .iface 85 (.int .i64 1)]) (by simp [results, Tryz.results86, go_sem, q0, q1, q2, q3]) rfl ⟨rfl, ?_, ?_⟩
  · exact ((((unhide HI1).far (d := w.heap.size + 1) (by omega) (by omega) _ _).far (d := w.heap.size + 1) (by omega) (by omega) _ _).far (d := w.heap.size + 1) (by omega) (by omega) _ _).far (d := w.heap.size + 1) (by omega) (by omega) _ _
  · exact ((((Kept.of (F := [s, b]) (unhide HB1)).setCell (p := ⟨w.heap.size + 1, _, none⟩) (.inr (Nat.le_succ _)) _).setCell (p := ⟨w.heap.size + 1, _, none⟩) (.inr (Nat.le_succ _)) _).setCell (p := ⟨w.heap.size + 1, _, none⟩) (.inr (Nat.le_succ _)) _).setCell (p := ⟨w.heap.size + 1, _, none⟩) (.inr (Nat.le_succ _)) _

set_option maxHeartbeats 6400000 in
set_option maxRecDepth 8000 in
theorem iissue_full (s b : Nat) {ep key old u c : Int} (w : World) (h : IAt w s b 1000 1000 c) (he : RingM.err ep key old = 0) (hu : TokenM.timeB u = true) :
    Calls Tryz.prog 86 #[.pointer (some ⟨s, 0, none⟩), .agg #[.int .i64 ep, .int .i64 key, .int .i64 old], .int .i64 u] w fun e w' => e = .returned (.tuple #[.agg #[.int .i64 0, .int .i64 0, .int .i64 0, .int .i64 0], .iface 85 (.int .i64 4)]) ∧ IAt w' s b 1000 1000 c ∧ Kept [s, b] w w' := by
  obtain ⟨hsl, hbl⟩ := h.lt
  have hne := h.2.2
  have HI0 := hide h
  have C := hide (fun w => rcheck_yes w he)
  have CT := hide (time_any u)
  rw [hu] at CT
  have CN := hide (fun w h => bnext_full b 1000 w h (by omega) (by omega))
  clear he hu h
  go_enter Tryz.func86, Tryz.ntmps86
  go_wp2_with fail
  refine (unhide C _).mono ?_
  rintro e w1 ⟨rfl, hb1⟩
  have HR1 : Hid (Held w1 w.heap.size (n3 ep key old)) := hide (((Held.fresh (w := w) (n3 ep key old) 56 rfl).later (by (repeat' (first | exact Below.refl _ _ | refine Below.alloc ?_ ?_ _ | refine Below.setCell ?_ ?_ _ | refine Below.drew ?_)); all_goals (first | exact Nat.le_refl _ | omega | (simp; done) | (simp; omega)))).later hb1)
  have HQ1 : Hid (Held w1 (w.heap.size + 1) (n4 0 0 0 0)) := hide ((Held.fresh (w := w.alloc (.cells (n3 ep key old).toArray 56)) (n4 0 0 0 0) 71 (by simp)).later hb1)
  have HI1 := hide (((unhide HI0).later (by (repeat' (first | exact Below.refl _ _ | refine Below.alloc ?_ ?_ _ | refine Below.setCell ?_ ?_ _ | refine Below.drew ?_)); all_goals (first | exact Nat.le_refl _ | omega | (simp; done) | (simp; omega)))).later hb1)
  have HB1 := hide (show Below w.heap.size w w1 from Below.trans (by (repeat' (first | exact Below.refl _ _ | refine Below.alloc ?_ ?_ _ | refine Below.setCell ?_ ?_ _ | refine Below.drew ?_)); all_goals (first | exact Nat.le_refl _ | omega | (simp; done) | (simp; omega))) (hb1.mono (by first | exact Nat.le_refl _ | (simp; done) | (simp; omega))))
  clear hb1
  have z1 := (unhide HQ1).2
  go_wp2_with fail
  refine (unhide CT _).mono ?_
  rintro e w' ⟨rfl, rfl⟩
  obtain ⟨⟨s0, s1⟩, sf0, sf1⟩ := (unhide HI1).1.c2
  have sl := (unhide HI1).1.2
  go_wp2_with fail
  refine (unhide CN _ (unhide HI1).2.1).mono ?_
  rintro e w2 ⟨rfl, h2, k2⟩
  clear s0 s1 sf0 sf1 sl
  have HR2 := hide (k2.held (unhide HR1) (by simp; omega))
  have HQ2 := hide (k2.held (unhide HQ1) (by simp; omega))
  have HI2 := hide (show IAt w2 s b 1000 1000 c from ⟨k2.held (unhide HI1).1 (by simp; exact hne), h2, hne⟩)
  have K2 := hide ((Kept.of (F := [s, b]) (unhide HB1)).trans (iwiden k2))
  have z2 := (unhide HQ2).2
  clear h2 k2
  obtain ⟨⟨q0, q1, q2, q3⟩, g0, g1, g2, g3⟩ := (unhide HQ2).c4
  have ql := (unhide HQ2).2
  go_wp2
  refine bodyPost_ret (v := .tuple #[.agg #[.int .i64 0, .int .i64 0, .int .i64 0, .int .i64 0], .iface 85 (.int .i64 4)]) (by simp [results, Tryz.results86, go_sem, q0, q1, q2, q3]) rfl ⟨rfl, ?_, ?_⟩
  · exact ((((unhide HI2).far (d := w.heap.size + 1) (by omega) (by omega) _ _).far (d := w.heap.size + 1) (by omega) (by omega) _ _).far (d := w.heap.size + 1) (by omega) (by omega) _ _).far (d := w.heap.size + 1) (by omega) (by omega) _ _
  · exact ((((unhide K2).setCell (p := ⟨w.heap.size + 1, _, none⟩) (.inr (Nat.le_succ _)) _).setCell (p := ⟨w.heap.size + 1, _, none⟩) (.inr (Nat.le_succ _)) _).setCell (p := ⟨w.heap.size + 1, _, none⟩) (.inr (Nat.le_succ _)) _).setCell (p := ⟨w.heap.size + 1, _, none⟩) (.inr (Nat.le_succ _)) _

set_option maxHeartbeats 6400000 in
set_option maxRecDepth 8000 in
theorem iissue_yes (s b : Nat) {ep key old u n m c : Int} (w : World) (h : IAt w s b n m c) (he : RingM.err ep key old = 0) (hu : TokenM.timeB u = true) (h0 : 0 ≤ n) (h1 : n ≤ m) (h2 : m ≤ 1000) (h3 : m % 8 = 0) (h4 : ¬ n = 1000) (c0 : 0 ≤ c) (c1 : c ≤ 1000) :
    Calls Tryz.prog 86 #[.pointer (some ⟨s, 0, none⟩), .agg #[.int .i64 ep, .int .i64 key, .int .i64 old], .int .i64 u] w fun e w' => e = .returned (.tuple #[.agg #[.int .i64 ep, .int .i64 n, .int .i64 u, .int .i64 (TagM.tag key [2, n, u])], .nilIface]) ∧ IAt w' s b (n + 1) (IssueM.up n m) (c + 1) ∧ Kept [s, b] w w' := by
  obtain ⟨hsl, hbl⟩ := h.lt
  have hne := h.2.2
  have HI0 := hide h
  have C := hide (fun w => rcheck_yes w he)
  have CT := hide (time_any u)
  rw [hu] at CT
  have CN := hide (fun w h => bnext_any b n m w h h0 h1 h2 h3 h4)
  have CM := hide (fun w => kmake_yes w (TokenM.make_zero.2 ⟨he, (TagM.inB_iff n).2 (by omega), hu⟩))
  generalize TagM.tag key [2, n, u] = g at CM ⊢
  generalize IssueM.up n m = m' at CN ⊢
  clear he hu h h1 h2 h3 h4
  go_enter Tryz.func86, Tryz.ntmps86
  go_wp2_with fail
  refine (unhide C _).mono ?_
  rintro e w1 ⟨rfl, hb1⟩
  have HR1 : Hid (Held w1 w.heap.size (n3 ep key old)) := hide (((Held.fresh (w := w) (n3 ep key old) 56 rfl).later (by (repeat' (first | exact Below.refl _ _ | refine Below.alloc ?_ ?_ _ | refine Below.setCell ?_ ?_ _ | refine Below.drew ?_)); all_goals (first | exact Nat.le_refl _ | omega | (simp; done) | (simp; omega)))).later hb1)
  have HQ1 : Hid (Held w1 (w.heap.size + 1) (n4 0 0 0 0)) := hide ((Held.fresh (w := w.alloc (.cells (n3 ep key old).toArray 56)) (n4 0 0 0 0) 71 (by simp)).later hb1)
  have HI1 := hide (((unhide HI0).later (by (repeat' (first | exact Below.refl _ _ | refine Below.alloc ?_ ?_ _ | refine Below.setCell ?_ ?_ _ | refine Below.drew ?_)); all_goals (first | exact Nat.le_refl _ | omega | (simp; done) | (simp; omega)))).later hb1)
  have HB1 := hide (show Below w.heap.size w w1 from Below.trans (by (repeat' (first | exact Below.refl _ _ | refine Below.alloc ?_ ?_ _ | refine Below.setCell ?_ ?_ _ | refine Below.drew ?_)); all_goals (first | exact Nat.le_refl _ | omega | (simp; done) | (simp; omega))) (hb1.mono (by first | exact Nat.le_refl _ | (simp; done) | (simp; omega))))
  clear hb1
  have z1 := (unhide HQ1).2
  go_wp2_with fail
  refine (unhide CT _).mono ?_
  rintro e w' ⟨rfl, rfl⟩
  obtain ⟨⟨s0, s1⟩, sf0, sf1⟩ := (unhide HI1).1.c2
  have sl := (unhide HI1).1.2
  go_wp2_with fail
  refine (unhide CN _ (unhide HI1).2.1).mono ?_
  rintro e w2 ⟨rfl, h2, k2⟩
  clear s0 s1 sf0 sf1 sl
  have HR2 := hide (k2.held (unhide HR1) (by simp; omega))
  have HQ2 := hide (k2.held (unhide HQ1) (by simp; omega))
  have HI2 := hide (show IAt w2 s b (n + 1) m' c from ⟨k2.held (unhide HI1).1 (by simp; exact hne), h2, hne⟩)
  have K2 := hide ((Kept.of (F := [s, b]) (unhide HB1)).trans (iwiden k2))
  have z2 := (unhide HQ2).2
  clear h2 k2
  obtain ⟨r0, r1, r2⟩ := (unhide HR2).c3.1
  have rl := (unhide HR2).2
  go_wp2_with fail
  refine (unhide CM _).mono ?_
  rintro e w3 ⟨rfl, hb3⟩
  clear r0 r1 r2 rl
  have HQ3 := hide ((unhide HQ2).later hb3)
  have HI3 := hide ((unhide HI2).later hb3)
  have K3 := hide ((unhide K2).trans (Kept.of hb3))
  have z3 := (unhide HQ3).2
  have y3 := (unhide HI3).lt
  clear hb3
  obtain ⟨⟨s0, s1⟩, sf0, sf1⟩ := (unhide HI3).1.c2
  have sl := (unhide HI3).1.2
  go_upto_region 13 with fail
  clear s0 s1 sf0 sf1 sl
  have HI5 : Hid (IAt (w3.setCell ⟨s, 1, none⟩ (.int .i64 (c + 1))) s b (n + 1) m' (c + 1)) := hide ⟨(unhide HI3).1.put 1 _, (unhide HI3).2.1.far hne 1 _, hne⟩
  have HQ5 := hide ((unhide HQ3).far (c := s) (by omega) 1 (.int .i64 (c + 1)))
  have K5 := hide ((unhide K3).setCell (p := (⟨s, 1, none⟩ : Addr)) (.inl (by simp)) (.int .i64 (c + 1)))
  have HM4 : Hid (Held ((w3.setCell ⟨s, 1, none⟩ (.int .i64 (c + 1))).alloc (.cells #[.int .i64 ep, .int .i64 n, .int .i64 u, .int .i64 g] 71)) w3.heap.size (n4 ep n u g)) := hide (Held.fresh (n4 ep n u g) 71 (by simp))
  have HQ4 : Hid (Held ((w3.setCell ⟨s, 1, none⟩ (.int .i64 (c + 1))).alloc (.cells #[.int .i64 ep, .int .i64 n, .int .i64 u, .int .i64 g] 71)) (w.heap.size + 1) (n4 0 0 0 0)) := hide ((unhide HQ5).later (Below.alloc (Below.refl _ _) (Nat.le_refl _) _))
  have HI4 : Hid (IAt ((w3.setCell ⟨s, 1, none⟩ (.int .i64 (c + 1))).alloc (.cells #[.int .i64 ep, .int .i64 n, .int .i64 u, .int .i64 g] 71)) s b (n + 1) m' (c + 1)) := hide ((unhide HI5).alloc _)
  have K4 : Hid (Kept [s, b] w ((w3.setCell ⟨s, 1, none⟩ (.int .i64 (c + 1))).alloc (.cells #[.int .i64 ep, .int .i64 n, .int .i64 u, .int .i64 g] 71))) := hide ((unhide K5).alloc _)
  clear HI5 HQ5 K5
  generalize (w3.setCell ⟨s, 1, none⟩ (.int .i64 (c + 1))).alloc (.cells #[.int .i64 ep, .int .i64 n, .int .i64 u, .int .i64 g] 71) = w4 at HM4 HQ4 HI4 K4 ⊢
  obtain ⟨t0, t1, t2, t3⟩ := (unhide HM4).c4.1
  have tl := (unhide HM4).2
  obtain ⟨⟨q0, q1, q2, q3⟩, g0, g1, g2, g3⟩ := (unhide HQ4).c4
  have ql := (unhide HQ4).2
  go_wp2
  refine bodyPost_ret (v := .tuple #[.agg #[.int .i64 ep, .int .i64 n, .int .i64 u, .int .i64 g], .nilIface]) (by simp [results, Tryz.results86, go_sem, q0, q1, q2, q3]) rfl ⟨rfl, ?_, ?_⟩
  · exact ((((unhide HI4).far (d := w.heap.size + 1) (by omega) (by omega) _ _).far (d := w.heap.size + 1) (by omega) (by omega) _ _).far (d := w.heap.size + 1) (by omega) (by omega) _ _).far (d := w.heap.size + 1) (by omega) (by omega) _ _
  · exact ((((unhide K4).setCell (p := ⟨w.heap.size + 1, _, none⟩) (.inr (Nat.le_succ _)) _).setCell (p := ⟨w.heap.size + 1, _, none⟩) (.inr (Nat.le_succ _)) _).setCell (p := ⟨w.heap.size + 1, _, none⟩) (.inr (Nat.le_succ _)) _).setCell (p := ⟨w.heap.size + 1, _, none⟩) (.inr (Nat.le_succ _)) _

/-- Issue, where something is wrong: nothing but the error is told, and all is as it was. -/
theorem iissue_no (s b : Nat) {ep key old u n m c : Int} (w : World) (h : IAt w s b n m c) (h1 : n ≤ m) (h2 : m ≤ 1000) (he : ¬ IssueM.err ep key old u n = 0) :
    Calls Tryz.prog 86 #[.pointer (some ⟨s, 0, none⟩), .agg #[.int .i64 ep, .int .i64 key, .int .i64 old], .int .i64 u] w fun e w' => e = .returned (.tuple #[.agg #[.int .i64 0, .int .i64 0, .int .i64 0, .int .i64 0], .iface 85 (.int .i64 (IssueM.err ep key old u n))]) ∧ IAt w' s b n m c ∧ Kept [s, b] w w' := by
  by_cases hr : RingM.err ep key old = 0
  · cases hu : TokenM.timeB u with
    | false => rw [IssueM.err_time hr hu]; exact iissue_time s b w h hr hu
    | true =>
      have hn : n = 1000 := Classical.not_not.1 (fun hn => he (IssueM.err_zero.2 ⟨hr, hu, hn⟩))
      subst hn
      obtain rfl : m = 1000 := by omega
      rw [IssueM.err_full hr hu]; exact iissue_full s b w h hr hu
  · rw [IssueM.err_ring hr]; exact iissue_ring s b w h hr
end Go.Proofs.YthaicpepgianpakGreatDoor
