/-
  What the calls of package server come to, said of the plain server: New, Waiting, Pull, Ticket, Turn, Crash, and its three helpers.
-/
import Derived.Test.YthaicpepgianpakGreatDoorServerMem
import Derived.Deep.RegionHeld3
import Derived.Deep.DrawnRows
import Derived.Deep.Cut
namespace Go.Proofs.YthaicpepgianpakGreatDoor
open Go.RowKit
set_option linter.unusedVariables false


theorem swait_any {B s : Nat} {F : List Nat} {x : ServM.St} (w : World) (h0 : SOwn B w s F x) (hl8 : x.L.length ≤ 8) :
    Calls Tryz.prog 41 #[.pointer (some ⟨s, 0, none⟩)] w fun e w' => e = .returned (.int .i64 x.L.length) ∧ Below w.heap.size w w' := by
  have H := hide h0
  obtain ⟨q, i, b, v, o, R, c, h, rfl⟩ := h0
  obtain ⟨⟨s0, s1, s2, s3, s4, s5, s6, s7⟩, sf, sl⟩ := h.nums
  have Q := hide (qall_any w h.que hl8)
  clear h hl8
  generalize x.L.length = n at Q ⊢
  go_enter Tryz.func41, Tryz.ntmps41
  go_wp2_with fail
  refine (unhide Q).mono ?_
  rintro e w1 ⟨a, cap, rfl, hp, hb⟩
  have HB := hide hb
  clear hb hp
  go_wp2
  go_ret
  exact ⟨rfl, unhide HB⟩

set_option maxHeartbeats 3200000 in
set_option maxRecDepth 8000 in
theorem spull_none {B s : Nat} {F : List Nat} {x : ServM.St} (w : World) (h0 : SOwn B w s F x) (hL : x.L = []) :
    Calls Tryz.prog 37 #[.pointer (some ⟨s, 0, none⟩)] w fun e w' => e = .returned (.tuple #[.agg #[.int .i64 0, .int .i64 0], .iface 85 (.int .i64 5)]) ∧ SStep B w w' s F x := by
  have H := hide h0
  obtain ⟨q, i, b, v, o, R, c, h, rfl⟩ := h0
  obtain ⟨⟨s0, s1, s2, s3, s4, s5, s6, s7⟩, sf, sl⟩ := h.nums
  have hq := h.que
  rw [hL] at hq
  have h' := h
  have Q := hide (fun W (hW : Below w.heap.size w W) => qpull_none W (hq.later hW))
  clear hq h h'
  go_enter Tryz.func37, Tryz.ntmps37
  go_wp2_with fail
  have HC0 : Hid (Held (w.alloc (.cells #[.int .i64 0, .int .i64 0] 78)) w.heap.size [.int .i64 0, .int .i64 0]) := hide (Held.fresh (w := w) [.int .i64 0, .int .i64 0] 78 rfl)
  have HB0 : Hid (Below w.heap.size w (w.alloc (.cells #[.int .i64 0, .int .i64 0] 78))) := hide (by (repeat' (first | exact Below.refl _ _ | refine Below.alloc ?_ ?_ _ | refine Below.setCell ?_ ?_ _ | refine Below.drew ?_)); all_goals (first | exact Nat.le_refl _ | omega | (simp; done) | (simp; omega)))
  generalize (w.alloc (.cells #[.int .i64 0, .int .i64 0] 78)) = w0 at HC0 HB0 ⊢
  have z0 := (unhide HC0).2
  refine (unhide Q _ (unhide HB0)).mono ?_
  rintro e w1 ⟨rfl, hb⟩
  have HC1 := hide ((unhide HC0).later hb)
  have HB1 := hide (bel3 (unhide HB0) (Below.refl _ _) hb)
  clear hb
  obtain ⟨⟨p0, p1⟩, ⟨pf0, pf1⟩⟩ := (unhide HC1).c2
  have pl := (unhide HC1).2
  go_wp2
  exact bodyPost_ret (v := .tuple #[.agg #[.int .i64 0, .int .i64 0], .iface 85 (.int .i64 5)]) (by simp [results, Tryz.results37, go_sem, p0, p1]) rfl ⟨rfl, SStep.same (unhide H) (by (repeat' (first | exact Below.refl _ _ | refine Below.alloc ?_ ?_ _ | refine Below.setCell ?_ ?_ _ | refine Below.drew ?_ | refine Below.trans ?_ (Below.mono (unhide HB1) ?_))); all_goals (first | exact Nat.le_refl _ | omega | (simp; done) | (simp; omega)))⟩

set_option maxHeartbeats 3200000 in
set_option maxRecDepth 8000 in
theorem spull_yes {B s : Nat} {F : List Nat} {x : ServM.St} {t m : Int} {r : List (Int × Int)} (w : World) (h0 : SOwn B w s F x) (hL : x.L = (t, m) :: r) (hr : r.length < 8) :
    Calls Tryz.prog 37 #[.pointer (some ⟨s, 0, none⟩)] w fun e w' => e = .returned (.tuple #[.agg #[.int .i64 t, .int .i64 m], .nilIface]) ∧ SStep B w w' s F { x with L := r } := by
  have H := hide h0
  obtain ⟨q, i, b, v, o, R, c, h, rfl⟩ := h0
  obtain ⟨⟨s0, s1, s2, s3, s4, s5, s6, s7⟩, sf, sl⟩ := h.nums
  have hq := h.que
  rw [hL] at hq
  have h' := h
  have Q := hide (fun W (hW : Below w.heap.size w W) => qpull_yes W (hq.later hW) hr)
  have HS : Hid (∀ W, Below w.heap.size w W → ∀ w', QStep 153 B W w' q o r → SStep B W w' s (foot s q i b v o R) { x with L := r }) := hide (fun W hW w' hs => (h'.later hW).queStep hs)
  clear hq h h'
  go_enter Tryz.func37, Tryz.ntmps37
  go_wp2_with fail
  have HC0 : Hid (Held (w.alloc (.cells #[.int .i64 0, .int .i64 0] 78)) w.heap.size [.int .i64 0, .int .i64 0]) := hide (Held.fresh (w := w) [.int .i64 0, .int .i64 0] 78 rfl)
  have HB0 : Hid (Below w.heap.size w (w.alloc (.cells #[.int .i64 0, .int .i64 0] 78))) := hide (by (repeat' (first | exact Below.refl _ _ | refine Below.alloc ?_ ?_ _ | refine Below.setCell ?_ ?_ _ | refine Below.drew ?_)); all_goals (first | exact Nat.le_refl _ | omega | (simp; done) | (simp; omega)))
  generalize (w.alloc (.cells #[.int .i64 0, .int .i64 0] 78)) = w0 at HC0 HB0 ⊢
  have z0 := (unhide HC0).2
  refine (unhide Q _ (unhide HB0)).mono ?_
  rintro e w1 ⟨rfl, hs⟩
  have HS1 := hide (unhide HS _ (unhide HB0) _ hs)
  have HC1 := hide ((unhide HS1).held ((unhide H).out (Nat.le_refl _)) (unhide HC0))
  clear hs HS
  obtain ⟨⟨p0, p1⟩, ⟨pf0, pf1⟩⟩ := (unhide HC1).c2
  have pl := (unhide HC1).2
  go_wp2
  exact bodyPost_ret (v := .tuple #[.agg #[.int .i64 t, .int .i64 m], .nilIface]) (by simp [results, Tryz.results37, go_sem, p0, p1]) rfl ⟨rfl, (unhide HS1).far (d := w.heap.size) (unhide HB0) (unhide H) (Nat.le_refl _) z0 (((Kept.refl [w.heap.size] w1).setCell (.inl (List.mem_singleton.2 rfl)) _).setCell (.inl (List.mem_singleton.2 rfl)) _)⟩

set_option maxHeartbeats 3200000 in
set_option maxRecDepth 8000 in
theorem sturn_no {B s : Nat} {F : List Nat} {x : ServM.St} (w : World) (h0 : SOwn B w s F x) (ht : ¬ RingM.turnErr x.ep x.key x.old = 0) :
    Calls Tryz.prog 38 #[.pointer (some ⟨s, 0, none⟩)] w fun e w' => e = .returned (.iface 85 (.int .i64 (RingM.turnErr x.ep x.key x.old))) ∧ SStep B w w' s F x := by
  have H := hide h0
  obtain ⟨q, i, b, v, o, R, c, h, rfl⟩ := h0
  obtain ⟨⟨s0, s1, s2, s3, s4, s5, s6, s7⟩, sf, sl⟩ := h.nums
  have C := hide (fun w => rturn_no w ht)
  generalize RingM.turnErr x.ep x.key x.old = q at C ⊢
  clear h ht sf
  go_enter Tryz.func38, Tryz.ntmps38
  go_wp2_with fail
  refine (unhide C _).mono ?_
  rintro e w1 ⟨rfl, hb⟩
  have HB1 := hide hb
  clear hb
  go_wp2
  go_ret
  exact ⟨rfl, SStep.same (unhide H) (below_alloc (unhide HB1) _)⟩

set_option maxHeartbeats 3200000 in
set_option maxRecDepth 8000 in
theorem sturn_yes {B s : Nat} {F : List Nat} {x : ServM.St} (w : World) (h0 : SOwn B w s F x) (ht : RingM.turnErr x.ep x.key x.old = 0) :
    Calls Tryz.prog 38 #[.pointer (some ⟨s, 0, none⟩)] w fun e w' => e = .returned (.nilIface) ∧ SStep B w w' s F { x with ep := x.ep + 1, key := TagM.tag x.key [x.ep + 1], old := x.key } := by
  have H := hide h0
  obtain ⟨q, i, b, v, o, R, c, h, rfl⟩ := h0
  obtain ⟨⟨s0, s1, s2, s3, s4, s5, s6, s7⟩, sf, sl⟩ := h.nums
  have C := hide (fun w => rturn_yes w ht)
  have HS := hide (fun W (hW : Below w.heap.size w W) => (h.later hW).meAt (w' := ((W.setCell ⟨s, 0, none⟩ (.int .i64 (x.ep + 1))).setCell ⟨s, 1, none⟩ (.int .i64 (TagM.tag x.key [x.ep + 1]))).setCell ⟨s, 2, none⟩ (.int .i64 x.key)) (y := { x with ep := x.ep + 1, key := TagM.tag x.key [x.ep + 1], old := x.key })
    ((((Kept.refl [s] W).setCell (.inl (List.mem_singleton.2 rfl)) _).setCell (.inl (List.mem_singleton.2 rfl)) _).setCell (.inl (List.mem_singleton.2 rfl)) _)
    (by rw [heap_put (heap_put (heap_put (h.later hW).me _) _) _]; rfl) rfl rfl rfl rfl rfl)
  have f0 := sf 0
  have f1 := sf 1
  have f2 := sf 2
  generalize TagM.tag x.key [x.ep + 1] = g at C HS ⊢
  clear h ht sf
  go_enter Tryz.func38, Tryz.ntmps38
  go_wp2_with fail
  refine (unhide C _).mono ?_
  rintro e w1 ⟨rfl, hb⟩
  have HB1 := hide hb
  have a0 := hide (cell_later hb s0)
  have a1 := hide (cell_later hb s1)
  have a2 := hide (cell_later hb s2)
  have g0 : w1.frozen? ⟨s, 0, none⟩ = false := (hb.frozen sl).trans f0
  have g1 : w1.frozen? ⟨s, 1, none⟩ = false := (hb.frozen sl).trans f1
  have g2 : w1.frozen? ⟨s, 2, none⟩ = false := (hb.frozen sl).trans f2
  have l1 : s < w1.heap.size := Nat.lt_of_lt_of_le sl hb.size
  have b0 := unhide a0
  have b1 := unhide a1
  have b2 := unhide a2
  clear hb a0 a1 a2 s0 s1 s2 f0 f1 f2
  go_wp2
  go_ret
  refine ⟨rfl, ?_⟩
  exact (SStep.behind (unhide HB1) ⟨_, (unhide HS _ (unhide HB1)).1.own, (unhide HS _ (unhide HB1)).2⟩).ahead (Below.alloc (Below.refl _ _) (Nat.le_refl _) _)

theorem sturn_any {B s : Nat} {F : List Nat} {x : ServM.St} (w : World) (h0 : SOwn B w s F x) : Calls Tryz.prog 38 #[.pointer (some ⟨s, 0, none⟩)] w fun e w' => e = .returned (errV (RingM.turnErr x.ep x.key x.old)) ∧ SStep B w w' s F (ServM.turn x) := by
  unfold ServM.turn
  by_cases ht : RingM.turnErr x.ep x.key x.old = 0
  · rw [errV_zero ht, if_pos ht]; exact sturn_yes w h0 ht
  · rw [errV_pos ht, if_neg ht]; exact sturn_no w h0 ht

set_option maxHeartbeats 3200000 in
set_option maxRecDepth 8000 in
theorem scrash_any {B s : Nat} {F : List Nat} {x : ServM.St} (w : World) (NM : x.n ≤ x.m) (h0 : SOwn B w s F x) :
    Calls Tryz.prog 39 #[.pointer (some ⟨s, 0, none⟩)] w fun e w' => e = .returned (.tuple #[]) ∧ SStep B w w' s F (ServM.crash x) := by
  have H := hide h0
  obtain ⟨q, i, b, v, o, R, c, h, rfl⟩ := h0
  obtain ⟨⟨s0, s1, s2, s3, s4, s5, s6, s7⟩, sf, sl⟩ := h.nums
  have hBw : B ≤ w.heap.size := Nat.le_trans h.base (Nat.le_of_lt sl)
  have Q := hide (qnew_any w)
  have f3 := sf 3
  have HH := hide h
  clear sf h
  go_enter Tryz.func39, Tryz.ntmps39
  go_wp2_with fail
  refine (unhide Q).mono ?_
  rintro e w1 ⟨rfl, hq, hb⟩
  obtain ⟨h1, k1⟩ := (unhide HH).newQueue hq hb hBw
  have a3 : w1.cell? ⟨s, 3, none⟩ = some (.pointer (some ⟨q, 0, none⟩)) := cell_later hb s3
  have g3 : w1.frozen? ⟨s, 3, none⟩ = false := (hb.frozen sl).trans f3
  have l1 : s < w1.heap.size := Nat.lt_of_lt_of_le sl hb.size
  clear hq hb s0 s1 s2 s3 s4 s5 s6 s7 f3 Q sl
  obtain ⟨⟨-, -, -, -, e4, -, -, -⟩, -, el⟩ := h1.nums
  have HH1 := hide h1
  have K1 := hide k1
  clear h1 k1
  go_wp2_with fail
  refine (icrash_any i b _ _ c _ (unhide HH1).iss).mono ?_
  rintro e w2 ⟨rfl, hi, hk⟩
  obtain ⟨h2, k2⟩ := (unhide HH1).issAt hi hk (unhide HH1).c0 (Int.le_trans (unhide HH1).cn NM)
  clear a3 g3 l1 e4 el hi hk
  obtain ⟨⟨-, -, -, -, -, e5, -, -⟩, -, el⟩ := h2.nums
  have HH2 := hide h2
  have K2 := hide ((unhide K1).trans k2)
  clear h2 k2
  go_wp2_with fail
  refine (vcrash_own _ (unhide HH2).vau).mono ?_
  rintro e w3 ⟨rfl, hs⟩
  obtain ⟨R', h3, k3⟩ := (unhide HH2).vauAt hs
  have H3 := hide (show SStep B w w3 s (foot s q i b v o R) (ServM.crash x) from ⟨_, h3.own, (unhide K2).trans k3⟩)
  clear e5 el hs h3 k3
  go_wp2
  go_end0
  exact ⟨rfl, unhide H3⟩

/-- A ticket of an issuer, every way. -/
theorem siss_any {i b : Nat} {c u : Int} {x : ServM.St} (w : World) (g : ServM.Good x) (h : IAt w i b x.n x.m c) (c0 : 0 ≤ c) (cn : c ≤ x.n) :
    Calls Tryz.prog 86 #[.pointer (some ⟨i, 0, none⟩), .agg #[.int .i64 x.ep, .int .i64 x.key, .int .i64 x.old], .int .i64 u] w fun e w' => e = .returned (.tuple #[.agg #[.int .i64 (ServM.tEp x u), .int .i64 (ServM.tNo x u), .int .i64 (ServM.tUn x u), .int .i64 (ServM.tTg x u)], errV (ServM.tErr x u)]) ∧ ∃ c', IAt w' i b (ServM.tick x u).n (ServM.tick x u).m c' ∧ 0 ≤ c' ∧ c' ≤ (ServM.tick x u).n ∧ Kept [i, b] w w' := by
  have hr := g.ring
  have q1 := g.nm
  have q2 := g.m1
  by_cases hu : TokenM.timeB u = true
  · by_cases hn : x.n = 1000
    · have e : ServM.tErr x u = 4 := by unfold ServM.tErr; rw [if_pos hu, if_pos hn]
      have hI : IssueM.err x.ep x.key x.old u x.n = 4 := by rw [hn]; exact IssueM.err_full hr hu
      unfold ServM.tEp ServM.tNo ServM.tUn ServM.tTg ServM.tick
      rw [e, if_neg (by omega), if_neg (by omega), if_neg (by omega), if_neg (by omega), if_neg (by omega), errV_pos (by omega), ← hI]
      refine (iissue_no i b w h q1 q2 (by omega)).mono ?_
      rintro e w1 ⟨rfl, h1, h2⟩
      exact ⟨rfl, c, h1, c0, cn, h2⟩
    · have e : ServM.tErr x u = 0 := by unfold ServM.tErr; rw [if_pos hu, if_neg hn]
      unfold ServM.tEp ServM.tNo ServM.tUn ServM.tTg ServM.tick
      rw [e, if_pos rfl, if_pos rfl, if_pos rfl, if_pos rfl, if_pos rfl, errV_zero rfl]
      refine (iissue_yes i b w h hr hu g.n0 q1 q2 g.m8 hn c0 (by omega)).mono ?_
      rintro e w1 ⟨rfl, h1, h2⟩
      exact ⟨rfl, c + 1, h1, by omega, by show c + 1 ≤ x.n + 1; omega, h2⟩
  · have hu' : TokenM.timeB u = false := by simpa using hu
    have e : ServM.tErr x u = 1 := by unfold ServM.tErr; rw [if_neg hu]
    have hI : IssueM.err x.ep x.key x.old u x.n = 1 := IssueM.err_time hr hu'
    unfold ServM.tEp ServM.tNo ServM.tUn ServM.tTg ServM.tick
    rw [e, if_neg (by omega), if_neg (by omega), if_neg (by omega), if_neg (by omega), if_neg (by omega), errV_pos (by omega), ← hI]
    refine (iissue_no i b w h q1 q2 (by omega)).mono ?_
    rintro e w1 ⟨rfl, h1, h2⟩
    exact ⟨rfl, c, h1, c0, cn, h2⟩
theorem iwid3 {d i b : Nat} {w w' : World} (h : Kept [i, b] w w') : Kept [d, i, b] w w' := h.mono (fun _ hk => .inl (List.mem_cons_of_mem _ hk))
theorem tick_eq (x : ServM.St) (u : Int) : { x with n := (ServM.tick x u).n, m := (ServM.tick x u).m } = ServM.tick x u := by
  unfold ServM.tick
  split <;> rfl

set_option maxHeartbeats 3200000 in
set_option maxRecDepth 8000 in
theorem sticket_any {u : Int} {B s : Nat} {F : List Nat} {x : ServM.St} (w : World) (h0 : SOwn B w s F x) (g : ServM.Good x) :
    Calls Tryz.prog 60 #[.pointer (some ⟨s, 0, none⟩), .int .i64 u] w fun e w' => e = .returned (.tuple #[.agg #[.int .i64 (ServM.tEp x u), .int .i64 (ServM.tNo x u), .int .i64 (ServM.tUn x u), .int .i64 (ServM.tTg x u)], errV (ServM.tErr x u)]) ∧ SStep B w w' s F (ServM.tick x u) := by
  have H := hide h0
  obtain ⟨q, i, b, v, o, R, c, h, rfl⟩ := h0
  obtain ⟨⟨s0, s1, s2, s3, s4, s5, s6, s7⟩, sf, sl⟩ := h.nums
  have CI := hide (fun W (hI : IAt W i b x.n x.m c) => siss_any (u := u) W g hI h.c0 h.cn)
  have HW : Hid (∀ W, (Below w.heap.size w W ∧ w.heap.size < W.heap.size) → ∀ w' c', IAt w' i b (ServM.tick x u).n (ServM.tick x u).m c' → Kept [i, b] W w' → 0 ≤ c' → c' ≤ (ServM.tick x u).n → ∃ W, Below w.heap.size w W ∧ w.heap.size < W.heap.size ∧ SStep B W w' s (foot s q i b v o R) (ServM.tick x u)) :=
    hide (fun W hW w' c' hi hk k0 k1 => ⟨W, hW.1, hW.2, by
      have e := (h.later hW.1).issAt hi hk k0 k1
      rw [tick_eq] at e
      exact ⟨_, e.1.own, e.2⟩⟩)
  have HI := hide h.iss
  have si := h.si s (List.mem_singleton.2 rfl)
  have hil := h.iss.lt
  clear h sf
  generalize (ServM.tick x u).n = tn at CI HW
  generalize (ServM.tick x u).m = tm at CI HW
  generalize ServM.tick x u = y at HW ⊢
  generalize ServM.tEp x u = u0 at CI ⊢
  generalize ServM.tNo x u = u1 at CI ⊢
  generalize ServM.tUn x u = u2 at CI ⊢
  generalize ServM.tTg x u = u3 at CI ⊢
  generalize errV (ServM.tErr x u) = ev at CI ⊢
  go_enter Tryz.func60, Tryz.ntmps60
  go_wp2_with fail
  have HD0 : Hid (Held (w.alloc (.cells #[.int .i64 0, .int .i64 0, .int .i64 0, .int .i64 0] 71)) w.heap.size (n4 0 0 0 0)) := hide (Held.fresh (w := w) (n4 0 0 0 0) 71 rfl)
  have HB0 : Hid (Below w.heap.size w (w.alloc (.cells #[.int .i64 0, .int .i64 0, .int .i64 0, .int .i64 0] 71))) := hide (Below.alloc (Below.refl _ _) (Nat.le_refl _) _)
  have t0 := hide (cell_later (unhide HB0) s0)
  have t1 := hide (cell_later (unhide HB0) s1)
  have t2 := hide (cell_later (unhide HB0) s2)
  have t4 := hide (cell_later (unhide HB0) s4)
  have HI0 := hide ((unhide HI).later (unhide HB0))
  clear s0 s1 s2 s3 s4 s5 s6 s7 HI
  generalize (w.alloc (.cells #[.int .i64 0, .int .i64 0, .int .i64 0, .int .i64 0] 71)) = w0 at HD0 HB0 t0 t1 t2 t4 HI0 ⊢
  have z0 := (unhide HD0).2
  obtain ⟨⟨p0, p1, p2, p3⟩, ⟨pf0, pf1, pf2, pf3⟩⟩ := (unhide HD0).c4
  have b0 := unhide t0
  have b1 := unhide t1
  have b2 := unhide t2
  have b4 := unhide t4
  have sl0 : s < w0.heap.size := by omega
  have sm : s ∉ [w.heap.size, i, b] := by
    intro hm
    rcases List.mem_cons.1 hm with e | e
    · omega
    · exact si e
  have dm : w.heap.size ∉ [i, b] := by simp; omega
  have RS : Hid (∀ W : World, Kept [w.heap.size, i, b] w0 W → Hid (Kept [w.heap.size, i, b] w0 W) ∧ W.cell? ⟨s, 4, none⟩ = some (.pointer (some ⟨i, 0, none⟩)) ∧ W.cell? ⟨s, 0, none⟩ = some (.int .i64 x.ep) ∧ W.cell? ⟨s, 1, none⟩ = some (.int .i64 x.key) ∧ W.cell? ⟨s, 2, none⟩ = some (.int .i64 x.old)) := hide (fun W hk => ⟨hide hk, by rw [hk.cell sl0 sm]; exact unhide t4, by rw [hk.cell sl0 sm]; exact unhide t0, by rw [hk.cell sl0 sm]; exact unhide t1, by rw [hk.cell sl0 sm]; exact unhide t2⟩)
  go_region_held3 (fun w' => Hid (Kept [w.heap.size, i, b] w0 w') ∧ w'.cell? ⟨s, 4, none⟩ = some (.pointer (some ⟨i, 0, none⟩)) ∧ w'.cell? ⟨s, 0, none⟩ = some (.int .i64 x.ep) ∧ w'.cell? ⟨s, 1, none⟩ = some (.int .i64 x.key) ∧ w'.cell? ⟨s, 2, none⟩ = some (.int .i64 x.old))
    (exact unhide RS _ (by repeat' (first | exact Kept.refl _ _ | exact unhide (And.left ‹Hid (Kept [w.heap.size, i, b] w0 _) ∧ _›) | exact Kept.trans (unhide (And.left ‹Hid (Kept [w.heap.size, i, b] w0 _) ∧ _›)) hk | exact Kept.trans (Kept.refl _ _).drew hk | exact hk | refine Kept.drew ?_ | refine Kept.alloc ?_ _ | refine Kept.setCell (F := [w.heap.size, i, b]) (p := ⟨w.heap.size, _, none⟩) ?_ (.inl (List.mem_cons_self ..)) _)))
    (first | (go_at_call 86; refine (unhide CI _ (by first | exact unhide HI0 | exact (unhide HI0).drew)).mono ?_; rintro e w1 ⟨rfl, c', hi, k0, k1, hk'⟩; have hk := iwid3 (d := w.heap.size) hk'; have hs := unhide HW _ (by first | exact ⟨unhide HB0, z0⟩ | exact ⟨below_drew (unhide HB0), z0⟩) _ _ hi hk' k0 k1; have hd := hide (hk'.held (by first | exact unhide HD0 | exact (unhide HD0).drew) dm); have hdc := (unhide hd).c4; have hdl := (unhide hd).2; obtain ⟨⟨x0, x1, x2, x3⟩, ⟨xf0, xf1, xf2, xf3⟩⟩ := hdc))
  obtain ⟨W, hw, hz, hss⟩ := hs
  have HDF : Hid (Held ((((w1.setCell ⟨w.heap.size, 0, none⟩ (.int .i64 u0)).setCell ⟨w.heap.size, 1, none⟩ (.int .i64 u1)).setCell ⟨w.heap.size, 2, none⟩ (.int .i64 u2)).setCell ⟨w.heap.size, 3, none⟩ (.int .i64 u3)) w.heap.size (n4 u0 u1 u2 u3)) := hide (((((unhide hd).put 0 (.int .i64 u0)).put 1 (.int .i64 u1)).put 2 (.int .i64 u2)).put 3 (.int .i64 u3))
  have HSF : Hid (SStep B w ((((w1.setCell ⟨w.heap.size, 0, none⟩ (.int .i64 u0)).setCell ⟨w.heap.size, 1, none⟩ (.int .i64 u1)).setCell ⟨w.heap.size, 2, none⟩ (.int .i64 u2)).setCell ⟨w.heap.size, 3, none⟩ (.int .i64 u3)) s (foot s q i b v o R) y) := hide (hss.far hw (unhide H) (Nat.le_refl _) hz (Kept.setCell (p := ⟨w.heap.size, 3, none⟩) (Kept.setCell (p := ⟨w.heap.size, 2, none⟩) (Kept.setCell (p := ⟨w.heap.size, 1, none⟩) (Kept.setCell (p := ⟨w.heap.size, 0, none⟩) (Kept.refl [w.heap.size] w1) (.inl (List.mem_singleton.2 rfl)) (.int .i64 u0)) (.inl (List.mem_singleton.2 rfl)) (.int .i64 u1)) (.inl (List.mem_singleton.2 rfl)) (.int .i64 u2)) (.inl (List.mem_singleton.2 rfl)) (.int .i64 u3)))
  clear hss hw hz hi hk hk' k0 k1 hd x0 x1 x2 x3 xf0 xf1 xf2 xf3 hdl
  go_wp2
  generalize ((((w1.setCell ⟨w.heap.size, 0, none⟩ (.int .i64 u0)).setCell ⟨w.heap.size, 1, none⟩ (.int .i64 u1)).setCell ⟨w.heap.size, 2, none⟩ (.int .i64 u2)).setCell ⟨w.heap.size, 3, none⟩ (.int .i64 u3)) = wf at HDF HSF ⊢
  obtain ⟨e0, e1, e2, e3⟩ := (unhide HDF).c4.1
  exact bodyPost_ret (v := .tuple #[.agg #[.int .i64 u0, .int .i64 u1, .int .i64 u2, .int .i64 u3], ev]) (by simp [results, Tryz.results60, go_sem, e0, e1, e2, e3]) rfl ⟨rfl, unhide HSF⟩

set_option maxHeartbeats 3200000 in
set_option maxRecDepth 8000 in
theorem sretry_yes {B s : Nat} {F : List Nat} {x : ServM.St} {a now : Int} (w : World) (h0 : SOwn B w s F x) (hm : TokenM.makeErr x.ep x.key x.old a now = 0) :
    Calls Tryz.prog 83 #[.pointer (some ⟨s, 0, none⟩), .int .i64 a, .int .i64 now] w fun e w' => e = .returned (.tuple #[.agg #[.int .i64 0, .int .i64 x.ep, .int .i64 a, .int .i64 now, .int .i64 (TagM.tag x.key [1, a, now]), .int .i64 0, .int .i64 0, .bool false], .nilIface]) ∧ Below w.heap.size w w' := by
  have H := hide h0
  obtain ⟨q, i, b, v, o, R, c, h, rfl⟩ := h0
  obtain ⟨⟨s0, s1, s2, s3, s4, s5, s6, s7⟩, sf, sl⟩ := h.nums
  have C := hide (fun w => tmake_yes w hm)
  generalize TagM.tag x.key [1, a, now] = g at C ⊢
  clear h hm sf
  go_enter Tryz.func83, Tryz.ntmps83
  go_wp2_with fail
  have HA0 : Hid (Held (w.alloc (.cells #[.int .i64 0, .int .i64 0, .int .i64 0, .int .i64 0, .int .i64 0, .int .i64 0, .int .i64 0, .bool false] 104)) w.heap.size (na 0 0 0 0 0 0 false)) := hide (Held.fresh (w := w) (na 0 0 0 0 0 0 false) 104 rfl)
  have HB0 : Hid (Below w.heap.size w (w.alloc (.cells #[.int .i64 0, .int .i64 0, .int .i64 0, .int .i64 0, .int .i64 0, .int .i64 0, .int .i64 0, .bool false] 104))) := hide (Below.alloc (Below.refl _ _) (Nat.le_refl _) _)
  clear s0 s1 s2 s3 s4 s5 s6 s7
  generalize (w.alloc (.cells #[.int .i64 0, .int .i64 0, .int .i64 0, .int .i64 0, .int .i64 0, .int .i64 0, .int .i64 0, .bool false] 104)) = w0 at HA0 HB0 ⊢
  refine (unhide C _).mono ?_
  rintro e w1 ⟨rfl, hb⟩
  have HA1 := hide ((unhide HA0).later hb)
  have HB1 := hide (bel3 (unhide HB0) (Below.refl _ _) hb)
  clear hb
  obtain ⟨⟨u0, u1, u2, u3, u4, u5, u6, u7⟩, ⟨v0, v1, v2, v3, v4, v5, v6, v7⟩⟩ := (unhide HA1).c8
  have ul := (unhide HA1).2
  go_wp2
  have HAF : Hid (Held (((((((((w1.setCell ⟨w.heap.size, 0, none⟩ (.int .i64 0)).setCell ⟨w.heap.size, 1, none⟩ (.int .i64 x.ep)).setCell ⟨w.heap.size, 2, none⟩ (.int .i64 a)).setCell ⟨w.heap.size, 3, none⟩ (.int .i64 now)).setCell ⟨w.heap.size, 4, none⟩ (.int .i64 g)).setCell ⟨w.heap.size, 5, none⟩ (.int .i64 0)).setCell ⟨w.heap.size, 6, none⟩ (.int .i64 0)).setCell ⟨w.heap.size, 7, none⟩ (.bool false)).alloc (.cells #[.int .i64 x.ep, .int .i64 a, .int .i64 now, .int .i64 g] 69)) w.heap.size (na 0 x.ep a now g 0 false)) := hide ((((((((((unhide HA1).put 0 (.int .i64 0)).put 1 (.int .i64 x.ep)).put 2 (.int .i64 a)).put 3 (.int .i64 now)).put 4 (.int .i64 g)).put 5 (.int .i64 0)).put 6 (.int .i64 0)).put 7 (.bool false)).alloc (.cells #[.int .i64 x.ep, .int .i64 a, .int .i64 now, .int .i64 g] 69))
  have HBF : Hid (Below w.heap.size w (((((((((w1.setCell ⟨w.heap.size, 0, none⟩ (.int .i64 0)).setCell ⟨w.heap.size, 1, none⟩ (.int .i64 x.ep)).setCell ⟨w.heap.size, 2, none⟩ (.int .i64 a)).setCell ⟨w.heap.size, 3, none⟩ (.int .i64 now)).setCell ⟨w.heap.size, 4, none⟩ (.int .i64 g)).setCell ⟨w.heap.size, 5, none⟩ (.int .i64 0)).setCell ⟨w.heap.size, 6, none⟩ (.int .i64 0)).setCell ⟨w.heap.size, 7, none⟩ (.bool false)).alloc (.cells #[.int .i64 x.ep, .int .i64 a, .int .i64 now, .int .i64 g] 69))) := hide (below_alloc (below_set (below_set (below_set (below_set (below_set (below_set (below_set (below_set (unhide HB1) (Nat.le_refl _) 0 (.int .i64 0)) (Nat.le_refl _) 1 (.int .i64 x.ep)) (Nat.le_refl _) 2 (.int .i64 a)) (Nat.le_refl _) 3 (.int .i64 now)) (Nat.le_refl _) 4 (.int .i64 g)) (Nat.le_refl _) 5 (.int .i64 0)) (Nat.le_refl _) 6 (.int .i64 0)) (Nat.le_refl _) 7 (.bool false)) (.cells #[.int .i64 x.ep, .int .i64 a, .int .i64 now, .int .i64 g] 69))
  generalize (((((((((w1.setCell ⟨w.heap.size, 0, none⟩ (.int .i64 0)).setCell ⟨w.heap.size, 1, none⟩ (.int .i64 x.ep)).setCell ⟨w.heap.size, 2, none⟩ (.int .i64 a)).setCell ⟨w.heap.size, 3, none⟩ (.int .i64 now)).setCell ⟨w.heap.size, 4, none⟩ (.int .i64 g)).setCell ⟨w.heap.size, 5, none⟩ (.int .i64 0)).setCell ⟨w.heap.size, 6, none⟩ (.int .i64 0)).setCell ⟨w.heap.size, 7, none⟩ (.bool false)).alloc (.cells #[.int .i64 x.ep, .int .i64 a, .int .i64 now, .int .i64 g] 69)) = wf at HAF HBF ⊢
  obtain ⟨u0, u1, u2, u3, u4, u5, u6, u7⟩ := (unhide HAF).c8.1
  exact bodyPost_ret (v := .tuple #[.agg #[.int .i64 0, .int .i64 x.ep, .int .i64 a, .int .i64 now, .int .i64 g, .int .i64 0, .int .i64 0, .bool false], .nilIface]) (by simp [results, Tryz.results83, go_sem, u0, u1, u2, u3, u4, u5, u6, u7]) rfl ⟨rfl, unhide HBF⟩

theorem QStep.keep {T : TypeId} {B : Nat} {w w' : World} {b : Nat} {o : Option Nat} {L : List (Int × Int)} (h : QStep T B w w' b o L) : Kept (b :: o.toList) w w' := by
  obtain ⟨_, _, _, h3⟩ := h
  exact h3

set_option maxHeartbeats 3200000 in
set_option maxRecDepth 8000 in
theorem sadmit_full {B s : Nat} {F : List Nat} {x : ServM.St} (w : World) (h0 : SOwn B w s F x) (hk : x.k = 4096) :
    Calls Tryz.prog 84 #[.pointer (some ⟨s, 0, none⟩)] w fun e w' => e = .returned (.tuple #[.agg #[.int .i64 0, .int .i64 0], .iface 85 (.int .i64 4)]) ∧ Below w.heap.size w w' := by
  have H := hide h0
  obtain ⟨q, i, b, v, o, R, c, h, rfl⟩ := h0
  obtain ⟨⟨s0, s1, s2, s3, s4, s5, s6, s7⟩, sf, sl⟩ := h.nums
  rw [hk] at s7
  clear h sf hk
  go_enter Tryz.func84, Tryz.ntmps84
  go_wp2
  exact bodyPost_ret (v := .tuple #[.agg #[.int .i64 0, .int .i64 0], .iface 85 (.int .i64 4)]) (by simp [results, Tryz.results84, go_sem]) rfl ⟨rfl, (by (repeat' (first | exact Below.refl _ _ | refine Below.alloc ?_ ?_ _ | refine Below.setCell ?_ ?_ _ | refine Below.drew ?_)); all_goals (first | exact Nat.le_refl _ | omega | (simp; done) | (simp; omega)))⟩

set_option maxHeartbeats 3200000 in
set_option maxRecDepth 8000 in
theorem sadmit_yes {B s : Nat} {F : List Nat} {x : ServM.St} (w : World) (h0 : SOwn B w s F x) (g : ServM.Good x) (hk : x.k < 4096) (hl : x.L.length < 8) :
    Calls Tryz.prog 84 #[.pointer (some ⟨s, 0, none⟩)] w fun e w' => e = .returned (.tuple #[.agg #[.int .i64 0, .int .i64 x.k], .nilIface]) ∧ SStep B w w' s F { x with L := x.L ++ [(0, x.k)], k := x.k + 1 } := by
  have H := hide h0
  obtain ⟨q, i, b, v, o, R, c, h, rfl⟩ := h0
  obtain ⟨⟨s0, s1, s2, s3, s4, s5, s6, s7⟩, sf, sl⟩ := h.nums
  have hk0 := g.k0
  have hz := ServM.offer_zero g hk hl
  have g8 := g.len
  have hBw : B ≤ w.heap.size := Nat.le_trans h.base (Nat.le_of_lt sl)
  have CO := hide (fun W (hq : QAt 153 B W q o x.L) (hB : B ≤ W.heap.size) => qoffer_any 0 x.k W hq g8 hB)
  rw [hz, errV_zero rfl, QueueM.offered_yes hz] at CO
  have HW : Hid (∀ W, (Below w.heap.size w W ∧ w.heap.size + 1 < W.heap.size) → ∀ w', QStep 153 B W w' q o (x.L ++ [(0, x.k)]) → ∃ o', SAt B w' s q i b v o' R c { x with L := x.L ++ [(0, x.k)] } ∧ ∃ W, Below w.heap.size w W ∧ w.heap.size + 1 < W.heap.size ∧ SLink W w' (foot s q i b v o R) (foot s q i b v o' R)) :=
    hide (fun W hW w' hs => by
      obtain ⟨o', e1, e2⟩ := (h.later hW.1).queAt hs
      exact ⟨o', e1, W, hW.1, hW.2, e2⟩)
  have HQ := hide h.que
  have sq := h.sq s (List.mem_singleton.2 rfl)
  have hql : ∀ k, w.heap.size ≤ k → k ∉ q :: o.toList := fun k hk hm => by have := (h.inQ k hm).2; omega
  clear h hz g8 g hl
  go_enter Tryz.func84, Tryz.ntmps84
  go_upto_region 4 with fail
  have HD0 : Hid (Held ((w.alloc (.cells #[.int .i64 0, .int .i64 0] 78)).alloc (.cells #[.int .i64 0, .int .i64 x.k] 78)) w.heap.size [.int .i64 0, .int .i64 0]) := hide ((Held.fresh (w := w) [.int .i64 0, .int .i64 0] 78 rfl).alloc _)
  have HC0 : Hid (Held ((w.alloc (.cells #[.int .i64 0, .int .i64 0] 78)).alloc (.cells #[.int .i64 0, .int .i64 x.k] 78)) (w.heap.size + 1) [.int .i64 0, .int .i64 x.k]) := hide (Held.fresh (w := w.alloc (.cells #[.int .i64 0, .int .i64 0] 78)) [.int .i64 0, .int .i64 x.k] 78 (by simp))
  have HB0 : Hid (Below w.heap.size w ((w.alloc (.cells #[.int .i64 0, .int .i64 0] 78)).alloc (.cells #[.int .i64 0, .int .i64 x.k] 78))) := hide (below_alloc (below_alloc (Below.refl _ _) _) _)
  have t3 := hide (cell_later (unhide HB0) s3)
  have HQ0 := hide ((unhide HQ).later (unhide HB0))
  clear s0 s1 s2 s3 s4 s5 s6 s7 HQ sf
  generalize ((w.alloc (.cells #[.int .i64 0, .int .i64 0] 78)).alloc (.cells #[.int .i64 0, .int .i64 x.k] 78)) = w0 at HD0 HC0 HB0 t3 HQ0 ⊢
  have z0 := (unhide HC0).2
  obtain ⟨p0, p1⟩ := (unhide HC0).c2.1
  have b3 := unhide t3
  have sl0 : s < w0.heap.size := by omega
  have hB0 : B ≤ w0.heap.size := by omega
  have RS : Hid (∀ W : World, Kept (q :: o.toList) w0 W → Hid (Kept (q :: o.toList) w0 W) ∧ W.cell? ⟨s, 3, none⟩ = some (.pointer (some ⟨q, 0, none⟩)) ∧ W.cell? ⟨w.heap.size + 1, 0, none⟩ = some (.int .i64 0) ∧ W.cell? ⟨w.heap.size + 1, 1, none⟩ = some (.int .i64 x.k)) := hide (fun W hk => ⟨hide hk, by rw [hk.cell sl0 sq]; exact unhide t3, (hk.held (unhide HC0) (hql _ (Nat.le_succ _))).c2.1.1, (hk.held (unhide HC0) (hql _ (Nat.le_succ _))).c2.1.2⟩)
  go_region_held3 (fun w' => Hid (Kept (q :: o.toList) w0 w') ∧ w'.cell? ⟨s, 3, none⟩ = some (.pointer (some ⟨q, 0, none⟩)) ∧ w'.cell? ⟨w.heap.size + 1, 0, none⟩ = some (.int .i64 0) ∧ w'.cell? ⟨w.heap.size + 1, 1, none⟩ = some (.int .i64 x.k))
    (exact unhide RS _ (by repeat' (first | exact Kept.refl _ _ | exact unhide (And.left ‹Hid (Kept (q :: o.toList) w0 _) ∧ _›) | exact Kept.trans (unhide (And.left ‹Hid (Kept (q :: o.toList) w0 _) ∧ _›)) hk' | exact Kept.trans (Kept.refl _ _).drew hk' | exact hk' | refine Kept.drew ?_)))
    (first | (go_at_call 118; refine (unhide CO _ (by first | exact unhide HQ0 | exact (unhide HQ0).later (below_drew (Below.refl _ _))) (by first | exact hB0 | exact Nat.le_trans hB0 (below_drew (Below.refl _ _)).size)).mono ?_; rintro e w1 ⟨rfl, hqs⟩; have hk' := hqs.keep; have hs := unhide HW _ (by first | exact ⟨unhide HB0, z0⟩ | exact ⟨below_drew (unhide HB0), z0⟩) _ hqs))
  have hkx := unhide (And.left ‹Hid (Kept (q :: o.toList) w0 _) ∧ _›)
  have HD1 := hide (hkx.held (unhide HD0) (hql _ (Nat.le_refl _)))
  have HC1 := hide (hkx.held (unhide HC0) (hql _ (Nat.le_succ _)))
  obtain ⟨o', h1, W, hw, hz, k1⟩ := hs
  have HW1 := hide hw
  have HH1 := hide h1
  have K1 := hide k1
  clear hqs hk' hkx HD0 HC0 t3 b3 HQ0 RS HW CO p0 p1 h1 k1 hw hql
  obtain ⟨⟨-, -, -, -, -, -, -, e7⟩, ef, el⟩ := (unhide HH1).nums
  have ef7 := ef 7
  change w1.cell? ⟨s, 7, none⟩ = some (.int .i64 x.k) at e7
  obtain ⟨⟨d0, d1⟩, ⟨df0, df1⟩⟩ := (unhide HD1).c2
  have dl := (unhide HD1).2
  obtain ⟨p0, p1⟩ := (unhide HC1).c2.1
  have pl := (unhide HC1).2
  clear ef
  go_wp2
  have hds : w.heap.size ≠ s := by omega
  have HSF : Hid (SStep B w (((w1.setCell ⟨s, 7, none⟩ (.int .i64 (x.k + 1))).setCell ⟨w.heap.size, 0, none⟩ (.int .i64 0)).setCell ⟨w.heap.size, 1, none⟩ (.int .i64 x.k)) s (foot s q i b v o R) { x with L := x.L ++ [(0, x.k)], k := x.k + 1 }) := hide (by
    have e := (unhide HH1).meAt (w' := (w1.setCell ⟨s, 7, none⟩ (.int .i64 (x.k + 1)))) (y := { x with L := x.L ++ [(0, x.k)], k := x.k + 1 }) ((Kept.refl [s] w1).setCell (.inl (List.mem_singleton.2 rfl)) _) (by rw [heap_put (unhide HH1).me _]; rfl) rfl rfl rfl rfl rfl
    exact SStep.far (W := W) ⟨_, e.1.own, (unhide K1).trans e.2⟩ (unhide HW1) (unhide H) (Nat.le_refl _) (by omega) (Kept.setCell (p := ⟨w.heap.size, 1, none⟩) (Kept.setCell (p := ⟨w.heap.size, 0, none⟩) (Kept.refl [w.heap.size] (w1.setCell ⟨s, 7, none⟩ (.int .i64 (x.k + 1)))) (.inl (List.mem_singleton.2 rfl)) (.int .i64 0)) (.inl (List.mem_singleton.2 rfl)) (.int .i64 x.k)))
  have HDF : Hid (Held (((w1.setCell ⟨s, 7, none⟩ (.int .i64 (x.k + 1))).setCell ⟨w.heap.size, 0, none⟩ (.int .i64 0)).setCell ⟨w.heap.size, 1, none⟩ (.int .i64 x.k)) w.heap.size [.int .i64 0, .int .i64 x.k]) := hide ((((unhide HD1).far (c := s) (by omega) 7 _).put 0 (.int .i64 0)).put 1 (.int .i64 x.k))
  generalize (((w1.setCell ⟨s, 7, none⟩ (.int .i64 (x.k + 1))).setCell ⟨w.heap.size, 0, none⟩ (.int .i64 0)).setCell ⟨w.heap.size, 1, none⟩ (.int .i64 x.k)) = wf at HSF HDF ⊢
  obtain ⟨e0, e1⟩ := (unhide HDF).c2.1
  exact bodyPost_ret (v := .tuple #[.agg #[.int .i64 0, .int .i64 x.k], .nilIface]) (by simp [results, Tryz.results84, go_sem, e0, e1]) rfl ⟨rfl, unhide HSF⟩

theorem VStep.keep {B : Nat} {w w' : World} {v : Nat} {R : List Nat} {L K : List (Int × Int)} (h : VStep B w w' v R L K) : Kept [v] w w' := by
  obtain ⟨_, _, _, h3⟩ := h
  exact h3

set_option maxHeartbeats 3200000 in
set_option maxRecDepth 8000 in
theorem sspend_no {B s : Nat} {F : List Nat} {x : ServM.St} {ke kn ku kg now : Int} (w : World) (h0 : SOwn B w s F x) (he : ¬ SpentM.spendErr x.N kn ku now = 0) :
    Calls Tryz.prog 85 #[.pointer (some ⟨s, 0, none⟩), .agg #[.int .i64 ke, .int .i64 kn, .int .i64 ku, .int .i64 kg], .int .i64 now] w fun e w' => e = .returned (.bool false) ∧ SStep B w w' s F x := by
  have H := hide h0
  obtain ⟨q, i, b, v, o, R, c, h, rfl⟩ := h0
  obtain ⟨⟨s0, s1, s2, s3, s4, s5, s6, s7⟩, sf, sl⟩ := h.nums
  have CV := hide (fun W (hv : VOwn B W v R x.N x.K) => vspend_own kn ku now W hv)
  rw [errV_pos he, VaultM.next_no he] at CV
  generalize SpentM.spendErr x.N kn ku now = E at CV he
  have HW : Hid (∀ W, (Below w.heap.size w W ∧ w.heap.size < W.heap.size) → ∀ w', VStep B W w' v R x.N x.K → ∃ R', SAt B w' s q i b v o R' c { x with N := x.N } ∧ ∃ W, Below w.heap.size w W ∧ w.heap.size < W.heap.size ∧ SLink W w' (foot s q i b v o R) (foot s q i b v o R')) :=
    hide (fun W hW w' hs => by
      obtain ⟨R', e1, e2⟩ := (h.later hW.1).vauAt hs
      exact ⟨R', e1, W, hW.1, hW.2, e2⟩)
  have HV := hide h.vau
  have sv : s ∉ [v] := fun hm => h.sv s (List.mem_singleton.2 rfl) (by rw [List.mem_singleton.1 hm]; exact List.mem_cons_self ..)
  have dv : w.heap.size ∉ [v] := fun hm => by have := (h.inV v (List.mem_cons_self ..)).2; have := List.mem_singleton.1 hm; omega
  clear h he
  go_enter Tryz.func85, Tryz.ntmps85
  go_upto_region 1 with fail
  have HD0 : Hid (Held (w.alloc (.cells #[.int .i64 ke, .int .i64 kn, .int .i64 ku, .int .i64 kg] 71)) w.heap.size (n4 ke kn ku kg)) := hide (Held.fresh (w := w) (n4 ke kn ku kg) 71 rfl)
  have HB0 : Hid (Below w.heap.size w (w.alloc (.cells #[.int .i64 ke, .int .i64 kn, .int .i64 ku, .int .i64 kg] 71))) := hide (Below.alloc (Below.refl _ _) (Nat.le_refl _) _)
  have t5 := hide (cell_later (unhide HB0) s5)
  have HV0 := hide ((unhide HV).later (unhide HB0))
  clear s0 s1 s2 s3 s4 s5 s6 s7 HV sf
  generalize (w.alloc (.cells #[.int .i64 ke, .int .i64 kn, .int .i64 ku, .int .i64 kg] 71)) = w0 at HD0 HB0 t5 HV0 ⊢
  have z0 := (unhide HD0).2
  obtain ⟨p0, p1, p2, p3⟩ := (unhide HD0).c4.1
  have b5 := unhide t5
  have sl0 : s < w0.heap.size := by omega
  have RS : Hid (∀ W : World, Kept [v] w0 W → Hid (Kept [v] w0 W) ∧ W.cell? ⟨s, 5, none⟩ = some (.pointer (some ⟨v, 0, none⟩)) ∧ W.cell? ⟨w.heap.size, 1, none⟩ = some (.int .i64 kn) ∧ W.cell? ⟨w.heap.size, 2, none⟩ = some (.int .i64 ku)) := hide (fun W hk => ⟨hide hk, by rw [hk.cell sl0 sv]; exact unhide t5, (hk.held (unhide HD0) dv).c4.1.2.1, (hk.held (unhide HD0) dv).c4.1.2.2.1⟩)
  go_region_held3 (fun w' => Hid (Kept [v] w0 w') ∧ w'.cell? ⟨s, 5, none⟩ = some (.pointer (some ⟨v, 0, none⟩)) ∧ w'.cell? ⟨w.heap.size, 1, none⟩ = some (.int .i64 kn) ∧ w'.cell? ⟨w.heap.size, 2, none⟩ = some (.int .i64 ku))
    (exact unhide RS _ (by repeat' (first | exact Kept.refl _ _ | exact unhide (And.left ‹Hid (Kept [v] w0 _) ∧ _›) | exact Kept.trans (unhide (And.left ‹Hid (Kept [v] w0 _) ∧ _›)) hk' | exact Kept.trans (Kept.refl _ _).drew hk' | exact hk' | refine Kept.drew ?_)))
    (first | (go_at_call 119; refine (unhide CV _ (by first | exact unhide HV0 | exact (unhide HV0).later (below_drew (Below.refl _ _)))).mono ?_; rintro e w1 ⟨rfl, hqs⟩; have hk' := hqs.keep; have hs := unhide HW _ (by first | exact ⟨unhide HB0, z0⟩ | exact ⟨below_drew (unhide HB0), z0⟩) _ hqs))
  obtain ⟨R', h1, W, hw, hz, k1⟩ := hs
  have HW1 := hide hw
  have HH1 := hide h1
  have K1 := hide k1
  clear hqs hk' HD0 t5 b5 HV0 RS HW CV p0 p1 p2 p3 h1 k1 hw sv dv
  go_wp2
  go_ret
  exact ⟨rfl, SStep.behind (unhide HW1) ⟨_, (unhide HH1).own, unhide K1⟩⟩

set_option maxHeartbeats 3200000 in
set_option maxRecDepth 8000 in
theorem sspend_yes {B s : Nat} {F : List Nat} {x : ServM.St} {ke kn ku kg now : Int} (w : World) (h0 : SOwn B w s F x) (he : SpentM.spendErr x.N kn ku now = 0) :
    Calls Tryz.prog 85 #[.pointer (some ⟨s, 0, none⟩), .agg #[.int .i64 ke, .int .i64 kn, .int .i64 ku, .int .i64 kg], .int .i64 now] w fun e w' => e = .returned (.bool true) ∧ SStep B w w' s F { x with N := SpentM.spend x.N kn ku now, K := SpentM.spend x.N kn ku now } := by
  have H := hide h0
  obtain ⟨q, i, b, v, o, R, c, h, rfl⟩ := h0
  obtain ⟨⟨s0, s1, s2, s3, s4, s5, s6, s7⟩, sf, sl⟩ := h.nums
  have CV := hide (fun W (hv : VOwn B W v R x.N x.K) => vspend_own kn ku now W hv)
  rw [he, errV_zero rfl, VaultM.next_yes he] at CV
  generalize SpentM.spend x.N kn ku now = M at CV ⊢
  have HW : Hid (∀ W, (Below w.heap.size w W ∧ w.heap.size < W.heap.size) → ∀ w', VStep B W w' v R M x.K → ∃ R', SAt B w' s q i b v o R' c { x with N := M } ∧ ∃ W, Below w.heap.size w W ∧ w.heap.size < W.heap.size ∧ SLink W w' (foot s q i b v o R) (foot s q i b v o R')) :=
    hide (fun W hW w' hs => by
      obtain ⟨R', e1, e2⟩ := (h.later hW.1).vauAt hs
      exact ⟨R', e1, W, hW.1, hW.2, e2⟩)
  have HV := hide h.vau
  have sv : s ∉ [v] := fun hm => h.sv s (List.mem_singleton.2 rfl) (by rw [List.mem_singleton.1 hm]; exact List.mem_cons_self ..)
  have dv : w.heap.size ∉ [v] := fun hm => by have := (h.inV v (List.mem_cons_self ..)).2; have := List.mem_singleton.1 hm; omega
  clear h he
  go_enter Tryz.func85, Tryz.ntmps85
  go_upto_region 1 with fail
  have HD0 : Hid (Held (w.alloc (.cells #[.int .i64 ke, .int .i64 kn, .int .i64 ku, .int .i64 kg] 71)) w.heap.size (n4 ke kn ku kg)) := hide (Held.fresh (w := w) (n4 ke kn ku kg) 71 rfl)
  have HB0 : Hid (Below w.heap.size w (w.alloc (.cells #[.int .i64 ke, .int .i64 kn, .int .i64 ku, .int .i64 kg] 71))) := hide (Below.alloc (Below.refl _ _) (Nat.le_refl _) _)
  have t5 := hide (cell_later (unhide HB0) s5)
  have HV0 := hide ((unhide HV).later (unhide HB0))
  clear s0 s1 s2 s3 s4 s5 s6 s7 HV sf
  generalize (w.alloc (.cells #[.int .i64 ke, .int .i64 kn, .int .i64 ku, .int .i64 kg] 71)) = w0 at HD0 HB0 t5 HV0 ⊢
  have z0 := (unhide HD0).2
  obtain ⟨p0, p1, p2, p3⟩ := (unhide HD0).c4.1
  have b5 := unhide t5
  have sl0 : s < w0.heap.size := by omega
  have RS : Hid (∀ W : World, Kept [v] w0 W → Hid (Kept [v] w0 W) ∧ W.cell? ⟨s, 5, none⟩ = some (.pointer (some ⟨v, 0, none⟩)) ∧ W.cell? ⟨w.heap.size, 1, none⟩ = some (.int .i64 kn) ∧ W.cell? ⟨w.heap.size, 2, none⟩ = some (.int .i64 ku)) := hide (fun W hk => ⟨hide hk, by rw [hk.cell sl0 sv]; exact unhide t5, (hk.held (unhide HD0) dv).c4.1.2.1, (hk.held (unhide HD0) dv).c4.1.2.2.1⟩)
  go_region_held3 (fun w' => Hid (Kept [v] w0 w') ∧ w'.cell? ⟨s, 5, none⟩ = some (.pointer (some ⟨v, 0, none⟩)) ∧ w'.cell? ⟨w.heap.size, 1, none⟩ = some (.int .i64 kn) ∧ w'.cell? ⟨w.heap.size, 2, none⟩ = some (.int .i64 ku))
    (exact unhide RS _ (by repeat' (first | exact Kept.refl _ _ | exact unhide (And.left ‹Hid (Kept [v] w0 _) ∧ _›) | exact Kept.trans (unhide (And.left ‹Hid (Kept [v] w0 _) ∧ _›)) hk' | exact Kept.trans (Kept.refl _ _).drew hk' | exact hk' | refine Kept.drew ?_)))
    (first | (go_at_call 119; refine (unhide CV _ (by first | exact unhide HV0 | exact (unhide HV0).later (below_drew (Below.refl _ _)))).mono ?_; rintro e w1 ⟨rfl, hqs⟩; have hk' := hqs.keep; have hs := unhide HW _ (by first | exact ⟨unhide HB0, z0⟩ | exact ⟨below_drew (unhide HB0), z0⟩) _ hqs))
  obtain ⟨R', h1, W, hw, hz, k1⟩ := hs
  have HW1 := hide hw
  have HH1 := hide h1
  have K1 := hide k1
  clear hqs hk' HD0 t5 b5 HV0 RS HW CV p0 p1 p2 p3 h1 k1 hw sv dv
  obtain ⟨⟨-, -, -, -, -, e5, -, -⟩, ef, el⟩ := (unhide HH1).nums
  clear ef
  go_wp2_with fail
  refine (vsync_own _ (unhide HH1).vau).mono ?_
  rintro e w2 ⟨rfl, hs⟩
  obtain ⟨R2, h2, k2⟩ := (unhide HH1).vauAt hs
  have H2 := hide (show SStep B w w2 s (foot s q i b v o R) { x with N := M, K := M } from SStep.behind (unhide HW1) ⟨_, h2.own, (unhide K1).trans k2⟩)
  clear e5 el hs h2 k2
  go_wp2
  go_ret
  exact ⟨rfl, unhide H2⟩

theorem QAt.drew {T : TypeId} {B : Nat} {w : World} {b : Nat} {o : Option Nat} {L : List (Int × Int)} (h : QAt T B w b o L) : QAt T B w.drew b o L := h.later (below_drew (Below.refl _ _))
theorem VOwn.drew {B : Nat} {w : World} {v : Nat} {R : List Nat} {L K : List (Int × Int)} (h : VOwn B w v R L K) : VOwn B w.drew v R L K := h.later (below_drew (Below.refl _ _))

/-- It is made out of its three parts, newly made. -/
theorem SAt.made {B B1 B2 q i b v : Nat} {W : World} {ep key old life : Int} (hq : QAt 153 B1 W q none []) (hi : IAt W i b 0 0 0) (hv : VOwn B2 W v [] [] []) (h1 : B ≤ B1) (h2 : B ≤ B2) (h3 : B ≤ i ∧ B ≤ b) (h4 : q < i ∧ q < b) (h5 : i < v ∧ b < v) (hB : B ≤ W.heap.size) :
    SOwn B (W.alloc (.cells (scells ⟨ep, key, old, life, [], 0, 0, [], [], 0⟩ q i v) 121)) W.heap.size (foot W.heap.size q i b v none []) ⟨ep, key, old, life, [], 0, 0, [], [], 0⟩ := by
  have lq := hq.lt
  have li := hi.lt
  have lv := hv.lt
  have hb : Below W.heap.size W (W.alloc (.cells (scells ⟨ep, key, old, life, [], 0, 0, [], [], 0⟩ q i v) 121)) := below_alloc (Below.refl _ _) _
  refine ⟨q, i, b, v, none, [], 0, ⟨hB, heap_alloc_new W _, (hq.later hb).down h1, hi.later hb, h3, ⟨Nat.le_trans h2 hv.1, (hv.later hb).2.1, by simp⟩, by omega, Int.le_refl _, ?_, ?_, ?_, ?_, ?_, ?_⟩, rfl⟩
  all_goals
    intro k h1 h2
    simp at h1 h2
    omega

set_option maxHeartbeats 3200000 in
set_option maxRecDepth 8000 in
theorem snew_seed {seed : Int} (life : Int) (w : World) (h : seed < 0 ∨ 999983 ≤ seed) :
    Calls Tryz.prog 28 #[.int .i64 seed, .int .i64 life] w fun e w' => e = .returned (.tuple #[.pointer none, .iface 85 (.int .i64 1)]) ∧ Below w.heap.size w w' := by
  have C := hide (fun w => rnew_no seed w h)
  clear h
  go_enter Tryz.func28, Tryz.ntmps28
  go_wp2_with fail
  refine (unhide C _).mono ?_
  rintro e w1 ⟨rfl, hb⟩
  have HB1 := hide hb
  clear hb
  go_wp2
  go_ret2
  exact ⟨rfl, below_alloc (unhide HB1) _⟩
set_option maxHeartbeats 3200000 in
set_option maxRecDepth 8000 in
theorem snew_life {seed life : Int} (w : World) (h0 : 0 ≤ seed) (h1 : seed < 999983) (ht : TokenM.timeB life = false) :
    Calls Tryz.prog 28 #[.int .i64 seed, .int .i64 life] w fun e w' => e = .returned (.tuple #[.pointer none, .iface 85 (.int .i64 1)]) ∧ Below w.heap.size w w' := by
  have C := hide (fun w => rnew_yes seed w h0 h1)
  have CT := hide (time_any life)
  rw [ht] at CT
  generalize TagM.tag seed [0] = g at C
  clear h0 h1 ht
  go_enter Tryz.func28, Tryz.ntmps28
  go_wp2_with fail
  refine (unhide C _).mono ?_
  rintro e w1 ⟨rfl, hb⟩
  have HB1 := hide hb
  clear hb
  go_wp2_with fail
  refine (unhide CT _).mono ?_
  rintro e w' ⟨rfl, rfl⟩
  go_wp2
  go_ret2
  exact ⟨rfl, below_alloc (unhide HB1) _⟩

set_option maxHeartbeats 6400000 in
set_option maxRecDepth 8000 in
theorem snew_yes {seed life : Int} (w : World) (h0 : 0 ≤ seed) (h1 : seed < 999983) (ht : TokenM.timeB life = true) :
    Calls Tryz.prog 28 #[.int .i64 seed, .int .i64 life] w fun e w' => ∃ s F, e = .returned (.tuple #[.pointer (some ⟨s, 0, none⟩), .nilIface]) ∧ SOwn w.heap.size w' s F (ServM.new seed life) ∧ Below w.heap.size w w' := by
  have C := hide (fun w => rnew_yes seed w h0 h1)
  have CT := hide (time_any life)
  rw [ht] at CT
  have CQ : Hid (∀ W : World, Calls Tryz.prog 49 #[] W fun e w' => ∃ q, e = .returned (.pointer (some ⟨q, 0, none⟩)) ∧ QAt 153 W.heap.size w' q none [] ∧ W.heap.size ≤ q ∧ Below W.heap.size W w') := hide (fun W => (qnew_any W).mono (by rintro e w' ⟨rfl, h1, h2⟩; exact ⟨_, rfl, h1, Nat.le_refl _, h2⟩))
  have CI := hide (fun W => inew_any W)
  have CV : Hid (∀ W : World, Calls Tryz.prog 51 #[] W fun e w' => ∃ v, e = .returned (.pointer (some ⟨v, 0, none⟩)) ∧ VOwn W.heap.size w' v [] [] [] ∧ W.heap.size ≤ v ∧ Below W.heap.size W w') := hide (fun W => (vnew_own W).mono (by rintro e w' ⟨rfl, h1, h2⟩; exact ⟨_, rfl, h1, Nat.le_refl _, h2⟩))
  have hs : ServM.new seed life = ⟨0, TagM.tag seed [0], 0, life, [], 0, 0, [], [], 0⟩ := rfl
  rw [hs]
  clear hs
  generalize TagM.tag seed [0] = g at C ⊢
  clear h0 h1 ht
  go_enter Tryz.func28, Tryz.ntmps28
  go_wp2_with fail
  refine (unhide C _).mono ?_
  rintro e w1 ⟨rfl, hb⟩
  have HB1 := hide hb
  clear hb
  go_wp2_with fail
  refine (unhide CT _).mono ?_
  rintro e w' ⟨rfl, rfl⟩
  go_upto_region 6 with fail
  have HR2 : Hid (Held (w1.alloc (.cells #[.int .i64 0, .int .i64 g, .int .i64 0] 56)) w1.heap.size (n3 0 g 0)) := hide (Held.fresh (w := w1) (n3 0 g 0) 56 rfl)
  have HB2 : Hid (Below w.heap.size w (w1.alloc (.cells #[.int .i64 0, .int .i64 g, .int .i64 0] 56))) := hide (below_alloc (unhide HB1) _)
  generalize (w1.alloc (.cells #[.int .i64 0, .int .i64 g, .int .i64 0] 56)) = w2 at HR2 HB2 ⊢
  generalize w1.heap.size = d at HR2 ⊢
  obtain ⟨r0, r1, r2⟩ := (unhide HR2).c3.1
  have rl := (unhide HR2).2
  have z2 := (unhide HB2).size
  have RS : Hid (∀ W : World, Below w2.heap.size w2 W → Hid (Below w2.heap.size w2 W) ∧ W.cell? ⟨d, 0, none⟩ = some (.int .i64 0) ∧ W.cell? ⟨d, 1, none⟩ = some (.int .i64 g) ∧ W.cell? ⟨d, 2, none⟩ = some (.int .i64 0)) := hide (fun W hW => ⟨hide hW, cell_later hW r0, cell_later hW r1, cell_later hW r2⟩)
  go_region_held3 (fun w' => Hid (Below w2.heap.size w2 w') ∧ w'.cell? ⟨d, 0, none⟩ = some (.int .i64 0) ∧ w'.cell? ⟨d, 1, none⟩ = some (.int .i64 g) ∧ w'.cell? ⟨d, 2, none⟩ = some (.int .i64 0))
    (first | exact unhide RS _ (Below.trans (unhide (And.left ‹Hid (Below w2.heap.size w2 _) ∧ _›)) (hbq.mono (unhide (And.left ‹Hid (Below w2.heap.size w2 _) ∧ _›)).size)) | exact unhide RS _ (Below.trans (unhide (And.left ‹Hid (Below w2.heap.size w2 _) ∧ _›)) (hbi.mono (unhide (And.left ‹Hid (Below w2.heap.size w2 _) ∧ _›)).size)) | exact unhide RS _ (Below.trans (unhide (And.left ‹Hid (Below w2.heap.size w2 _) ∧ _›)) (hbv.mono (unhide (And.left ‹Hid (Below w2.heap.size w2 _) ∧ _›)).size)) | exact unhide RS _ (below_alloc (unhide (And.left ‹Hid (Below w2.heap.size w2 _) ∧ _›)) _) | exact unhide RS _ (Below.refl _ _).drew | exact unhide RS _ (unhide (And.left ‹Hid (Below w2.heap.size w2 _) ∧ _›)).drew)
    (first | (go_at_call 49; refine (unhide CQ _).mono ?_; rintro e w3 ⟨q, rfl, hq, zq, hbq⟩) | (go_at_call 50; refine (unhide CI _).mono ?_; rintro e w4 ⟨i, b, rfl, hi, zi, zb, hbi⟩) | (go_at_call 51; refine (unhide CV _).mono ?_; rintro e w5 ⟨v, rfl, hv, zv, hbv⟩))
  clear RS
  have b2 : Below w2.heap.size w2 w2.drew := below_drew (Below.refl _ _)
  have b3 := b2.trans (hbq.mono b2.size)
  have b4 := b3.trans (hbi.mono b3.size)
  have b5 := b4.trans (hbv.mono b4.size)
  have HB5 := hide (bel3 (unhide HB2) (Below.refl _ _) b5)
  have HQ5 := hide ((hq.later hbi).later hbv)
  have HI5 := hide (hi.later hbv)
  have HV5 := hide hv
  have y3 : w2.heap.size ≤ q := zq
  have y4 := b3.size
  have y5 := b4.size
  have l3 := hq.lt
  have l4 := hi.lt
  have l5 := hv.lt
  have li := hi.2.2
  clear hq hi hv hbq hbi hbv b2 b3 b4 b5 r0 r1 r2 rl HR2
  go_wp2
  go_ret2
  refine ⟨_, _, rfl, SAt.made (unhide HQ5) (unhide HI5) (unhide HV5) (show w.heap.size ≤ w2.heap.size from z2) (by omega) (by omega) (by omega) (by omega) (unhide HB5).size, below_alloc (unhide HB5) _⟩
end Go.Proofs.YthaicpepgianpakGreatDoor
