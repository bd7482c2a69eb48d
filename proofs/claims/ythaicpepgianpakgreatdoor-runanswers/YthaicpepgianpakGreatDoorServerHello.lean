/-
  What the server's Hello comes to, said of the plain server: every way.
-/
import Derived.Test.YthaicpepgianpakGreatDoorServerWalks
namespace Go.Proofs.YthaicpepgianpakGreatDoor
open Go.RowKit
set_option linter.unusedVariables false

theorem SStep.keep {B : Nat} {w w' : World} {s : Nat} {F : List Nat} {x : ServM.St} (h : SStep B w w' s F x) : Kept F w w' := by
  obtain ⟨_, _, _, h3⟩ := h
  exact h3
theorem SOwn.nums {B : Nat} {w : World} {s : Nat} {F : List Nat} {x : ServM.St} (h : SOwn B w s F x) : w.cell? ⟨s, 0, none⟩ = some (.int .i64 x.ep) ∧ w.cell? ⟨s, 1, none⟩ = some (.int .i64 x.key) ∧ w.cell? ⟨s, 2, none⟩ = some (.int .i64 x.old) ∧ w.cell? ⟨s, 6, none⟩ = some (.int .i64 x.life) := by
  obtain ⟨q, i, b, v, o, R, c, h1, rfl⟩ := h
  obtain ⟨⟨s0, s1, s2, -, -, -, s6, -⟩, -, -⟩ := h1.nums
  exact ⟨s0, s1, s2, s6⟩

set_option maxHeartbeats 6400000 in
set_option maxRecDepth 8000 in
theorem shello_err {B s : Nat} {F : List Nat} {x : ServM.St} {h : ServM.Hi} {now : Int} {k E : Int} {b : Bool} (w : World) (h0 : SOwn B w s F x) (hl8 : x.L.length ≤ 8) (C : Hid (∀ W : World, Calls Tryz.prog 82 #[.agg #[.int .i64 x.ep, .int .i64 x.key, .int .i64 x.old], .agg #[.int .i64 h.a, .int .i64 h.te, .int .i64 h.ta, .int .i64 h.tt, .int .i64 h.tg, .int .i64 h.ke, .int .i64 h.kn, .int .i64 h.ku, .int .i64 h.kg, .string h.s], .int .i64 x.L.length, .int .i64 now, .int .i64 x.life] W fun e w' => e = .returned (.tuple #[.int .i64 k, .bool b, .iface 85 (.int .i64 E)]) ∧ Below W.heap.size W w')) :
    Calls Tryz.prog 59 #[.pointer (some ⟨s, 0, none⟩), .agg #[.int .i64 h.a, .int .i64 h.te, .int .i64 h.ta, .int .i64 h.tt, .int .i64 h.tg, .int .i64 h.ke, .int .i64 h.kn, .int .i64 h.ku, .int .i64 h.kg, .string h.s], .int .i64 now] w fun e w' => e = .returned (.tuple #[.agg #[.int .i64 0, .int .i64 0, .int .i64 0, .int .i64 0, .int .i64 0, .int .i64 0, .int .i64 0, .bool false], .iface 85 (.int .i64 E)]) ∧ SStep B w w' s F x := by
  have sl := h0.lt
  have H := hide h0
  obtain ⟨s0, s1, s2, s6⟩ := h0.nums
  clear h0
  have CW := hide (fun W (hW : Below w.heap.size w W) => swait_any W ((unhide H).later hW) hl8)
  go_enter Tryz.func59, Tryz.ntmps59
  go_upto_region 1 with fail
  have HH0 : Hid (Held ((w.alloc (.cells #[.int .i64 h.a, .int .i64 h.te, .int .i64 h.ta, .int .i64 h.tt, .int .i64 h.tg, .int .i64 h.ke, .int .i64 h.kn, .int .i64 h.ku, .int .i64 h.kg, .string h.s] 73)).alloc (.cells #[.int .i64 0, .int .i64 0, .int .i64 0, .int .i64 0, .int .i64 0, .int .i64 0, .int .i64 0, .bool false] 104)) w.heap.size (nh h.a h.te h.ta h.tt h.tg h.ke h.kn h.ku h.kg h.s)) := hide ((Held.fresh (w := w) (nh h.a h.te h.ta h.tt h.tg h.ke h.kn h.ku h.kg h.s) 73 rfl).alloc _)
  have HA0 : Hid (Held ((w.alloc (.cells #[.int .i64 h.a, .int .i64 h.te, .int .i64 h.ta, .int .i64 h.tt, .int .i64 h.tg, .int .i64 h.ke, .int .i64 h.kn, .int .i64 h.ku, .int .i64 h.kg, .string h.s] 73)).alloc (.cells #[.int .i64 0, .int .i64 0, .int .i64 0, .int .i64 0, .int .i64 0, .int .i64 0, .int .i64 0, .bool false] 104)) (w.heap.size + 1) (na 0 0 0 0 0 0 false)) := hide (Held.fresh (w := w.alloc (.cells #[.int .i64 h.a, .int .i64 h.te, .int .i64 h.ta, .int .i64 h.tt, .int .i64 h.tg, .int .i64 h.ke, .int .i64 h.kn, .int .i64 h.ku, .int .i64 h.kg, .string h.s] 73)) (na 0 0 0 0 0 0 false) 104 (by simp))
  have HB0 : Hid (Below w.heap.size w ((w.alloc (.cells #[.int .i64 h.a, .int .i64 h.te, .int .i64 h.ta, .int .i64 h.tt, .int .i64 h.tg, .int .i64 h.ke, .int .i64 h.kn, .int .i64 h.ku, .int .i64 h.kg, .string h.s] 73)).alloc (.cells #[.int .i64 0, .int .i64 0, .int .i64 0, .int .i64 0, .int .i64 0, .int .i64 0, .int .i64 0, .bool false] 104))) := hide (below_alloc (below_alloc (Below.refl _ _) _) _)
  have t0 := hide (cell_later (unhide HB0) s0)
  have t1 := hide (cell_later (unhide HB0) s1)
  have t2 := hide (cell_later (unhide HB0) s2)
  have t6 := hide (cell_later (unhide HB0) s6)
  clear s0 s1 s2 s6
  generalize ((w.alloc (.cells #[.int .i64 h.a, .int .i64 h.te, .int .i64 h.ta, .int .i64 h.tt, .int .i64 h.tg, .int .i64 h.ke, .int .i64 h.kn, .int .i64 h.ku, .int .i64 h.kg, .string h.s] 73)).alloc (.cells #[.int .i64 0, .int .i64 0, .int .i64 0, .int .i64 0, .int .i64 0, .int .i64 0, .int .i64 0, .bool false] 104)) = w0 at HH0 HA0 HB0 t0 t1 t2 t6 ⊢
  have z0 := (unhide HA0).2
  have r0 := unhide t0
  have r1 := unhide t1
  have r2 := unhide t2
  have r6 := unhide t6
  clear t0 t1 t2 t6
  have sl0 : s < w0.heap.size := by omega
  obtain ⟨h0, h1, h2, h3, h4, h5, h6, h7, h8, h9⟩ := (unhide HH0).c10.1
  have hhl := (unhide HH0).2
  generalize x.L.length = ln at CW C
  have RS : Hid (∀ W : World, Below w0.heap.size w0 W → Hid (Below w0.heap.size w0 W) ∧ W.cell? ⟨s, 0, none⟩ = some (.int .i64 x.ep) ∧ W.cell? ⟨s, 1, none⟩ = some (.int .i64 x.key) ∧ W.cell? ⟨s, 2, none⟩ = some (.int .i64 x.old) ∧ W.cell? ⟨s, 6, none⟩ = some (.int .i64 x.life) ∧ W.cell? ⟨w.heap.size, 0, none⟩ = some (.int .i64 h.a) ∧ W.cell? ⟨w.heap.size, 1, none⟩ = some (.int .i64 h.te) ∧ W.cell? ⟨w.heap.size, 2, none⟩ = some (.int .i64 h.ta) ∧ W.cell? ⟨w.heap.size, 3, none⟩ = some (.int .i64 h.tt) ∧ W.cell? ⟨w.heap.size, 4, none⟩ = some (.int .i64 h.tg) ∧ W.cell? ⟨w.heap.size, 5, none⟩ = some (.int .i64 h.ke) ∧ W.cell? ⟨w.heap.size, 6, none⟩ = some (.int .i64 h.kn) ∧ W.cell? ⟨w.heap.size, 7, none⟩ = some (.int .i64 h.ku) ∧ W.cell? ⟨w.heap.size, 8, none⟩ = some (.int .i64 h.kg) ∧ W.cell? ⟨w.heap.size, 9, none⟩ = some (.string h.s)) := hide (fun W hW => ⟨hide hW, cell_later hW r0, cell_later hW r1, cell_later hW r2, cell_later hW r6, cell_later hW h0, cell_later hW h1, cell_later hW h2, cell_later hW h3, cell_later hW h4, cell_later hW h5, cell_later hW h6, cell_later hW h7, cell_later hW h8, cell_later hW h9⟩)
  go_region_held3 (fun w' => Hid (Below w0.heap.size w0 w') ∧ w'.cell? ⟨s, 0, none⟩ = some (.int .i64 x.ep) ∧ w'.cell? ⟨s, 1, none⟩ = some (.int .i64 x.key) ∧ w'.cell? ⟨s, 2, none⟩ = some (.int .i64 x.old) ∧ w'.cell? ⟨s, 6, none⟩ = some (.int .i64 x.life) ∧ w'.cell? ⟨w.heap.size, 0, none⟩ = some (.int .i64 h.a) ∧ w'.cell? ⟨w.heap.size, 1, none⟩ = some (.int .i64 h.te) ∧ w'.cell? ⟨w.heap.size, 2, none⟩ = some (.int .i64 h.ta) ∧ w'.cell? ⟨w.heap.size, 3, none⟩ = some (.int .i64 h.tt) ∧ w'.cell? ⟨w.heap.size, 4, none⟩ = some (.int .i64 h.tg) ∧ w'.cell? ⟨w.heap.size, 5, none⟩ = some (.int .i64 h.ke) ∧ w'.cell? ⟨w.heap.size, 6, none⟩ = some (.int .i64 h.kn) ∧ w'.cell? ⟨w.heap.size, 7, none⟩ = some (.int .i64 h.ku) ∧ w'.cell? ⟨w.heap.size, 8, none⟩ = some (.int .i64 h.kg) ∧ w'.cell? ⟨w.heap.size, 9, none⟩ = some (.string h.s)) (first | exact unhide RS _ (Below.trans (unhide (And.left ‹Hid (Below w0.heap.size w0 _) ∧ _›)) (hbB.mono (unhide (And.left ‹Hid (Below w0.heap.size w0 _) ∧ _›)).size)) | exact unhide RS _ (Below.trans (unhide (And.left ‹Hid (Below w0.heap.size w0 _) ∧ _›)) (hbA.mono (unhide (And.left ‹Hid (Below w0.heap.size w0 _) ∧ _›)).size)) | exact unhide RS _ (Below.refl _ _).drew | exact unhide RS _ (unhide (And.left ‹Hid (Below w0.heap.size w0 _) ∧ _›)).drew)
    (first | (go_at_call 41; refine (unhide CW _ (bel3 (unhide HB0) (Below.refl _ _) (unhide (And.left ‹Hid (Below w0.heap.size w0 _) ∧ _›)))).mono ?_; rintro e wA ⟨rfl, hbA⟩) | (go_at_call 82; refine (unhide C _).mono ?_; rintro e wB ⟨rfl, hbB⟩))
  have hbx := unhide (And.left ‹Hid (Below w0.heap.size w0 _) ∧ _›)
  clear RS r0 r1 r2 r6 h0 h1 h2 h3 h4 h5 h6 h7 h8 h9 hhl
  have HH1 := hide ((unhide HH0).later hbx)
  have HA1 := hide ((unhide HA0).later hbx)
  have HB1 := hide (bel3 (unhide HB0) (Below.refl _ _) hbx)
  have y0 := hbx.size
  clear hbx HH0 HA0 HB0 hbA hbB
  have z1 : w.heap.size + 1 < wB.heap.size := by omega
  have hres : w.heap.size ≤ w.heap.size + 1 := by omega
  obtain ⟨⟨u0, u1, u2, u3, u4, u5, u6, u7⟩, ⟨v0, v1, v2, v3, v4, v5, v6, v7⟩⟩ := (unhide HA1).c8
  have ul := (unhide HA1).2
  go_wp2
  have HAF : Hid (Held ((((((((wB.setCell ⟨w.heap.size + 1, 0, none⟩ (.int .i64 0)).setCell ⟨w.heap.size + 1, 1, none⟩ (.int .i64 0)).setCell ⟨w.heap.size + 1, 2, none⟩ (.int .i64 0)).setCell ⟨w.heap.size + 1, 3, none⟩ (.int .i64 0)).setCell ⟨w.heap.size + 1, 4, none⟩ (.int .i64 0)).setCell ⟨w.heap.size + 1, 5, none⟩ (.int .i64 0)).setCell ⟨w.heap.size + 1, 6, none⟩ (.int .i64 0)).setCell ⟨w.heap.size + 1, 7, none⟩ (.bool false)) (w.heap.size + 1) (na 0 0 0 0 0 0 false)) := hide (((((((((unhide HA1).put 0 (.int .i64 0)).put 1 (.int .i64 0)).put 2 (.int .i64 0)).put 3 (.int .i64 0)).put 4 (.int .i64 0)).put 5 (.int .i64 0)).put 6 (.int .i64 0)).put 7 (.bool false))
  have HSF : Hid (SStep B w ((((((((wB.setCell ⟨w.heap.size + 1, 0, none⟩ (.int .i64 0)).setCell ⟨w.heap.size + 1, 1, none⟩ (.int .i64 0)).setCell ⟨w.heap.size + 1, 2, none⟩ (.int .i64 0)).setCell ⟨w.heap.size + 1, 3, none⟩ (.int .i64 0)).setCell ⟨w.heap.size + 1, 4, none⟩ (.int .i64 0)).setCell ⟨w.heap.size + 1, 5, none⟩ (.int .i64 0)).setCell ⟨w.heap.size + 1, 6, none⟩ (.int .i64 0)).setCell ⟨w.heap.size + 1, 7, none⟩ (.bool false)) s F x) := hide (SStep.same (unhide H) (below_set (below_set (below_set (below_set (below_set (below_set (below_set (below_set (unhide HB1) hres 0 (.int .i64 0)) hres 1 (.int .i64 0)) hres 2 (.int .i64 0)) hres 3 (.int .i64 0)) hres 4 (.int .i64 0)) hres 5 (.int .i64 0)) hres 6 (.int .i64 0)) hres 7 (.bool false)))
  generalize ((((((((wB.setCell ⟨w.heap.size + 1, 0, none⟩ (.int .i64 0)).setCell ⟨w.heap.size + 1, 1, none⟩ (.int .i64 0)).setCell ⟨w.heap.size + 1, 2, none⟩ (.int .i64 0)).setCell ⟨w.heap.size + 1, 3, none⟩ (.int .i64 0)).setCell ⟨w.heap.size + 1, 4, none⟩ (.int .i64 0)).setCell ⟨w.heap.size + 1, 5, none⟩ (.int .i64 0)).setCell ⟨w.heap.size + 1, 6, none⟩ (.int .i64 0)).setCell ⟨w.heap.size + 1, 7, none⟩ (.bool false)) = wf at HAF HSF ⊢
  obtain ⟨u0, u1, u2, u3, u4, u5, u6, u7⟩ := (unhide HAF).c8.1
  exact bodyPost_ret (v := .tuple #[.agg #[.int .i64 0, .int .i64 0, .int .i64 0, .int .i64 0, .int .i64 0, .int .i64 0, .int .i64 0, .bool false], .iface 85 (.int .i64 E)]) (by simp [results, Tryz.results59, go_sem, u0, u1, u2, u3, u4, u5, u6, u7]) rfl ⟨rfl, unhide HSF⟩

set_option maxHeartbeats 6400000 in
set_option maxRecDepth 8000 in
theorem shello_busy {B s : Nat} {F : List Nat} {x : ServM.St} {h : ServM.Hi} {now : Int} {b : Bool} (w : World) (h0 : SOwn B w s F x) (hl8 : x.L.length ≤ 8) (C : Hid (∀ W : World, Calls Tryz.prog 82 #[.agg #[.int .i64 x.ep, .int .i64 x.key, .int .i64 x.old], .agg #[.int .i64 h.a, .int .i64 h.te, .int .i64 h.ta, .int .i64 h.tt, .int .i64 h.tg, .int .i64 h.ke, .int .i64 h.kn, .int .i64 h.ku, .int .i64 h.kg, .string h.s], .int .i64 x.L.length, .int .i64 now, .int .i64 x.life] W fun e w' => e = .returned (.tuple #[.int .i64 2, .bool b, .nilIface]) ∧ Below W.heap.size W w')) :
    Calls Tryz.prog 59 #[.pointer (some ⟨s, 0, none⟩), .agg #[.int .i64 h.a, .int .i64 h.te, .int .i64 h.ta, .int .i64 h.tt, .int .i64 h.tg, .int .i64 h.ke, .int .i64 h.kn, .int .i64 h.ku, .int .i64 h.kg, .string h.s], .int .i64 now] w fun e w' => e = .returned (.tuple #[.agg #[.int .i64 2, .int .i64 0, .int .i64 0, .int .i64 0, .int .i64 0, .int .i64 0, .int .i64 0, .bool false], .nilIface]) ∧ SStep B w w' s F x := by
  have sl := h0.lt
  have H := hide h0
  obtain ⟨s0, s1, s2, s6⟩ := h0.nums
  clear h0
  have CW := hide (fun W (hW : Below w.heap.size w W) => swait_any W ((unhide H).later hW) hl8)
  go_enter Tryz.func59, Tryz.ntmps59
  go_upto_region 1 with fail
  have HH0 : Hid (Held ((w.alloc (.cells #[.int .i64 h.a, .int .i64 h.te, .int .i64 h.ta, .int .i64 h.tt, .int .i64 h.tg, .int .i64 h.ke, .int .i64 h.kn, .int .i64 h.ku, .int .i64 h.kg, .string h.s] 73)).alloc (.cells #[.int .i64 0, .int .i64 0, .int .i64 0, .int .i64 0, .int .i64 0, .int .i64 0, .int .i64 0, .bool false] 104)) w.heap.size (nh h.a h.te h.ta h.tt h.tg h.ke h.kn h.ku h.kg h.s)) := hide ((Held.fresh (w := w) (nh h.a h.te h.ta h.tt h.tg h.ke h.kn h.ku h.kg h.s) 73 rfl).alloc _)
  have HA0 : Hid (Held ((w.alloc (.cells #[.int .i64 h.a, .int .i64 h.te, .int .i64 h.ta, .int .i64 h.tt, .int .i64 h.tg, .int .i64 h.ke, .int .i64 h.kn, .int .i64 h.ku, .int .i64 h.kg, .string h.s] 73)).alloc (.cells #[.int .i64 0, .int .i64 0, .int .i64 0, .int .i64 0, .int .i64 0, .int .i64 0, .int .i64 0, .bool false] 104)) (w.heap.size + 1) (na 0 0 0 0 0 0 false)) := hide (Held.fresh (w := w.alloc (.cells #[.int .i64 h.a, .int .i64 h.te, .int .i64 h.ta, .int .i64 h.tt, .int .i64 h.tg, .int .i64 h.ke, .int .i64 h.kn, .int .i64 h.ku, .int .i64 h.kg, .string h.s] 73)) (na 0 0 0 0 0 0 false) 104 (by simp))
  have HB0 : Hid (Below w.heap.size w ((w.alloc (.cells #[.int .i64 h.a, .int .i64 h.te, .int .i64 h.ta, .int .i64 h.tt, .int .i64 h.tg, .int .i64 h.ke, .int .i64 h.kn, .int .i64 h.ku, .int .i64 h.kg, .string h.s] 73)).alloc (.cells #[.int .i64 0, .int .i64 0, .int .i64 0, .int .i64 0, .int .i64 0, .int .i64 0, .int .i64 0, .bool false] 104))) := hide (below_alloc (below_alloc (Below.refl _ _) _) _)
  have t0 := hide (cell_later (unhide HB0) s0)
  have t1 := hide (cell_later (unhide HB0) s1)
  have t2 := hide (cell_later (unhide HB0) s2)
  have t6 := hide (cell_later (unhide HB0) s6)
  clear s0 s1 s2 s6
  generalize ((w.alloc (.cells #[.int .i64 h.a, .int .i64 h.te, .int .i64 h.ta, .int .i64 h.tt, .int .i64 h.tg, .int .i64 h.ke, .int .i64 h.kn, .int .i64 h.ku, .int .i64 h.kg, .string h.s] 73)).alloc (.cells #[.int .i64 0, .int .i64 0, .int .i64 0, .int .i64 0, .int .i64 0, .int .i64 0, .int .i64 0, .bool false] 104)) = w0 at HH0 HA0 HB0 t0 t1 t2 t6 ⊢
  have z0 := (unhide HA0).2
  have r0 := unhide t0
  have r1 := unhide t1
  have r2 := unhide t2
  have r6 := unhide t6
  clear t0 t1 t2 t6
  have sl0 : s < w0.heap.size := by omega
  obtain ⟨h0, h1, h2, h3, h4, h5, h6, h7, h8, h9⟩ := (unhide HH0).c10.1
  have hhl := (unhide HH0).2
  generalize x.L.length = ln at CW C
  have RS : Hid (∀ W : World, Below w0.heap.size w0 W → Hid (Below w0.heap.size w0 W) ∧ W.cell? ⟨s, 0, none⟩ = some (.int .i64 x.ep) ∧ W.cell? ⟨s, 1, none⟩ = some (.int .i64 x.key) ∧ W.cell? ⟨s, 2, none⟩ = some (.int .i64 x.old) ∧ W.cell? ⟨s, 6, none⟩ = some (.int .i64 x.life) ∧ W.cell? ⟨w.heap.size, 0, none⟩ = some (.int .i64 h.a) ∧ W.cell? ⟨w.heap.size, 1, none⟩ = some (.int .i64 h.te) ∧ W.cell? ⟨w.heap.size, 2, none⟩ = some (.int .i64 h.ta) ∧ W.cell? ⟨w.heap.size, 3, none⟩ = some (.int .i64 h.tt) ∧ W.cell? ⟨w.heap.size, 4, none⟩ = some (.int .i64 h.tg) ∧ W.cell? ⟨w.heap.size, 5, none⟩ = some (.int .i64 h.ke) ∧ W.cell? ⟨w.heap.size, 6, none⟩ = some (.int .i64 h.kn) ∧ W.cell? ⟨w.heap.size, 7, none⟩ = some (.int .i64 h.ku) ∧ W.cell? ⟨w.heap.size, 8, none⟩ = some (.int .i64 h.kg) ∧ W.cell? ⟨w.heap.size, 9, none⟩ = some (.string h.s)) := hide (fun W hW => ⟨hide hW, cell_later hW r0, cell_later hW r1, cell_later hW r2, cell_later hW r6, cell_later hW h0, cell_later hW h1, cell_later hW h2, cell_later hW h3, cell_later hW h4, cell_later hW h5, cell_later hW h6, cell_later hW h7, cell_later hW h8, cell_later hW h9⟩)
  go_region_held3 (fun w' => Hid (Below w0.heap.size w0 w') ∧ w'.cell? ⟨s, 0, none⟩ = some (.int .i64 x.ep) ∧ w'.cell? ⟨s, 1, none⟩ = some (.int .i64 x.key) ∧ w'.cell? ⟨s, 2, none⟩ = some (.int .i64 x.old) ∧ w'.cell? ⟨s, 6, none⟩ = some (.int .i64 x.life) ∧ w'.cell? ⟨w.heap.size, 0, none⟩ = some (.int .i64 h.a) ∧ w'.cell? ⟨w.heap.size, 1, none⟩ = some (.int .i64 h.te) ∧ w'.cell? ⟨w.heap.size, 2, none⟩ = some (.int .i64 h.ta) ∧ w'.cell? ⟨w.heap.size, 3, none⟩ = some (.int .i64 h.tt) ∧ w'.cell? ⟨w.heap.size, 4, none⟩ = some (.int .i64 h.tg) ∧ w'.cell? ⟨w.heap.size, 5, none⟩ = some (.int .i64 h.ke) ∧ w'.cell? ⟨w.heap.size, 6, none⟩ = some (.int .i64 h.kn) ∧ w'.cell? ⟨w.heap.size, 7, none⟩ = some (.int .i64 h.ku) ∧ w'.cell? ⟨w.heap.size, 8, none⟩ = some (.int .i64 h.kg) ∧ w'.cell? ⟨w.heap.size, 9, none⟩ = some (.string h.s)) (first | exact unhide RS _ (Below.trans (unhide (And.left ‹Hid (Below w0.heap.size w0 _) ∧ _›)) (hbB.mono (unhide (And.left ‹Hid (Below w0.heap.size w0 _) ∧ _›)).size)) | exact unhide RS _ (Below.trans (unhide (And.left ‹Hid (Below w0.heap.size w0 _) ∧ _›)) (hbA.mono (unhide (And.left ‹Hid (Below w0.heap.size w0 _) ∧ _›)).size)) | exact unhide RS _ (Below.refl _ _).drew | exact unhide RS _ (unhide (And.left ‹Hid (Below w0.heap.size w0 _) ∧ _›)).drew)
    (first | (go_at_call 41; refine (unhide CW _ (bel3 (unhide HB0) (Below.refl _ _) (unhide (And.left ‹Hid (Below w0.heap.size w0 _) ∧ _›)))).mono ?_; rintro e wA ⟨rfl, hbA⟩) | (go_at_call 82; refine (unhide C _).mono ?_; rintro e wB ⟨rfl, hbB⟩))
  have hbx := unhide (And.left ‹Hid (Below w0.heap.size w0 _) ∧ _›)
  clear RS r0 r1 r2 r6 h0 h1 h2 h3 h4 h5 h6 h7 h8 h9 hhl
  have HH1 := hide ((unhide HH0).later hbx)
  have HA1 := hide ((unhide HA0).later hbx)
  have HB1 := hide (bel3 (unhide HB0) (Below.refl _ _) hbx)
  have y0 := hbx.size
  clear hbx HH0 HA0 HB0 hbA hbB
  have z1 : w.heap.size + 1 < wB.heap.size := by omega
  have hres : w.heap.size ≤ w.heap.size + 1 := by omega
  obtain ⟨⟨u0, u1, u2, u3, u4, u5, u6, u7⟩, ⟨v0, v1, v2, v3, v4, v5, v6, v7⟩⟩ := (unhide HA1).c8
  have ul := (unhide HA1).2
  go_wp2
  have HAF : Hid (Held ((((((((wB.setCell ⟨w.heap.size + 1, 0, none⟩ (.int .i64 2)).setCell ⟨w.heap.size + 1, 1, none⟩ (.int .i64 0)).setCell ⟨w.heap.size + 1, 2, none⟩ (.int .i64 0)).setCell ⟨w.heap.size + 1, 3, none⟩ (.int .i64 0)).setCell ⟨w.heap.size + 1, 4, none⟩ (.int .i64 0)).setCell ⟨w.heap.size + 1, 5, none⟩ (.int .i64 0)).setCell ⟨w.heap.size + 1, 6, none⟩ (.int .i64 0)).setCell ⟨w.heap.size + 1, 7, none⟩ (.bool false)) (w.heap.size + 1) (na 2 0 0 0 0 0 false)) := hide (((((((((unhide HA1).put 0 (.int .i64 2)).put 1 (.int .i64 0)).put 2 (.int .i64 0)).put 3 (.int .i64 0)).put 4 (.int .i64 0)).put 5 (.int .i64 0)).put 6 (.int .i64 0)).put 7 (.bool false))
  have HSF : Hid (SStep B w ((((((((wB.setCell ⟨w.heap.size + 1, 0, none⟩ (.int .i64 2)).setCell ⟨w.heap.size + 1, 1, none⟩ (.int .i64 0)).setCell ⟨w.heap.size + 1, 2, none⟩ (.int .i64 0)).setCell ⟨w.heap.size + 1, 3, none⟩ (.int .i64 0)).setCell ⟨w.heap.size + 1, 4, none⟩ (.int .i64 0)).setCell ⟨w.heap.size + 1, 5, none⟩ (.int .i64 0)).setCell ⟨w.heap.size + 1, 6, none⟩ (.int .i64 0)).setCell ⟨w.heap.size + 1, 7, none⟩ (.bool false)) s F x) := hide (SStep.same (unhide H) (below_set (below_set (below_set (below_set (below_set (below_set (below_set (below_set (unhide HB1) hres 0 (.int .i64 2)) hres 1 (.int .i64 0)) hres 2 (.int .i64 0)) hres 3 (.int .i64 0)) hres 4 (.int .i64 0)) hres 5 (.int .i64 0)) hres 6 (.int .i64 0)) hres 7 (.bool false)))
  generalize ((((((((wB.setCell ⟨w.heap.size + 1, 0, none⟩ (.int .i64 2)).setCell ⟨w.heap.size + 1, 1, none⟩ (.int .i64 0)).setCell ⟨w.heap.size + 1, 2, none⟩ (.int .i64 0)).setCell ⟨w.heap.size + 1, 3, none⟩ (.int .i64 0)).setCell ⟨w.heap.size + 1, 4, none⟩ (.int .i64 0)).setCell ⟨w.heap.size + 1, 5, none⟩ (.int .i64 0)).setCell ⟨w.heap.size + 1, 6, none⟩ (.int .i64 0)).setCell ⟨w.heap.size + 1, 7, none⟩ (.bool false)) = wf at HAF HSF ⊢
  obtain ⟨u0, u1, u2, u3, u4, u5, u6, u7⟩ := (unhide HAF).c8.1
  exact bodyPost_ret (v := .tuple #[.agg #[.int .i64 2, .int .i64 0, .int .i64 0, .int .i64 0, .int .i64 0, .int .i64 0, .int .i64 0, .bool false], .nilIface]) (by simp [results, Tryz.results59, go_sem, u0, u1, u2, u3, u4, u5, u6, u7]) rfl ⟨rfl, unhide HSF⟩

set_option maxHeartbeats 6400000 in
set_option maxRecDepth 8000 in
theorem shello_retry {B s : Nat} {F : List Nat} {x : ServM.St} {h : ServM.Hi} {now : Int} {b : Bool} (w : World) (h0 : SOwn B w s F x) (hl8 : x.L.length ≤ 8) (hm : TokenM.makeErr x.ep x.key x.old h.a now = 0) (C : Hid (∀ W : World, Calls Tryz.prog 82 #[.agg #[.int .i64 x.ep, .int .i64 x.key, .int .i64 x.old], .agg #[.int .i64 h.a, .int .i64 h.te, .int .i64 h.ta, .int .i64 h.tt, .int .i64 h.tg, .int .i64 h.ke, .int .i64 h.kn, .int .i64 h.ku, .int .i64 h.kg, .string h.s], .int .i64 x.L.length, .int .i64 now, .int .i64 x.life] W fun e w' => e = .returned (.tuple #[.int .i64 0, .bool b, .nilIface]) ∧ Below W.heap.size W w')) :
    Calls Tryz.prog 59 #[.pointer (some ⟨s, 0, none⟩), .agg #[.int .i64 h.a, .int .i64 h.te, .int .i64 h.ta, .int .i64 h.tt, .int .i64 h.tg, .int .i64 h.ke, .int .i64 h.kn, .int .i64 h.ku, .int .i64 h.kg, .string h.s], .int .i64 now] w fun e w' => e = .returned (.tuple #[.agg #[.int .i64 0, .int .i64 x.ep, .int .i64 h.a, .int .i64 now, .int .i64 (TagM.tag x.key [1, h.a, now]), .int .i64 0, .int .i64 0, .bool false], .nilIface]) ∧ SStep B w w' s F x := by
  have HQ := hide h0
  have CR := hide (fun W (hW : Below w.heap.size w W) => sretry_yes W ((unhide HQ).later hW) hm)
  generalize TagM.tag x.key [1, h.a, now] = g at CR ⊢
  clear hm HQ
  have sl := h0.lt
  have H := hide h0
  obtain ⟨s0, s1, s2, s6⟩ := h0.nums
  clear h0
  have CW := hide (fun W (hW : Below w.heap.size w W) => swait_any W ((unhide H).later hW) hl8)
  go_enter Tryz.func59, Tryz.ntmps59
  go_upto_region 1 with fail
  have HH0 : Hid (Held ((w.alloc (.cells #[.int .i64 h.a, .int .i64 h.te, .int .i64 h.ta, .int .i64 h.tt, .int .i64 h.tg, .int .i64 h.ke, .int .i64 h.kn, .int .i64 h.ku, .int .i64 h.kg, .string h.s] 73)).alloc (.cells #[.int .i64 0, .int .i64 0, .int .i64 0, .int .i64 0, .int .i64 0, .int .i64 0, .int .i64 0, .bool false] 104)) w.heap.size (nh h.a h.te h.ta h.tt h.tg h.ke h.kn h.ku h.kg h.s)) := hide ((Held.fresh (w := w) (nh h.a h.te h.ta h.tt h.tg h.ke h.kn h.ku h.kg h.s) 73 rfl).alloc _)
  have HA0 : Hid (Held ((w.alloc (.cells #[.int .i64 h.a, .int .i64 h.te, .int .i64 h.ta, .int .i64 h.tt, .int .i64 h.tg, .int .i64 h.ke, .int .i64 h.kn, .int .i64 h.ku, .int .i64 h.kg, .string h.s] 73)).alloc (.cells #[.int .i64 0, .int .i64 0, .int .i64 0, .int .i64 0, .int .i64 0, .int .i64 0, .int .i64 0, .bool false] 104)) (w.heap.size + 1) (na 0 0 0 0 0 0 false)) := hide (Held.fresh (w := w.alloc (.cells #[.int .i64 h.a, .int .i64 h.te, .int .i64 h.ta, .int .i64 h.tt, .int .i64 h.tg, .int .i64 h.ke, .int .i64 h.kn, .int .i64 h.ku, .int .i64 h.kg, .string h.s] 73)) (na 0 0 0 0 0 0 false) 104 (by simp))
  have HB0 : Hid (Below w.heap.size w ((w.alloc (.cells #[.int .i64 h.a, .int .i64 h.te, .int .i64 h.ta, .int .i64 h.tt, .int .i64 h.tg, .int .i64 h.ke, .int .i64 h.kn, .int .i64 h.ku, .int .i64 h.kg, .string h.s] 73)).alloc (.cells #[.int .i64 0, .int .i64 0, .int .i64 0, .int .i64 0, .int .i64 0, .int .i64 0, .int .i64 0, .bool false] 104))) := hide (below_alloc (below_alloc (Below.refl _ _) _) _)
  have t0 := hide (cell_later (unhide HB0) s0)
  have t1 := hide (cell_later (unhide HB0) s1)
  have t2 := hide (cell_later (unhide HB0) s2)
  have t6 := hide (cell_later (unhide HB0) s6)
  clear s0 s1 s2 s6
  generalize ((w.alloc (.cells #[.int .i64 h.a, .int .i64 h.te, .int .i64 h.ta, .int .i64 h.tt, .int .i64 h.tg, .int .i64 h.ke, .int .i64 h.kn, .int .i64 h.ku, .int .i64 h.kg, .string h.s] 73)).alloc (.cells #[.int .i64 0, .int .i64 0, .int .i64 0, .int .i64 0, .int .i64 0, .int .i64 0, .int .i64 0, .bool false] 104)) = w0 at HH0 HA0 HB0 t0 t1 t2 t6 ⊢
  have z0 := (unhide HA0).2
  have r0 := unhide t0
  have r1 := unhide t1
  have r2 := unhide t2
  have r6 := unhide t6
  clear t0 t1 t2 t6
  have sl0 : s < w0.heap.size := by omega
  obtain ⟨h0, h1, h2, h3, h4, h5, h6, h7, h8, h9⟩ := (unhide HH0).c10.1
  have hhl := (unhide HH0).2
  generalize x.L.length = ln at CW C
  have RS : Hid (∀ W : World, Below w0.heap.size w0 W → Hid (Below w0.heap.size w0 W) ∧ W.cell? ⟨s, 0, none⟩ = some (.int .i64 x.ep) ∧ W.cell? ⟨s, 1, none⟩ = some (.int .i64 x.key) ∧ W.cell? ⟨s, 2, none⟩ = some (.int .i64 x.old) ∧ W.cell? ⟨s, 6, none⟩ = some (.int .i64 x.life) ∧ W.cell? ⟨w.heap.size, 0, none⟩ = some (.int .i64 h.a) ∧ W.cell? ⟨w.heap.size, 1, none⟩ = some (.int .i64 h.te) ∧ W.cell? ⟨w.heap.size, 2, none⟩ = some (.int .i64 h.ta) ∧ W.cell? ⟨w.heap.size, 3, none⟩ = some (.int .i64 h.tt) ∧ W.cell? ⟨w.heap.size, 4, none⟩ = some (.int .i64 h.tg) ∧ W.cell? ⟨w.heap.size, 5, none⟩ = some (.int .i64 h.ke) ∧ W.cell? ⟨w.heap.size, 6, none⟩ = some (.int .i64 h.kn) ∧ W.cell? ⟨w.heap.size, 7, none⟩ = some (.int .i64 h.ku) ∧ W.cell? ⟨w.heap.size, 8, none⟩ = some (.int .i64 h.kg) ∧ W.cell? ⟨w.heap.size, 9, none⟩ = some (.string h.s)) := hide (fun W hW => ⟨hide hW, cell_later hW r0, cell_later hW r1, cell_later hW r2, cell_later hW r6, cell_later hW h0, cell_later hW h1, cell_later hW h2, cell_later hW h3, cell_later hW h4, cell_later hW h5, cell_later hW h6, cell_later hW h7, cell_later hW h8, cell_later hW h9⟩)
  go_region_held3 (fun w' => Hid (Below w0.heap.size w0 w') ∧ w'.cell? ⟨s, 0, none⟩ = some (.int .i64 x.ep) ∧ w'.cell? ⟨s, 1, none⟩ = some (.int .i64 x.key) ∧ w'.cell? ⟨s, 2, none⟩ = some (.int .i64 x.old) ∧ w'.cell? ⟨s, 6, none⟩ = some (.int .i64 x.life) ∧ w'.cell? ⟨w.heap.size, 0, none⟩ = some (.int .i64 h.a) ∧ w'.cell? ⟨w.heap.size, 1, none⟩ = some (.int .i64 h.te) ∧ w'.cell? ⟨w.heap.size, 2, none⟩ = some (.int .i64 h.ta) ∧ w'.cell? ⟨w.heap.size, 3, none⟩ = some (.int .i64 h.tt) ∧ w'.cell? ⟨w.heap.size, 4, none⟩ = some (.int .i64 h.tg) ∧ w'.cell? ⟨w.heap.size, 5, none⟩ = some (.int .i64 h.ke) ∧ w'.cell? ⟨w.heap.size, 6, none⟩ = some (.int .i64 h.kn) ∧ w'.cell? ⟨w.heap.size, 7, none⟩ = some (.int .i64 h.ku) ∧ w'.cell? ⟨w.heap.size, 8, none⟩ = some (.int .i64 h.kg) ∧ w'.cell? ⟨w.heap.size, 9, none⟩ = some (.string h.s)) (first | exact unhide RS _ (Below.trans (unhide (And.left ‹Hid (Below w0.heap.size w0 _) ∧ _›)) (hbB.mono (unhide (And.left ‹Hid (Below w0.heap.size w0 _) ∧ _›)).size)) | exact unhide RS _ (Below.trans (unhide (And.left ‹Hid (Below w0.heap.size w0 _) ∧ _›)) (hbA.mono (unhide (And.left ‹Hid (Below w0.heap.size w0 _) ∧ _›)).size)) | exact unhide RS _ (Below.refl _ _).drew | exact unhide RS _ (unhide (And.left ‹Hid (Below w0.heap.size w0 _) ∧ _›)).drew)
    (first | (go_at_call 41; refine (unhide CW _ (bel3 (unhide HB0) (Below.refl _ _) (unhide (And.left ‹Hid (Below w0.heap.size w0 _) ∧ _›)))).mono ?_; rintro e wA ⟨rfl, hbA⟩) | (go_at_call 82; refine (unhide C _).mono ?_; rintro e wB ⟨rfl, hbB⟩))
  have hbx := unhide (And.left ‹Hid (Below w0.heap.size w0 _) ∧ _›)
  clear RS r0 r1 r2 r6 h0 h1 h2 h3 h4 h5 h6 h7 h8 h9 hhl
  have HH1 := hide ((unhide HH0).later hbx)
  have HA1 := hide ((unhide HA0).later hbx)
  have HB1 := hide (bel3 (unhide HB0) (Below.refl _ _) hbx)
  have y0 := hbx.size
  clear hbx HH0 HA0 HB0 hbA hbB
  have z1 : w.heap.size + 1 < wB.heap.size := by omega
  have hres : w.heap.size ≤ w.heap.size + 1 := by omega
  obtain ⟨h0, -, -, -, -, -, -, -, -, -⟩ := (unhide HH1).c10.1
  have hhl := (unhide HH1).2
  go_wp2_with fail
  refine (unhide CR _ (unhide HB1)).mono ?_
  rintro e w2 ⟨rfl, hb⟩
  have HA2 := hide ((unhide HA1).later hb)
  have HBX := hide (bel3 (unhide HB1) (Below.refl _ _) hb)
  clear hb h0 hhl HA1
  obtain ⟨⟨u0, u1, u2, u3, u4, u5, u6, u7⟩, ⟨v0, v1, v2, v3, v4, v5, v6, v7⟩⟩ := (unhide HA2).c8
  have ul := (unhide HA2).2
  go_wp2
  have HAF : Hid (Held ((((((((w2.setCell ⟨w.heap.size + 1, 0, none⟩ (.int .i64 0)).setCell ⟨w.heap.size + 1, 1, none⟩ (.int .i64 x.ep)).setCell ⟨w.heap.size + 1, 2, none⟩ (.int .i64 h.a)).setCell ⟨w.heap.size + 1, 3, none⟩ (.int .i64 now)).setCell ⟨w.heap.size + 1, 4, none⟩ (.int .i64 g)).setCell ⟨w.heap.size + 1, 5, none⟩ (.int .i64 0)).setCell ⟨w.heap.size + 1, 6, none⟩ (.int .i64 0)).setCell ⟨w.heap.size + 1, 7, none⟩ (.bool false)) (w.heap.size + 1) (na 0 x.ep h.a now g 0 false)) := hide (((((((((unhide HA2).put 0 (.int .i64 0)).put 1 (.int .i64 x.ep)).put 2 (.int .i64 h.a)).put 3 (.int .i64 now)).put 4 (.int .i64 g)).put 5 (.int .i64 0)).put 6 (.int .i64 0)).put 7 (.bool false))
  have HSF : Hid (SStep B w ((((((((w2.setCell ⟨w.heap.size + 1, 0, none⟩ (.int .i64 0)).setCell ⟨w.heap.size + 1, 1, none⟩ (.int .i64 x.ep)).setCell ⟨w.heap.size + 1, 2, none⟩ (.int .i64 h.a)).setCell ⟨w.heap.size + 1, 3, none⟩ (.int .i64 now)).setCell ⟨w.heap.size + 1, 4, none⟩ (.int .i64 g)).setCell ⟨w.heap.size + 1, 5, none⟩ (.int .i64 0)).setCell ⟨w.heap.size + 1, 6, none⟩ (.int .i64 0)).setCell ⟨w.heap.size + 1, 7, none⟩ (.bool false)) s F x) := hide (SStep.same (unhide H) (below_set (below_set (below_set (below_set (below_set (below_set (below_set (below_set (unhide HBX) hres 0 (.int .i64 0)) hres 1 (.int .i64 x.ep)) hres 2 (.int .i64 h.a)) hres 3 (.int .i64 now)) hres 4 (.int .i64 g)) hres 5 (.int .i64 0)) hres 6 (.int .i64 0)) hres 7 (.bool false)))
  generalize ((((((((w2.setCell ⟨w.heap.size + 1, 0, none⟩ (.int .i64 0)).setCell ⟨w.heap.size + 1, 1, none⟩ (.int .i64 x.ep)).setCell ⟨w.heap.size + 1, 2, none⟩ (.int .i64 h.a)).setCell ⟨w.heap.size + 1, 3, none⟩ (.int .i64 now)).setCell ⟨w.heap.size + 1, 4, none⟩ (.int .i64 g)).setCell ⟨w.heap.size + 1, 5, none⟩ (.int .i64 0)).setCell ⟨w.heap.size + 1, 6, none⟩ (.int .i64 0)).setCell ⟨w.heap.size + 1, 7, none⟩ (.bool false)) = wf at HAF HSF ⊢
  obtain ⟨u0, u1, u2, u3, u4, u5, u6, u7⟩ := (unhide HAF).c8.1
  exact bodyPost_ret (v := .tuple #[.agg #[.int .i64 0, .int .i64 x.ep, .int .i64 h.a, .int .i64 now, .int .i64 g, .int .i64 0, .int .i64 0, .bool false], .nilIface]) (by simp [results, Tryz.results59, go_sem, u0, u1, u2, u3, u4, u5, u6, u7]) rfl ⟨rfl, unhide HSF⟩

set_option maxHeartbeats 6400000 in
set_option maxRecDepth 8000 in
theorem shello_full {B s : Nat} {F : List Nat} {x : ServM.St} {h : ServM.Hi} {now : Int} {b : Bool} (w : World) (h0 : SOwn B w s F x) (hl8 : x.L.length ≤ 8) (hk : x.k = 4096) (C : Hid (∀ W : World, Calls Tryz.prog 82 #[.agg #[.int .i64 x.ep, .int .i64 x.key, .int .i64 x.old], .agg #[.int .i64 h.a, .int .i64 h.te, .int .i64 h.ta, .int .i64 h.tt, .int .i64 h.tg, .int .i64 h.ke, .int .i64 h.kn, .int .i64 h.ku, .int .i64 h.kg, .string h.s], .int .i64 x.L.length, .int .i64 now, .int .i64 x.life] W fun e w' => e = .returned (.tuple #[.int .i64 1, .bool b, .nilIface]) ∧ Below W.heap.size W w')) :
    Calls Tryz.prog 59 #[.pointer (some ⟨s, 0, none⟩), .agg #[.int .i64 h.a, .int .i64 h.te, .int .i64 h.ta, .int .i64 h.tt, .int .i64 h.tg, .int .i64 h.ke, .int .i64 h.kn, .int .i64 h.ku, .int .i64 h.kg, .string h.s], .int .i64 now] w fun e w' => e = .returned (.tuple #[.agg #[.int .i64 0, .int .i64 0, .int .i64 0, .int .i64 0, .int .i64 0, .int .i64 0, .int .i64 0, .bool false], .iface 85 (.int .i64 4)]) ∧ SStep B w w' s F x := by
  have HQ := hide h0
  have CR := hide (fun W (hW : Below w.heap.size w W) => sadmit_full W ((unhide HQ).later hW) hk)
  clear hk HQ
  have sl := h0.lt
  have H := hide h0
  obtain ⟨s0, s1, s2, s6⟩ := h0.nums
  clear h0
  have CW := hide (fun W (hW : Below w.heap.size w W) => swait_any W ((unhide H).later hW) hl8)
  go_enter Tryz.func59, Tryz.ntmps59
  go_upto_region 1 with fail
  have HH0 : Hid (Held ((w.alloc (.cells #[.int .i64 h.a, .int .i64 h.te, .int .i64 h.ta, .int .i64 h.tt, .int .i64 h.tg, .int .i64 h.ke, .int .i64 h.kn, .int .i64 h.ku, .int .i64 h.kg, .string h.s] 73)).alloc (.cells #[.int .i64 0, .int .i64 0, .int .i64 0, .int .i64 0, .int .i64 0, .int .i64 0, .int .i64 0, .bool false] 104)) w.heap.size (nh h.a h.te h.ta h.tt h.tg h.ke h.kn h.ku h.kg h.s)) := hide ((Held.fresh (w := w) (nh h.a h.te h.ta h.tt h.tg h.ke h.kn h.ku h.kg h.s) 73 rfl).alloc _)
  have HA0 : Hid (Held ((w.alloc (.cells #[.int .i64 h.a, .int .i64 h.te, .int .i64 h.ta, .int .i64 h.tt, .int .i64 h.tg, .int .i64 h.ke, .int .i64 h.kn, .int .i64 h.ku, .int .i64 h.kg, .string h.s] 73)).alloc (.cells #[.int .i64 0, .int .i64 0, .int .i64 0, .int .i64 0, .int .i64 0, .int .i64 0, .int .i64 0, .bool false] 104)) (w.heap.size + 1) (na 0 0 0 0 0 0 false)) := hide (Held.fresh (w := w.alloc (.cells #[.int .i64 h.a, .int .i64 h.te, .int .i64 h.ta, .int .i64 h.tt, .int .i64 h.tg, .int .i64 h.ke, .int .i64 h.kn, .int .i64 h.ku, .int .i64 h.kg, .string h.s] 73)) (na 0 0 0 0 0 0 false) 104 (by simp))
  have HB0 : Hid (Below w.heap.size w ((w.alloc (.cells #[.int .i64 h.a, .int .i64 h.te, .int .i64 h.ta, .int .i64 h.tt, .int .i64 h.tg, .int .i64 h.ke, .int .i64 h.kn, .int .i64 h.ku, .int .i64 h.kg, .string h.s] 73)).alloc (.cells #[.int .i64 0, .int .i64 0, .int .i64 0, .int .i64 0, .int .i64 0, .int .i64 0, .int .i64 0, .bool false] 104))) := hide (below_alloc (below_alloc (Below.refl _ _) _) _)
  have t0 := hide (cell_later (unhide HB0) s0)
  have t1 := hide (cell_later (unhide HB0) s1)
  have t2 := hide (cell_later (unhide HB0) s2)
  have t6 := hide (cell_later (unhide HB0) s6)
  clear s0 s1 s2 s6
  generalize ((w.alloc (.cells #[.int .i64 h.a, .int .i64 h.te, .int .i64 h.ta, .int .i64 h.tt, .int .i64 h.tg, .int .i64 h.ke, .int .i64 h.kn, .int .i64 h.ku, .int .i64 h.kg, .string h.s] 73)).alloc (.cells #[.int .i64 0, .int .i64 0, .int .i64 0, .int .i64 0, .int .i64 0, .int .i64 0, .int .i64 0, .bool false] 104)) = w0 at HH0 HA0 HB0 t0 t1 t2 t6 ⊢
  have z0 := (unhide HA0).2
  have r0 := unhide t0
  have r1 := unhide t1
  have r2 := unhide t2
  have r6 := unhide t6
  clear t0 t1 t2 t6
  have sl0 : s < w0.heap.size := by omega
  obtain ⟨h0, h1, h2, h3, h4, h5, h6, h7, h8, h9⟩ := (unhide HH0).c10.1
  have hhl := (unhide HH0).2
  generalize x.L.length = ln at CW C
  have RS : Hid (∀ W : World, Below w0.heap.size w0 W → Hid (Below w0.heap.size w0 W) ∧ W.cell? ⟨s, 0, none⟩ = some (.int .i64 x.ep) ∧ W.cell? ⟨s, 1, none⟩ = some (.int .i64 x.key) ∧ W.cell? ⟨s, 2, none⟩ = some (.int .i64 x.old) ∧ W.cell? ⟨s, 6, none⟩ = some (.int .i64 x.life) ∧ W.cell? ⟨w.heap.size, 0, none⟩ = some (.int .i64 h.a) ∧ W.cell? ⟨w.heap.size, 1, none⟩ = some (.int .i64 h.te) ∧ W.cell? ⟨w.heap.size, 2, none⟩ = some (.int .i64 h.ta) ∧ W.cell? ⟨w.heap.size, 3, none⟩ = some (.int .i64 h.tt) ∧ W.cell? ⟨w.heap.size, 4, none⟩ = some (.int .i64 h.tg) ∧ W.cell? ⟨w.heap.size, 5, none⟩ = some (.int .i64 h.ke) ∧ W.cell? ⟨w.heap.size, 6, none⟩ = some (.int .i64 h.kn) ∧ W.cell? ⟨w.heap.size, 7, none⟩ = some (.int .i64 h.ku) ∧ W.cell? ⟨w.heap.size, 8, none⟩ = some (.int .i64 h.kg) ∧ W.cell? ⟨w.heap.size, 9, none⟩ = some (.string h.s)) := hide (fun W hW => ⟨hide hW, cell_later hW r0, cell_later hW r1, cell_later hW r2, cell_later hW r6, cell_later hW h0, cell_later hW h1, cell_later hW h2, cell_later hW h3, cell_later hW h4, cell_later hW h5, cell_later hW h6, cell_later hW h7, cell_later hW h8, cell_later hW h9⟩)
  go_region_held3 (fun w' => Hid (Below w0.heap.size w0 w') ∧ w'.cell? ⟨s, 0, none⟩ = some (.int .i64 x.ep) ∧ w'.cell? ⟨s, 1, none⟩ = some (.int .i64 x.key) ∧ w'.cell? ⟨s, 2, none⟩ = some (.int .i64 x.old) ∧ w'.cell? ⟨s, 6, none⟩ = some (.int .i64 x.life) ∧ w'.cell? ⟨w.heap.size, 0, none⟩ = some (.int .i64 h.a) ∧ w'.cell? ⟨w.heap.size, 1, none⟩ = some (.int .i64 h.te) ∧ w'.cell? ⟨w.heap.size, 2, none⟩ = some (.int .i64 h.ta) ∧ w'.cell? ⟨w.heap.size, 3, none⟩ = some (.int .i64 h.tt) ∧ w'.cell? ⟨w.heap.size, 4, none⟩ = some (.int .i64 h.tg) ∧ w'.cell? ⟨w.heap.size, 5, none⟩ = some (.int .i64 h.ke) ∧ w'.cell? ⟨w.heap.size, 6, none⟩ = some (.int .i64 h.kn) ∧ w'.cell? ⟨w.heap.size, 7, none⟩ = some (.int .i64 h.ku) ∧ w'.cell? ⟨w.heap.size, 8, none⟩ = some (.int .i64 h.kg) ∧ w'.cell? ⟨w.heap.size, 9, none⟩ = some (.string h.s)) (first | exact unhide RS _ (Below.trans (unhide (And.left ‹Hid (Below w0.heap.size w0 _) ∧ _›)) (hbB.mono (unhide (And.left ‹Hid (Below w0.heap.size w0 _) ∧ _›)).size)) | exact unhide RS _ (Below.trans (unhide (And.left ‹Hid (Below w0.heap.size w0 _) ∧ _›)) (hbA.mono (unhide (And.left ‹Hid (Below w0.heap.size w0 _) ∧ _›)).size)) | exact unhide RS _ (Below.refl _ _).drew | exact unhide RS _ (unhide (And.left ‹Hid (Below w0.heap.size w0 _) ∧ _›)).drew)
    (first | (go_at_call 41; refine (unhide CW _ (bel3 (unhide HB0) (Below.refl _ _) (unhide (And.left ‹Hid (Below w0.heap.size w0 _) ∧ _›)))).mono ?_; rintro e wA ⟨rfl, hbA⟩) | (go_at_call 82; refine (unhide C _).mono ?_; rintro e wB ⟨rfl, hbB⟩))
  have hbx := unhide (And.left ‹Hid (Below w0.heap.size w0 _) ∧ _›)
  clear RS r0 r1 r2 r6 h0 h1 h2 h3 h4 h5 h6 h7 h8 h9 hhl
  have HH1 := hide ((unhide HH0).later hbx)
  have HA1 := hide ((unhide HA0).later hbx)
  have HB1 := hide (bel3 (unhide HB0) (Below.refl _ _) hbx)
  have y0 := hbx.size
  clear hbx HH0 HA0 HB0 hbA hbB
  have z1 : w.heap.size + 1 < wB.heap.size := by omega
  have hres : w.heap.size ≤ w.heap.size + 1 := by omega
  go_wp2_with fail
  refine (unhide CR _ (unhide HB1)).mono ?_
  rintro e w2 ⟨rfl, hb⟩
  have HA2 := hide ((unhide HA1).later hb)
  have HBX := hide (bel3 (unhide HB1) (Below.refl _ _) hb)
  clear hb HA1
  obtain ⟨⟨u0, u1, u2, u3, u4, u5, u6, u7⟩, ⟨v0, v1, v2, v3, v4, v5, v6, v7⟩⟩ := (unhide HA2).c8
  have ul := (unhide HA2).2
  go_wp2
  have HAF : Hid (Held (((((((((w2.setCell ⟨w.heap.size + 1, 0, none⟩ (.int .i64 0)).setCell ⟨w.heap.size + 1, 1, none⟩ (.int .i64 0)).setCell ⟨w.heap.size + 1, 2, none⟩ (.int .i64 0)).setCell ⟨w.heap.size + 1, 3, none⟩ (.int .i64 0)).setCell ⟨w.heap.size + 1, 4, none⟩ (.int .i64 0)).setCell ⟨w.heap.size + 1, 5, none⟩ (.int .i64 0)).setCell ⟨w.heap.size + 1, 6, none⟩ (.int .i64 0)).setCell ⟨w.heap.size + 1, 7, none⟩ (.bool false)).alloc (.cells #[.int .i64 0, .int .i64 0] 78)) (w.heap.size + 1) (na 0 0 0 0 0 0 false)) := hide ((((((((((unhide HA2).put 0 (.int .i64 0)).put 1 (.int .i64 0)).put 2 (.int .i64 0)).put 3 (.int .i64 0)).put 4 (.int .i64 0)).put 5 (.int .i64 0)).put 6 (.int .i64 0)).put 7 (.bool false)).alloc (.cells #[.int .i64 0, .int .i64 0] 78))
  have HSF : Hid (SStep B w (((((((((w2.setCell ⟨w.heap.size + 1, 0, none⟩ (.int .i64 0)).setCell ⟨w.heap.size + 1, 1, none⟩ (.int .i64 0)).setCell ⟨w.heap.size + 1, 2, none⟩ (.int .i64 0)).setCell ⟨w.heap.size + 1, 3, none⟩ (.int .i64 0)).setCell ⟨w.heap.size + 1, 4, none⟩ (.int .i64 0)).setCell ⟨w.heap.size + 1, 5, none⟩ (.int .i64 0)).setCell ⟨w.heap.size + 1, 6, none⟩ (.int .i64 0)).setCell ⟨w.heap.size + 1, 7, none⟩ (.bool false)).alloc (.cells #[.int .i64 0, .int .i64 0] 78)) s F x) := hide (SStep.same (unhide H) (below_alloc (below_set (below_set (below_set (below_set (below_set (below_set (below_set (below_set (unhide HBX) hres 0 (.int .i64 0)) hres 1 (.int .i64 0)) hres 2 (.int .i64 0)) hres 3 (.int .i64 0)) hres 4 (.int .i64 0)) hres 5 (.int .i64 0)) hres 6 (.int .i64 0)) hres 7 (.bool false)) (.cells #[.int .i64 0, .int .i64 0] 78)))
  generalize (((((((((w2.setCell ⟨w.heap.size + 1, 0, none⟩ (.int .i64 0)).setCell ⟨w.heap.size + 1, 1, none⟩ (.int .i64 0)).setCell ⟨w.heap.size + 1, 2, none⟩ (.int .i64 0)).setCell ⟨w.heap.size + 1, 3, none⟩ (.int .i64 0)).setCell ⟨w.heap.size + 1, 4, none⟩ (.int .i64 0)).setCell ⟨w.heap.size + 1, 5, none⟩ (.int .i64 0)).setCell ⟨w.heap.size + 1, 6, none⟩ (.int .i64 0)).setCell ⟨w.heap.size + 1, 7, none⟩ (.bool false)).alloc (.cells #[.int .i64 0, .int .i64 0] 78)) = wf at HAF HSF ⊢
  obtain ⟨u0, u1, u2, u3, u4, u5, u6, u7⟩ := (unhide HAF).c8.1
  exact bodyPost_ret (v := .tuple #[.agg #[.int .i64 0, .int .i64 0, .int .i64 0, .int .i64 0, .int .i64 0, .int .i64 0, .int .i64 0, .bool false], .iface 85 (.int .i64 4)]) (by simp [results, Tryz.results59, go_sem, u0, u1, u2, u3, u4, u5, u6, u7]) rfl ⟨rfl, unhide HSF⟩

set_option maxHeartbeats 6400000 in
set_option maxRecDepth 8000 in
theorem shello_in0 {B s : Nat} {F : List Nat} {x : ServM.St} {h : ServM.Hi} {now : Int} (w : World) (h0 : SOwn B w s F x) (hl8 : x.L.length ≤ 8) (good : ServM.Good x) (hk : x.k < 4096) (hl : x.L.length < 8) (C : Hid (∀ W : World, Calls Tryz.prog 82 #[.agg #[.int .i64 x.ep, .int .i64 x.key, .int .i64 x.old], .agg #[.int .i64 h.a, .int .i64 h.te, .int .i64 h.ta, .int .i64 h.tt, .int .i64 h.tg, .int .i64 h.ke, .int .i64 h.kn, .int .i64 h.ku, .int .i64 h.kg, .string h.s], .int .i64 x.L.length, .int .i64 now, .int .i64 x.life] W fun e w' => e = .returned (.tuple #[.int .i64 1, .bool false, .nilIface]) ∧ Below W.heap.size W w')) :
    Calls Tryz.prog 59 #[.pointer (some ⟨s, 0, none⟩), .agg #[.int .i64 h.a, .int .i64 h.te, .int .i64 h.ta, .int .i64 h.tt, .int .i64 h.tg, .int .i64 h.ke, .int .i64 h.kn, .int .i64 h.ku, .int .i64 h.kg, .string h.s], .int .i64 now] w fun e w' => e = .returned (.tuple #[.agg #[.int .i64 1, .int .i64 0, .int .i64 0, .int .i64 0, .int .i64 0, .int .i64 0, .int .i64 x.k, .bool false], .nilIface]) ∧ SStep B w w' s F { x with L := x.L ++ [(0, x.k)], k := x.k + 1 } := by
  have HQ := hide h0
  have CR := hide (fun W (hW : Below w.heap.size w W) => sadmit_yes W ((unhide HQ).later hW) good hk hl)
  clear hk HQ good hl
  have sl := h0.lt
  have H := hide h0
  obtain ⟨s0, s1, s2, s6⟩ := h0.nums
  clear h0
  have CW := hide (fun W (hW : Below w.heap.size w W) => swait_any W ((unhide H).later hW) hl8)
  go_enter Tryz.func59, Tryz.ntmps59
  go_upto_region 1 with fail
  have HH0 : Hid (Held ((w.alloc (.cells #[.int .i64 h.a, .int .i64 h.te, .int .i64 h.ta, .int .i64 h.tt, .int .i64 h.tg, .int .i64 h.ke, .int .i64 h.kn, .int .i64 h.ku, .int .i64 h.kg, .string h.s] 73)).alloc (.cells #[.int .i64 0, .int .i64 0, .int .i64 0, .int .i64 0, .int .i64 0, .int .i64 0, .int .i64 0, .bool false] 104)) w.heap.size (nh h.a h.te h.ta h.tt h.tg h.ke h.kn h.ku h.kg h.s)) := hide ((Held.fresh (w := w) (nh h.a h.te h.ta h.tt h.tg h.ke h.kn h.ku h.kg h.s) 73 rfl).alloc _)
  have HA0 : Hid (Held ((w.alloc (.cells #[.int .i64 h.a, .int .i64 h.te, .int .i64 h.ta, .int .i64 h.tt, .int .i64 h.tg, .int .i64 h.ke, .int .i64 h.kn, .int .i64 h.ku, .int .i64 h.kg, .string h.s] 73)).alloc (.cells #[.int .i64 0, .int .i64 0, .int .i64 0, .int .i64 0, .int .i64 0, .int .i64 0, .int .i64 0, .bool false] 104)) (w.heap.size + 1) (na 0 0 0 0 0 0 false)) := hide (Held.fresh (w := w.alloc (.cells #[.int .i64 h.a, .int .i64 h.te, .int .i64 h.ta, .int .i64 h.tt, .int .i64 h.tg, .int .i64 h.ke, .int .i64 h.kn, .int .i64 h.ku, .int .i64 h.kg, .string h.s] 73)) (na 0 0 0 0 0 0 false) 104 (by simp))
  have HB0 : Hid (Below w.heap.size w ((w.alloc (.cells #[.int .i64 h.a, .int .i64 h.te, .int .i64 h.ta, .int .i64 h.tt, .int .i64 h.tg, .int .i64 h.ke, .int .i64 h.kn, .int .i64 h.ku, .int .i64 h.kg, .string h.s] 73)).alloc (.cells #[.int .i64 0, .int .i64 0, .int .i64 0, .int .i64 0, .int .i64 0, .int .i64 0, .int .i64 0, .bool false] 104))) := hide (below_alloc (below_alloc (Below.refl _ _) _) _)
  have t0 := hide (cell_later (unhide HB0) s0)
  have t1 := hide (cell_later (unhide HB0) s1)
  have t2 := hide (cell_later (unhide HB0) s2)
  have t6 := hide (cell_later (unhide HB0) s6)
  clear s0 s1 s2 s6
  generalize ((w.alloc (.cells #[.int .i64 h.a, .int .i64 h.te, .int .i64 h.ta, .int .i64 h.tt, .int .i64 h.tg, .int .i64 h.ke, .int .i64 h.kn, .int .i64 h.ku, .int .i64 h.kg, .string h.s] 73)).alloc (.cells #[.int .i64 0, .int .i64 0, .int .i64 0, .int .i64 0, .int .i64 0, .int .i64 0, .int .i64 0, .bool false] 104)) = w0 at HH0 HA0 HB0 t0 t1 t2 t6 ⊢
  have z0 := (unhide HA0).2
  have r0 := unhide t0
  have r1 := unhide t1
  have r2 := unhide t2
  have r6 := unhide t6
  clear t0 t1 t2 t6
  have sl0 : s < w0.heap.size := by omega
  obtain ⟨h0, h1, h2, h3, h4, h5, h6, h7, h8, h9⟩ := (unhide HH0).c10.1
  have hhl := (unhide HH0).2
  generalize x.L.length = ln at CW C
  have RS : Hid (∀ W : World, Below w0.heap.size w0 W → Hid (Below w0.heap.size w0 W) ∧ W.cell? ⟨s, 0, none⟩ = some (.int .i64 x.ep) ∧ W.cell? ⟨s, 1, none⟩ = some (.int .i64 x.key) ∧ W.cell? ⟨s, 2, none⟩ = some (.int .i64 x.old) ∧ W.cell? ⟨s, 6, none⟩ = some (.int .i64 x.life) ∧ W.cell? ⟨w.heap.size, 0, none⟩ = some (.int .i64 h.a) ∧ W.cell? ⟨w.heap.size, 1, none⟩ = some (.int .i64 h.te) ∧ W.cell? ⟨w.heap.size, 2, none⟩ = some (.int .i64 h.ta) ∧ W.cell? ⟨w.heap.size, 3, none⟩ = some (.int .i64 h.tt) ∧ W.cell? ⟨w.heap.size, 4, none⟩ = some (.int .i64 h.tg) ∧ W.cell? ⟨w.heap.size, 5, none⟩ = some (.int .i64 h.ke) ∧ W.cell? ⟨w.heap.size, 6, none⟩ = some (.int .i64 h.kn) ∧ W.cell? ⟨w.heap.size, 7, none⟩ = some (.int .i64 h.ku) ∧ W.cell? ⟨w.heap.size, 8, none⟩ = some (.int .i64 h.kg) ∧ W.cell? ⟨w.heap.size, 9, none⟩ = some (.string h.s)) := hide (fun W hW => ⟨hide hW, cell_later hW r0, cell_later hW r1, cell_later hW r2, cell_later hW r6, cell_later hW h0, cell_later hW h1, cell_later hW h2, cell_later hW h3, cell_later hW h4, cell_later hW h5, cell_later hW h6, cell_later hW h7, cell_later hW h8, cell_later hW h9⟩)
  go_region_held3 (fun w' => Hid (Below w0.heap.size w0 w') ∧ w'.cell? ⟨s, 0, none⟩ = some (.int .i64 x.ep) ∧ w'.cell? ⟨s, 1, none⟩ = some (.int .i64 x.key) ∧ w'.cell? ⟨s, 2, none⟩ = some (.int .i64 x.old) ∧ w'.cell? ⟨s, 6, none⟩ = some (.int .i64 x.life) ∧ w'.cell? ⟨w.heap.size, 0, none⟩ = some (.int .i64 h.a) ∧ w'.cell? ⟨w.heap.size, 1, none⟩ = some (.int .i64 h.te) ∧ w'.cell? ⟨w.heap.size, 2, none⟩ = some (.int .i64 h.ta) ∧ w'.cell? ⟨w.heap.size, 3, none⟩ = some (.int .i64 h.tt) ∧ w'.cell? ⟨w.heap.size, 4, none⟩ = some (.int .i64 h.tg) ∧ w'.cell? ⟨w.heap.size, 5, none⟩ = some (.int .i64 h.ke) ∧ w'.cell? ⟨w.heap.size, 6, none⟩ = some (.int .i64 h.kn) ∧ w'.cell? ⟨w.heap.size, 7, none⟩ = some (.int .i64 h.ku) ∧ w'.cell? ⟨w.heap.size, 8, none⟩ = some (.int .i64 h.kg) ∧ w'.cell? ⟨w.heap.size, 9, none⟩ = some (.string h.s)) (first | exact unhide RS _ (Below.trans (unhide (And.left ‹Hid (Below w0.heap.size w0 _) ∧ _›)) (hbB.mono (unhide (And.left ‹Hid (Below w0.heap.size w0 _) ∧ _›)).size)) | exact unhide RS _ (Below.trans (unhide (And.left ‹Hid (Below w0.heap.size w0 _) ∧ _›)) (hbA.mono (unhide (And.left ‹Hid (Below w0.heap.size w0 _) ∧ _›)).size)) | exact unhide RS _ (Below.refl _ _).drew | exact unhide RS _ (unhide (And.left ‹Hid (Below w0.heap.size w0 _) ∧ _›)).drew)
    (first | (go_at_call 41; refine (unhide CW _ (bel3 (unhide HB0) (Below.refl _ _) (unhide (And.left ‹Hid (Below w0.heap.size w0 _) ∧ _›)))).mono ?_; rintro e wA ⟨rfl, hbA⟩) | (go_at_call 82; refine (unhide C _).mono ?_; rintro e wB ⟨rfl, hbB⟩))
  have hbx := unhide (And.left ‹Hid (Below w0.heap.size w0 _) ∧ _›)
  clear RS r0 r1 r2 r6 h0 h1 h2 h3 h4 h5 h6 h7 h8 h9 hhl
  have HH1 := hide ((unhide HH0).later hbx)
  have HA1 := hide ((unhide HA0).later hbx)
  have HB1 := hide (bel3 (unhide HB0) (Below.refl _ _) hbx)
  have y0 := hbx.size
  clear hbx HH0 HA0 HB0 hbA hbB
  have z1 : w.heap.size + 1 < wB.heap.size := by omega
  have hres : w.heap.size ≤ w.heap.size + 1 := by omega
  go_wp2_with fail
  refine (unhide CR _ (unhide HB1)).mono ?_
  rintro e w1 ⟨rfl, F1, own1, lk1, kp1⟩
  have HS1 := hide own1
  have HH2 := hide (kp1.held (unhide HH1) ((unhide H).out (Nat.le_refl _)))
  have HA2 := hide (kp1.held (unhide HA1) ((unhide H).out (Nat.le_succ _)))
  have HO := hide (fun k (hk : k < wB.heap.size) (hw : w.heap.size ≤ k) (hm : k ∈ F1) => (lk1 k hm).elim (fun q => (unhide H).out hw q) (fun q => absurd hk (by omega)))
  have y1 := kp1.size
  have HW : Hid (∀ W, Below w1.heap.size w1 W → ∀ w' z, SStep B W w' s F1 z → SStep B wB w' s F z) := hide (fun W hW w' z hs => by
    obtain ⟨F3, e1, e2⟩ := SStep.behind hW hs
    exact ⟨F3, e1, SLink.trans ⟨lk1, kp1⟩ e2⟩)
  clear own1 lk1 kp1 CR HH1 HA1
  go_upto_region 11 with fail
  have HC3 : Hid (Held (w1.alloc (.cells #[.int .i64 0, .int .i64 x.k] 78)) w1.heap.size [.int .i64 0, .int .i64 x.k]) := hide (Held.fresh (w := w1) [.int .i64 0, .int .i64 x.k] 78 rfl)
  have HH3 : Hid (Held (w1.alloc (.cells #[.int .i64 0, .int .i64 x.k] 78)) w.heap.size (nh h.a h.te h.ta h.tt h.tg h.ke h.kn h.ku h.kg h.s)) := hide ((unhide HH2).alloc _)
  have HA3 : Hid (Held (w1.alloc (.cells #[.int .i64 0, .int .i64 x.k] 78)) (w.heap.size + 1) (na 0 0 0 0 0 0 false)) := hide ((unhide HA2).alloc _)
  have HB3 : Hid (Below w1.heap.size w1 (w1.alloc (.cells #[.int .i64 0, .int .i64 x.k] 78))) := hide (below_alloc (Below.refl _ _) _)
  have HF3 : Hid (w1.heap.size ∉ (w.heap.size + 1) :: F1) := hide (fun hm => by
    rcases List.mem_cons.1 hm with e | e
    · omega
    · exact (unhide HS1).out (Nat.le_refl _) e)
  have HG3 : Hid (w.heap.size ∉ (w.heap.size + 1) :: F1) := hide (fun hm => by
    rcases List.mem_cons.1 hm with e | e
    · omega
    · exact unhide HO _ (by omega) (Nat.le_refl _) e)
  have HJ3 : Hid ((w.heap.size + 1) ∉ F1) := hide (fun hm => unhide HO _ z1 (Nat.le_succ _) hm)
  clear HH2 HA2 HO
  generalize (w1.alloc (.cells #[.int .i64 0, .int .i64 x.k] 78)) = w2 at HC3 HH3 HA3 HB3 ⊢
  generalize w1.heap.size = cb at HC3 HF3 ⊢
  obtain ⟨d0, d1⟩ := (unhide HC3).c2.1
  have dl := (unhide HC3).2
  obtain ⟨⟨u0, u1, u2, u3, u4, u5, u6, u7⟩, ⟨v0, v1, v2, v3, v4, v5, v6, v7⟩⟩ := (unhide HA3).c8
  have ul := (unhide HA3).2
  go_region
  have HSS : Hid (SStep B wB w2 s F { x with L := x.L ++ [(0, x.k)], k := x.k + 1 }) := hide (unhide HW _ (unhide HB3) _ _ (SStep.same ((unhide HS1).later (unhide HB3)) (Below.refl _ _)))
  go_wp2
  have HAF : Hid (Held ((((((((w2.setCell ⟨w.heap.size + 1, 0, none⟩ (.int .i64 1)).setCell ⟨w.heap.size + 1, 1, none⟩ (.int .i64 0)).setCell ⟨w.heap.size + 1, 2, none⟩ (.int .i64 0)).setCell ⟨w.heap.size + 1, 3, none⟩ (.int .i64 0)).setCell ⟨w.heap.size + 1, 4, none⟩ (.int .i64 0)).setCell ⟨w.heap.size + 1, 5, none⟩ (.int .i64 0)).setCell ⟨w.heap.size + 1, 6, none⟩ (.int .i64 x.k)).setCell ⟨w.heap.size + 1, 7, none⟩ (.bool false)).drew (w.heap.size + 1) (na 1 0 0 0 0 x.k false)) := hide (((((((((unhide HA3).put 0 (.int .i64 1)).put 1 (.int .i64 0)).put 2 (.int .i64 0)).put 3 (.int .i64 0)).put 4 (.int .i64 0)).put 5 (.int .i64 0)).put 6 (.int .i64 x.k)).put 7 (.bool false)).drew
  have HSF : Hid (SStep B w ((((((((w2.setCell ⟨w.heap.size + 1, 0, none⟩ (.int .i64 1)).setCell ⟨w.heap.size + 1, 1, none⟩ (.int .i64 0)).setCell ⟨w.heap.size + 1, 2, none⟩ (.int .i64 0)).setCell ⟨w.heap.size + 1, 3, none⟩ (.int .i64 0)).setCell ⟨w.heap.size + 1, 4, none⟩ (.int .i64 0)).setCell ⟨w.heap.size + 1, 5, none⟩ (.int .i64 0)).setCell ⟨w.heap.size + 1, 6, none⟩ (.int .i64 x.k)).setCell ⟨w.heap.size + 1, 7, none⟩ (.bool false)).drew s F ({ x with L := x.L ++ [(0, x.k)], k := x.k + 1 })) := hide ((unhide HSS).far (unhide HB1) (unhide H) (Nat.le_succ _) z1 (Kept.setCell (p := ⟨w.heap.size + 1, 7, none⟩) (Kept.setCell (p := ⟨w.heap.size + 1, 6, none⟩) (Kept.setCell (p := ⟨w.heap.size + 1, 5, none⟩) (Kept.setCell (p := ⟨w.heap.size + 1, 4, none⟩) (Kept.setCell (p := ⟨w.heap.size + 1, 3, none⟩) (Kept.setCell (p := ⟨w.heap.size + 1, 2, none⟩) (Kept.setCell (p := ⟨w.heap.size + 1, 1, none⟩) (Kept.setCell (p := ⟨w.heap.size + 1, 0, none⟩) (Kept.refl [w.heap.size + 1] w2) (.inl (List.mem_singleton.2 rfl)) (.int .i64 1)) (.inl (List.mem_singleton.2 rfl)) (.int .i64 0)) (.inl (List.mem_singleton.2 rfl)) (.int .i64 0)) (.inl (List.mem_singleton.2 rfl)) (.int .i64 0)) (.inl (List.mem_singleton.2 rfl)) (.int .i64 0)) (.inl (List.mem_singleton.2 rfl)) (.int .i64 0)) (.inl (List.mem_singleton.2 rfl)) (.int .i64 x.k)) (.inl (List.mem_singleton.2 rfl)) (.bool false)).drew)
  generalize ((((((((w2.setCell ⟨w.heap.size + 1, 0, none⟩ (.int .i64 1)).setCell ⟨w.heap.size + 1, 1, none⟩ (.int .i64 0)).setCell ⟨w.heap.size + 1, 2, none⟩ (.int .i64 0)).setCell ⟨w.heap.size + 1, 3, none⟩ (.int .i64 0)).setCell ⟨w.heap.size + 1, 4, none⟩ (.int .i64 0)).setCell ⟨w.heap.size + 1, 5, none⟩ (.int .i64 0)).setCell ⟨w.heap.size + 1, 6, none⟩ (.int .i64 x.k)).setCell ⟨w.heap.size + 1, 7, none⟩ (.bool false)).drew = wf at HAF HSF ⊢
  obtain ⟨u0, u1, u2, u3, u4, u5, u6, u7⟩ := (unhide HAF).c8.1
  exact bodyPost_ret (v := .tuple #[.agg #[.int .i64 1, .int .i64 0, .int .i64 0, .int .i64 0, .int .i64 0, .int .i64 0, .int .i64 x.k, .bool false], .nilIface]) (by simp [results, Tryz.results59, go_sem, u0, u1, u2, u3, u4, u5, u6, u7]) rfl ⟨rfl, unhide HSF⟩

set_option maxHeartbeats 6400000 in
set_option maxRecDepth 8000 in
theorem shello_in1 {B s : Nat} {F : List Nat} {x : ServM.St} {h : ServM.Hi} {now : Int} (w : World) (h0 : SOwn B w s F x) (hl8 : x.L.length ≤ 8) (good : ServM.Good x) (hk : x.k < 4096) (hl : x.L.length < 8) (he : ¬ SpentM.spendErr x.N h.kn h.ku now = 0) (C : Hid (∀ W : World, Calls Tryz.prog 82 #[.agg #[.int .i64 x.ep, .int .i64 x.key, .int .i64 x.old], .agg #[.int .i64 h.a, .int .i64 h.te, .int .i64 h.ta, .int .i64 h.tt, .int .i64 h.tg, .int .i64 h.ke, .int .i64 h.kn, .int .i64 h.ku, .int .i64 h.kg, .string h.s], .int .i64 x.L.length, .int .i64 now, .int .i64 x.life] W fun e w' => e = .returned (.tuple #[.int .i64 1, .bool true, .nilIface]) ∧ Below W.heap.size W w')) :
    Calls Tryz.prog 59 #[.pointer (some ⟨s, 0, none⟩), .agg #[.int .i64 h.a, .int .i64 h.te, .int .i64 h.ta, .int .i64 h.tt, .int .i64 h.tg, .int .i64 h.ke, .int .i64 h.kn, .int .i64 h.ku, .int .i64 h.kg, .string h.s], .int .i64 now] w fun e w' => e = .returned (.tuple #[.agg #[.int .i64 1, .int .i64 0, .int .i64 0, .int .i64 0, .int .i64 0, .int .i64 0, .int .i64 x.k, .bool false], .nilIface]) ∧ SStep B w w' s F { x with L := x.L ++ [(0, x.k)], k := x.k + 1 } := by
  have HQ := hide h0
  have CR := hide (fun W (hW : Below w.heap.size w W) => sadmit_yes W ((unhide HQ).later hW) good hk hl)
  clear hk HQ good hl
  have sl := h0.lt
  have H := hide h0
  obtain ⟨s0, s1, s2, s6⟩ := h0.nums
  clear h0
  have CW := hide (fun W (hW : Below w.heap.size w W) => swait_any W ((unhide H).later hW) hl8)
  go_enter Tryz.func59, Tryz.ntmps59
  go_upto_region 1 with fail
  have HH0 : Hid (Held ((w.alloc (.cells #[.int .i64 h.a, .int .i64 h.te, .int .i64 h.ta, .int .i64 h.tt, .int .i64 h.tg, .int .i64 h.ke, .int .i64 h.kn, .int .i64 h.ku, .int .i64 h.kg, .string h.s] 73)).alloc (.cells #[.int .i64 0, .int .i64 0, .int .i64 0, .int .i64 0, .int .i64 0, .int .i64 0, .int .i64 0, .bool false] 104)) w.heap.size (nh h.a h.te h.ta h.tt h.tg h.ke h.kn h.ku h.kg h.s)) := hide ((Held.fresh (w := w) (nh h.a h.te h.ta h.tt h.tg h.ke h.kn h.ku h.kg h.s) 73 rfl).alloc _)
  have HA0 : Hid (Held ((w.alloc (.cells #[.int .i64 h.a, .int .i64 h.te, .int .i64 h.ta, .int .i64 h.tt, .int .i64 h.tg, .int .i64 h.ke, .int .i64 h.kn, .int .i64 h.ku, .int .i64 h.kg, .string h.s] 73)).alloc (.cells #[.int .i64 0, .int .i64 0, .int .i64 0, .int .i64 0, .int .i64 0, .int .i64 0, .int .i64 0, .bool false] 104)) (w.heap.size + 1) (na 0 0 0 0 0 0 false)) := hide (Held.fresh (w := w.alloc (.cells #[.int .i64 h.a, .int .i64 h.te, .int .i64 h.ta, .int .i64 h.tt, .int .i64 h.tg, .int .i64 h.ke, .int .i64 h.kn, .int .i64 h.ku, .int .i64 h.kg, .string h.s] 73)) (na 0 0 0 0 0 0 false) 104 (by simp))
  have HB0 : Hid (Below w.heap.size w ((w.alloc (.cells #[.int .i64 h.a, .int .i64 h.te, .int .i64 h.ta, .int .i64 h.tt, .int .i64 h.tg, .int .i64 h.ke, .int .i64 h.kn, .int .i64 h.ku, .int .i64 h.kg, .string h.s] 73)).alloc (.cells #[.int .i64 0, .int .i64 0, .int .i64 0, .int .i64 0, .int .i64 0, .int .i64 0, .int .i64 0, .bool false] 104))) := hide (below_alloc (below_alloc (Below.refl _ _) _) _)
  have t0 := hide (cell_later (unhide HB0) s0)
  have t1 := hide (cell_later (unhide HB0) s1)
  have t2 := hide (cell_later (unhide HB0) s2)
  have t6 := hide (cell_later (unhide HB0) s6)
  clear s0 s1 s2 s6
  generalize ((w.alloc (.cells #[.int .i64 h.a, .int .i64 h.te, .int .i64 h.ta, .int .i64 h.tt, .int .i64 h.tg, .int .i64 h.ke, .int .i64 h.kn, .int .i64 h.ku, .int .i64 h.kg, .string h.s] 73)).alloc (.cells #[.int .i64 0, .int .i64 0, .int .i64 0, .int .i64 0, .int .i64 0, .int .i64 0, .int .i64 0, .bool false] 104)) = w0 at HH0 HA0 HB0 t0 t1 t2 t6 ⊢
  have z0 := (unhide HA0).2
  have r0 := unhide t0
  have r1 := unhide t1
  have r2 := unhide t2
  have r6 := unhide t6
  clear t0 t1 t2 t6
  have sl0 : s < w0.heap.size := by omega
  obtain ⟨h0, h1, h2, h3, h4, h5, h6, h7, h8, h9⟩ := (unhide HH0).c10.1
  have hhl := (unhide HH0).2
  generalize x.L.length = ln at CW C
  have RS : Hid (∀ W : World, Below w0.heap.size w0 W → Hid (Below w0.heap.size w0 W) ∧ W.cell? ⟨s, 0, none⟩ = some (.int .i64 x.ep) ∧ W.cell? ⟨s, 1, none⟩ = some (.int .i64 x.key) ∧ W.cell? ⟨s, 2, none⟩ = some (.int .i64 x.old) ∧ W.cell? ⟨s, 6, none⟩ = some (.int .i64 x.life) ∧ W.cell? ⟨w.heap.size, 0, none⟩ = some (.int .i64 h.a) ∧ W.cell? ⟨w.heap.size, 1, none⟩ = some (.int .i64 h.te) ∧ W.cell? ⟨w.heap.size, 2, none⟩ = some (.int .i64 h.ta) ∧ W.cell? ⟨w.heap.size, 3, none⟩ = some (.int .i64 h.tt) ∧ W.cell? ⟨w.heap.size, 4, none⟩ = some (.int .i64 h.tg) ∧ W.cell? ⟨w.heap.size, 5, none⟩ = some (.int .i64 h.ke) ∧ W.cell? ⟨w.heap.size, 6, none⟩ = some (.int .i64 h.kn) ∧ W.cell? ⟨w.heap.size, 7, none⟩ = some (.int .i64 h.ku) ∧ W.cell? ⟨w.heap.size, 8, none⟩ = some (.int .i64 h.kg) ∧ W.cell? ⟨w.heap.size, 9, none⟩ = some (.string h.s)) := hide (fun W hW => ⟨hide hW, cell_later hW r0, cell_later hW r1, cell_later hW r2, cell_later hW r6, cell_later hW h0, cell_later hW h1, cell_later hW h2, cell_later hW h3, cell_later hW h4, cell_later hW h5, cell_later hW h6, cell_later hW h7, cell_later hW h8, cell_later hW h9⟩)
  go_region_held3 (fun w' => Hid (Below w0.heap.size w0 w') ∧ w'.cell? ⟨s, 0, none⟩ = some (.int .i64 x.ep) ∧ w'.cell? ⟨s, 1, none⟩ = some (.int .i64 x.key) ∧ w'.cell? ⟨s, 2, none⟩ = some (.int .i64 x.old) ∧ w'.cell? ⟨s, 6, none⟩ = some (.int .i64 x.life) ∧ w'.cell? ⟨w.heap.size, 0, none⟩ = some (.int .i64 h.a) ∧ w'.cell? ⟨w.heap.size, 1, none⟩ = some (.int .i64 h.te) ∧ w'.cell? ⟨w.heap.size, 2, none⟩ = some (.int .i64 h.ta) ∧ w'.cell? ⟨w.heap.size, 3, none⟩ = some (.int .i64 h.tt) ∧ w'.cell? ⟨w.heap.size, 4, none⟩ = some (.int .i64 h.tg) ∧ w'.cell? ⟨w.heap.size, 5, none⟩ = some (.int .i64 h.ke) ∧ w'.cell? ⟨w.heap.size, 6, none⟩ = some (.int .i64 h.kn) ∧ w'.cell? ⟨w.heap.size, 7, none⟩ = some (.int .i64 h.ku) ∧ w'.cell? ⟨w.heap.size, 8, none⟩ = some (.int .i64 h.kg) ∧ w'.cell? ⟨w.heap.size, 9, none⟩ = some (.string h.s)) (first | exact unhide RS _ (Below.trans (unhide (And.left ‹Hid (Below w0.heap.size w0 _) ∧ _›)) (hbB.mono (unhide (And.left ‹Hid (Below w0.heap.size w0 _) ∧ _›)).size)) | exact unhide RS _ (Below.trans (unhide (And.left ‹Hid (Below w0.heap.size w0 _) ∧ _›)) (hbA.mono (unhide (And.left ‹Hid (Below w0.heap.size w0 _) ∧ _›)).size)) | exact unhide RS _ (Below.refl _ _).drew | exact unhide RS _ (unhide (And.left ‹Hid (Below w0.heap.size w0 _) ∧ _›)).drew)
    (first | (go_at_call 41; refine (unhide CW _ (bel3 (unhide HB0) (Below.refl _ _) (unhide (And.left ‹Hid (Below w0.heap.size w0 _) ∧ _›)))).mono ?_; rintro e wA ⟨rfl, hbA⟩) | (go_at_call 82; refine (unhide C _).mono ?_; rintro e wB ⟨rfl, hbB⟩))
  have hbx := unhide (And.left ‹Hid (Below w0.heap.size w0 _) ∧ _›)
  clear RS r0 r1 r2 r6 h0 h1 h2 h3 h4 h5 h6 h7 h8 h9 hhl
  have HH1 := hide ((unhide HH0).later hbx)
  have HA1 := hide ((unhide HA0).later hbx)
  have HB1 := hide (bel3 (unhide HB0) (Below.refl _ _) hbx)
  have y0 := hbx.size
  clear hbx HH0 HA0 HB0 hbA hbB
  have z1 : w.heap.size + 1 < wB.heap.size := by omega
  have hres : w.heap.size ≤ w.heap.size + 1 := by omega
  go_wp2_with fail
  refine (unhide CR _ (unhide HB1)).mono ?_
  rintro e w1 ⟨rfl, F1, own1, lk1, kp1⟩
  have HS1 := hide own1
  have HH2 := hide (kp1.held (unhide HH1) ((unhide H).out (Nat.le_refl _)))
  have HA2 := hide (kp1.held (unhide HA1) ((unhide H).out (Nat.le_succ _)))
  have HO := hide (fun k (hk : k < wB.heap.size) (hw : w.heap.size ≤ k) (hm : k ∈ F1) => (lk1 k hm).elim (fun q => (unhide H).out hw q) (fun q => absurd hk (by omega)))
  have y1 := kp1.size
  have HW : Hid (∀ W, Below w1.heap.size w1 W → ∀ w' z, SStep B W w' s F1 z → SStep B wB w' s F z) := hide (fun W hW w' z hs => by
    obtain ⟨F3, e1, e2⟩ := SStep.behind hW hs
    exact ⟨F3, e1, SLink.trans ⟨lk1, kp1⟩ e2⟩)
  have CS := hide (fun W (hW : Below w1.heap.size w1 W) => sspend_no (ke := h.ke) (kg := h.kg) (now := now) (x := { x with L := x.L ++ [(0, x.k)], k := x.k + 1 }) W ((unhide HS1).later hW) he)
  clear own1 lk1 kp1 CR HH1 HA1
  go_upto_region 11 with fail
  have HC3 : Hid (Held (w1.alloc (.cells #[.int .i64 0, .int .i64 x.k] 78)) w1.heap.size [.int .i64 0, .int .i64 x.k]) := hide (Held.fresh (w := w1) [.int .i64 0, .int .i64 x.k] 78 rfl)
  have HH3 : Hid (Held (w1.alloc (.cells #[.int .i64 0, .int .i64 x.k] 78)) w.heap.size (nh h.a h.te h.ta h.tt h.tg h.ke h.kn h.ku h.kg h.s)) := hide ((unhide HH2).alloc _)
  have HA3 : Hid (Held (w1.alloc (.cells #[.int .i64 0, .int .i64 x.k] 78)) (w.heap.size + 1) (na 0 0 0 0 0 0 false)) := hide ((unhide HA2).alloc _)
  have HB3 : Hid (Below w1.heap.size w1 (w1.alloc (.cells #[.int .i64 0, .int .i64 x.k] 78))) := hide (below_alloc (Below.refl _ _) _)
  have HF3 : Hid (w1.heap.size ∉ (w.heap.size + 1) :: F1) := hide (fun hm => by
    rcases List.mem_cons.1 hm with e | e
    · omega
    · exact (unhide HS1).out (Nat.le_refl _) e)
  have HG3 : Hid (w.heap.size ∉ (w.heap.size + 1) :: F1) := hide (fun hm => by
    rcases List.mem_cons.1 hm with e | e
    · omega
    · exact unhide HO _ (by omega) (Nat.le_refl _) e)
  have HJ3 : Hid ((w.heap.size + 1) ∉ F1) := hide (fun hm => unhide HO _ z1 (Nat.le_succ _) hm)
  clear HH2 HA2 HO
  generalize (w1.alloc (.cells #[.int .i64 0, .int .i64 x.k] 78)) = w2 at HC3 HH3 HA3 HB3 ⊢
  generalize w1.heap.size = cb at HC3 HF3 ⊢
  obtain ⟨d0, d1⟩ := (unhide HC3).c2.1
  have dl := (unhide HC3).2
  obtain ⟨-, -, -, -, -, h5, h6, h7, h8, -⟩ := (unhide HH3).c10.1
  have hhl := (unhide HH3).2
  obtain ⟨⟨u0, u1, u2, u3, u4, u5, u6, u7⟩, ⟨v0, v1, v2, v3, v4, v5, v6, v7⟩⟩ := (unhide HA3).c8
  have ul := (unhide HA3).2
  have RS : Hid (∀ W : World, Kept ((w.heap.size + 1) :: F1) w2 W → Hid (Kept ((w.heap.size + 1) :: F1) w2 W) ∧ W.cell? ⟨cb, 0, none⟩ = some (.int .i64 0) ∧ W.cell? ⟨cb, 1, none⟩ = some (.int .i64 x.k) ∧ W.cell? ⟨w.heap.size, 5, none⟩ = some (.int .i64 h.ke) ∧ W.cell? ⟨w.heap.size, 6, none⟩ = some (.int .i64 h.kn) ∧ W.cell? ⟨w.heap.size, 7, none⟩ = some (.int .i64 h.ku) ∧ W.cell? ⟨w.heap.size, 8, none⟩ = some (.int .i64 h.kg)) := hide (fun W hk => by
    obtain ⟨e0, e1⟩ := (hk.held (unhide HC3) (unhide HF3)).c2.1
    obtain ⟨-, -, -, -, -, g5, g6, g7, g8, -⟩ := (hk.held (unhide HH3) (unhide HG3)).c10.1
    exact ⟨hide hk, e0, e1, g5, g6, g7, g8⟩)
  go_region_held3 (fun w' => Hid (Kept ((w.heap.size + 1) :: F1) w2 w') ∧ w'.cell? ⟨cb, 0, none⟩ = some (.int .i64 0) ∧ w'.cell? ⟨cb, 1, none⟩ = some (.int .i64 x.k) ∧ w'.cell? ⟨w.heap.size, 5, none⟩ = some (.int .i64 h.ke) ∧ w'.cell? ⟨w.heap.size, 6, none⟩ = some (.int .i64 h.kn) ∧ w'.cell? ⟨w.heap.size, 7, none⟩ = some (.int .i64 h.ku) ∧ w'.cell? ⟨w.heap.size, 8, none⟩ = some (.int .i64 h.kg))
    (first | with_reducible assumption | exact unhide RS _ (Kept.setCell (F := ((w.heap.size + 1) :: F1)) (p := ⟨w.heap.size + 1, 7, none⟩) (Kept.setCell (F := ((w.heap.size + 1) :: F1)) (p := ⟨w.heap.size + 1, 6, none⟩) (Kept.setCell (F := ((w.heap.size + 1) :: F1)) (p := ⟨w.heap.size + 1, 5, none⟩) (Kept.setCell (F := ((w.heap.size + 1) :: F1)) (p := ⟨w.heap.size + 1, 4, none⟩) (Kept.setCell (F := ((w.heap.size + 1) :: F1)) (p := ⟨w.heap.size + 1, 3, none⟩) (Kept.setCell (F := ((w.heap.size + 1) :: F1)) (p := ⟨w.heap.size + 1, 2, none⟩) (Kept.setCell (F := ((w.heap.size + 1) :: F1)) (p := ⟨w.heap.size + 1, 1, none⟩) (Kept.setCell (F := ((w.heap.size + 1) :: F1)) (p := ⟨w.heap.size + 1, 0, none⟩) (unhide (And.left hS3)) (.inl (List.mem_cons_self ..)) (.int .i64 1)) (.inl (List.mem_cons_self ..)) (.int .i64 0)) (.inl (List.mem_cons_self ..)) (.int .i64 0)) (.inl (List.mem_cons_self ..)) (.int .i64 0)) (.inl (List.mem_cons_self ..)) (.int .i64 0)) (.inl (List.mem_cons_self ..)) (.int .i64 0)) (.inl (List.mem_cons_self ..)) (.int .i64 x.k)) (.inl (List.mem_cons_self ..)) (.bool false)) | exact unhide RS _ (Kept.refl _ _).drew)
    (first | (go_at_call 85; refine (unhide CS _ (by first | exact unhide HB3 | exact below_drew (unhide HB3))).mono ?_; rintro e w3 ⟨rfl, hs⟩; have hk0 := hs.keep; have hk' : Kept ((w.heap.size + 1) :: F1) _ w3 := hk0.mono (fun k hk => .inl (List.mem_cons_of_mem _ hk)); have hS3 := unhide RS w3 (Kept.trans (unhide (And.left ‹Hid (Kept ((w.heap.size + 1) :: F1) w2 _) ∧ _›)) hk'); have HA4 := hide (hk0.held (by first | exact unhide HA3 | exact (unhide HA3).drew) (unhide HJ3)); have hss := unhide HW _ (by first | exact unhide HB3 | exact below_drew (unhide HB3)) _ _ hs; have hac := (unhide HA4).c8; have hal := (unhide HA4).2; obtain ⟨⟨x0, x1, x2, x3, x4, x5, x6, x7⟩, ⟨xf0, xf1, xf2, xf3, xf4, xf5, xf6, xf7⟩⟩ := hac))
  have HSS := hide hss
  clear hss hs hk0 hk' hS3 x0 x1 x2 x3 x4 x5 x6 x7 xf0 xf1 xf2 xf3 xf4 xf5 xf6 xf7 hal RS d0 d1 dl h5 h6 h7 h8 hhl u0 u1 u2 u3 u4 u5 u6 u7 v0 v1 v2 v3 v4 v5 v6 v7 ul
  go_wp2
  have HAF : Hid (Held ((((((((w3.setCell ⟨w.heap.size + 1, 0, none⟩ (.int .i64 1)).setCell ⟨w.heap.size + 1, 1, none⟩ (.int .i64 0)).setCell ⟨w.heap.size + 1, 2, none⟩ (.int .i64 0)).setCell ⟨w.heap.size + 1, 3, none⟩ (.int .i64 0)).setCell ⟨w.heap.size + 1, 4, none⟩ (.int .i64 0)).setCell ⟨w.heap.size + 1, 5, none⟩ (.int .i64 0)).setCell ⟨w.heap.size + 1, 6, none⟩ (.int .i64 x.k)).setCell ⟨w.heap.size + 1, 7, none⟩ (.bool false)) (w.heap.size + 1) (na 1 0 0 0 0 x.k false)) := hide (((((((((unhide HA4).put 0 (.int .i64 1)).put 1 (.int .i64 0)).put 2 (.int .i64 0)).put 3 (.int .i64 0)).put 4 (.int .i64 0)).put 5 (.int .i64 0)).put 6 (.int .i64 x.k)).put 7 (.bool false))
  have HSF : Hid (SStep B w ((((((((w3.setCell ⟨w.heap.size + 1, 0, none⟩ (.int .i64 1)).setCell ⟨w.heap.size + 1, 1, none⟩ (.int .i64 0)).setCell ⟨w.heap.size + 1, 2, none⟩ (.int .i64 0)).setCell ⟨w.heap.size + 1, 3, none⟩ (.int .i64 0)).setCell ⟨w.heap.size + 1, 4, none⟩ (.int .i64 0)).setCell ⟨w.heap.size + 1, 5, none⟩ (.int .i64 0)).setCell ⟨w.heap.size + 1, 6, none⟩ (.int .i64 x.k)).setCell ⟨w.heap.size + 1, 7, none⟩ (.bool false)) s F ({ x with L := x.L ++ [(0, x.k)], k := x.k + 1 })) := hide ((unhide HSS).far (unhide HB1) (unhide H) (Nat.le_succ _) z1 (Kept.setCell (p := ⟨w.heap.size + 1, 7, none⟩) (Kept.setCell (p := ⟨w.heap.size + 1, 6, none⟩) (Kept.setCell (p := ⟨w.heap.size + 1, 5, none⟩) (Kept.setCell (p := ⟨w.heap.size + 1, 4, none⟩) (Kept.setCell (p := ⟨w.heap.size + 1, 3, none⟩) (Kept.setCell (p := ⟨w.heap.size + 1, 2, none⟩) (Kept.setCell (p := ⟨w.heap.size + 1, 1, none⟩) (Kept.setCell (p := ⟨w.heap.size + 1, 0, none⟩) (Kept.refl [w.heap.size + 1] w3) (.inl (List.mem_singleton.2 rfl)) (.int .i64 1)) (.inl (List.mem_singleton.2 rfl)) (.int .i64 0)) (.inl (List.mem_singleton.2 rfl)) (.int .i64 0)) (.inl (List.mem_singleton.2 rfl)) (.int .i64 0)) (.inl (List.mem_singleton.2 rfl)) (.int .i64 0)) (.inl (List.mem_singleton.2 rfl)) (.int .i64 0)) (.inl (List.mem_singleton.2 rfl)) (.int .i64 x.k)) (.inl (List.mem_singleton.2 rfl)) (.bool false)))
  generalize ((((((((w3.setCell ⟨w.heap.size + 1, 0, none⟩ (.int .i64 1)).setCell ⟨w.heap.size + 1, 1, none⟩ (.int .i64 0)).setCell ⟨w.heap.size + 1, 2, none⟩ (.int .i64 0)).setCell ⟨w.heap.size + 1, 3, none⟩ (.int .i64 0)).setCell ⟨w.heap.size + 1, 4, none⟩ (.int .i64 0)).setCell ⟨w.heap.size + 1, 5, none⟩ (.int .i64 0)).setCell ⟨w.heap.size + 1, 6, none⟩ (.int .i64 x.k)).setCell ⟨w.heap.size + 1, 7, none⟩ (.bool false)) = wf at HAF HSF ⊢
  obtain ⟨u0, u1, u2, u3, u4, u5, u6, u7⟩ := (unhide HAF).c8.1
  exact bodyPost_ret (v := .tuple #[.agg #[.int .i64 1, .int .i64 0, .int .i64 0, .int .i64 0, .int .i64 0, .int .i64 0, .int .i64 x.k, .bool false], .nilIface]) (by simp [results, Tryz.results59, go_sem, u0, u1, u2, u3, u4, u5, u6, u7]) rfl ⟨rfl, unhide HSF⟩

set_option maxHeartbeats 6400000 in
set_option maxRecDepth 8000 in
theorem shello_in2 {B s : Nat} {F : List Nat} {x : ServM.St} {h : ServM.Hi} {now : Int} (w : World) (h0 : SOwn B w s F x) (hl8 : x.L.length ≤ 8) (good : ServM.Good x) (hk : x.k < 4096) (hl : x.L.length < 8) (he : SpentM.spendErr x.N h.kn h.ku now = 0) (C : Hid (∀ W : World, Calls Tryz.prog 82 #[.agg #[.int .i64 x.ep, .int .i64 x.key, .int .i64 x.old], .agg #[.int .i64 h.a, .int .i64 h.te, .int .i64 h.ta, .int .i64 h.tt, .int .i64 h.tg, .int .i64 h.ke, .int .i64 h.kn, .int .i64 h.ku, .int .i64 h.kg, .string h.s], .int .i64 x.L.length, .int .i64 now, .int .i64 x.life] W fun e w' => e = .returned (.tuple #[.int .i64 1, .bool true, .nilIface]) ∧ Below W.heap.size W w')) :
    Calls Tryz.prog 59 #[.pointer (some ⟨s, 0, none⟩), .agg #[.int .i64 h.a, .int .i64 h.te, .int .i64 h.ta, .int .i64 h.tt, .int .i64 h.tg, .int .i64 h.ke, .int .i64 h.kn, .int .i64 h.ku, .int .i64 h.kg, .string h.s], .int .i64 now] w fun e w' => e = .returned (.tuple #[.agg #[.int .i64 1, .int .i64 0, .int .i64 0, .int .i64 0, .int .i64 0, .int .i64 0, .int .i64 x.k, .bool true], .nilIface]) ∧ SStep B w w' s F { x with L := x.L ++ [(0, x.k)], k := x.k + 1, N := SpentM.left x.N now ++ [(h.kn, h.ku)], K := SpentM.left x.N now ++ [(h.kn, h.ku)] } := by
  have HQ := hide h0
  have CR := hide (fun W (hW : Below w.heap.size w W) => sadmit_yes W ((unhide HQ).later hW) good hk hl)
  clear hk HQ good hl
  have sl := h0.lt
  have H := hide h0
  obtain ⟨s0, s1, s2, s6⟩ := h0.nums
  clear h0
  have CW := hide (fun W (hW : Below w.heap.size w W) => swait_any W ((unhide H).later hW) hl8)
  go_enter Tryz.func59, Tryz.ntmps59
  go_upto_region 1 with fail
  have HH0 : Hid (Held ((w.alloc (.cells #[.int .i64 h.a, .int .i64 h.te, .int .i64 h.ta, .int .i64 h.tt, .int .i64 h.tg, .int .i64 h.ke, .int .i64 h.kn, .int .i64 h.ku, .int .i64 h.kg, .string h.s] 73)).alloc (.cells #[.int .i64 0, .int .i64 0, .int .i64 0, .int .i64 0, .int .i64 0, .int .i64 0, .int .i64 0, .bool false] 104)) w.heap.size (nh h.a h.te h.ta h.tt h.tg h.ke h.kn h.ku h.kg h.s)) := hide ((Held.fresh (w := w) (nh h.a h.te h.ta h.tt h.tg h.ke h.kn h.ku h.kg h.s) 73 rfl).alloc _)
  have HA0 : Hid (Held ((w.alloc (.cells #[.int .i64 h.a, .int .i64 h.te, .int .i64 h.ta, .int .i64 h.tt, .int .i64 h.tg, .int .i64 h.ke, .int .i64 h.kn, .int .i64 h.ku, .int .i64 h.kg, .string h.s] 73)).alloc (.cells #[.int .i64 0, .int .i64 0, .int .i64 0, .int .i64 0, .int .i64 0, .int .i64 0, .int .i64 0, .bool false] 104)) (w.heap.size + 1) (na 0 0 0 0 0 0 false)) := hide (Held.fresh (w := w.alloc (.cells #[.int .i64 h.a, .int .i64 h.te, .int .i64 h.ta, .int .i64 h.tt, .int .i64 h.tg, .int .i64 h.ke, .int .i64 h.kn, .int .i64 h.ku, .int .i64 h.kg, .string h.s] 73)) (na 0 0 0 0 0 0 false) 104 (by simp))
  have HB0 : Hid (Below w.heap.size w ((w.alloc (.cells #[.int .i64 h.a, .int .i64 h.te, .int .i64 h.ta, .int .i64 h.tt, .int .i64 h.tg, .int .i64 h.ke, .int .i64 h.kn, .int .i64 h.ku, .int .i64 h.kg, .string h.s] 73)).alloc (.cells #[.int .i64 0, .int .i64 0, .int .i64 0, .int .i64 0, .int .i64 0, .int .i64 0, .int .i64 0, .bool false] 104))) := hide (below_alloc (below_alloc (Below.refl _ _) _) _)
  have t0 := hide (cell_later (unhide HB0) s0)
  have t1 := hide (cell_later (unhide HB0) s1)
  have t2 := hide (cell_later (unhide HB0) s2)
  have t6 := hide (cell_later (unhide HB0) s6)
  clear s0 s1 s2 s6
  generalize ((w.alloc (.cells #[.int .i64 h.a, .int .i64 h.te, .int .i64 h.ta, .int .i64 h.tt, .int .i64 h.tg, .int .i64 h.ke, .int .i64 h.kn, .int .i64 h.ku, .int .i64 h.kg, .string h.s] 73)).alloc (.cells #[.int .i64 0, .int .i64 0, .int .i64 0, .int .i64 0, .int .i64 0, .int .i64 0, .int .i64 0, .bool false] 104)) = w0 at HH0 HA0 HB0 t0 t1 t2 t6 ⊢
  have z0 := (unhide HA0).2
  have r0 := unhide t0
  have r1 := unhide t1
  have r2 := unhide t2
  have r6 := unhide t6
  clear t0 t1 t2 t6
  have sl0 : s < w0.heap.size := by omega
  obtain ⟨h0, h1, h2, h3, h4, h5, h6, h7, h8, h9⟩ := (unhide HH0).c10.1
  have hhl := (unhide HH0).2
  generalize x.L.length = ln at CW C
  have RS : Hid (∀ W : World, Below w0.heap.size w0 W → Hid (Below w0.heap.size w0 W) ∧ W.cell? ⟨s, 0, none⟩ = some (.int .i64 x.ep) ∧ W.cell? ⟨s, 1, none⟩ = some (.int .i64 x.key) ∧ W.cell? ⟨s, 2, none⟩ = some (.int .i64 x.old) ∧ W.cell? ⟨s, 6, none⟩ = some (.int .i64 x.life) ∧ W.cell? ⟨w.heap.size, 0, none⟩ = some (.int .i64 h.a) ∧ W.cell? ⟨w.heap.size, 1, none⟩ = some (.int .i64 h.te) ∧ W.cell? ⟨w.heap.size, 2, none⟩ = some (.int .i64 h.ta) ∧ W.cell? ⟨w.heap.size, 3, none⟩ = some (.int .i64 h.tt) ∧ W.cell? ⟨w.heap.size, 4, none⟩ = some (.int .i64 h.tg) ∧ W.cell? ⟨w.heap.size, 5, none⟩ = some (.int .i64 h.ke) ∧ W.cell? ⟨w.heap.size, 6, none⟩ = some (.int .i64 h.kn) ∧ W.cell? ⟨w.heap.size, 7, none⟩ = some (.int .i64 h.ku) ∧ W.cell? ⟨w.heap.size, 8, none⟩ = some (.int .i64 h.kg) ∧ W.cell? ⟨w.heap.size, 9, none⟩ = some (.string h.s)) := hide (fun W hW => ⟨hide hW, cell_later hW r0, cell_later hW r1, cell_later hW r2, cell_later hW r6, cell_later hW h0, cell_later hW h1, cell_later hW h2, cell_later hW h3, cell_later hW h4, cell_later hW h5, cell_later hW h6, cell_later hW h7, cell_later hW h8, cell_later hW h9⟩)
  go_region_held3 (fun w' => Hid (Below w0.heap.size w0 w') ∧ w'.cell? ⟨s, 0, none⟩ = some (.int .i64 x.ep) ∧ w'.cell? ⟨s, 1, none⟩ = some (.int .i64 x.key) ∧ w'.cell? ⟨s, 2, none⟩ = some (.int .i64 x.old) ∧ w'.cell? ⟨s, 6, none⟩ = some (.int .i64 x.life) ∧ w'.cell? ⟨w.heap.size, 0, none⟩ = some (.int .i64 h.a) ∧ w'.cell? ⟨w.heap.size, 1, none⟩ = some (.int .i64 h.te) ∧ w'.cell? ⟨w.heap.size, 2, none⟩ = some (.int .i64 h.ta) ∧ w'.cell? ⟨w.heap.size, 3, none⟩ = some (.int .i64 h.tt) ∧ w'.cell? ⟨w.heap.size, 4, none⟩ = some (.int .i64 h.tg) ∧ w'.cell? ⟨w.heap.size, 5, none⟩ = some (.int .i64 h.ke) ∧ w'.cell? ⟨w.heap.size, 6, none⟩ = some (.int .i64 h.kn) ∧ w'.cell? ⟨w.heap.size, 7, none⟩ = some (.int .i64 h.ku) ∧ w'.cell? ⟨w.heap.size, 8, none⟩ = some (.int .i64 h.kg) ∧ w'.cell? ⟨w.heap.size, 9, none⟩ = some (.string h.s)) (first | exact unhide RS _ (Below.trans (unhide (And.left ‹Hid (Below w0.heap.size w0 _) ∧ _›)) (hbB.mono (unhide (And.left ‹Hid (Below w0.heap.size w0 _) ∧ _›)).size)) | exact unhide RS _ (Below.trans (unhide (And.left ‹Hid (Below w0.heap.size w0 _) ∧ _›)) (hbA.mono (unhide (And.left ‹Hid (Below w0.heap.size w0 _) ∧ _›)).size)) | exact unhide RS _ (Below.refl _ _).drew | exact unhide RS _ (unhide (And.left ‹Hid (Below w0.heap.size w0 _) ∧ _›)).drew)
    (first | (go_at_call 41; refine (unhide CW _ (bel3 (unhide HB0) (Below.refl _ _) (unhide (And.left ‹Hid (Below w0.heap.size w0 _) ∧ _›)))).mono ?_; rintro e wA ⟨rfl, hbA⟩) | (go_at_call 82; refine (unhide C _).mono ?_; rintro e wB ⟨rfl, hbB⟩))
  have hbx := unhide (And.left ‹Hid (Below w0.heap.size w0 _) ∧ _›)
  clear RS r0 r1 r2 r6 h0 h1 h2 h3 h4 h5 h6 h7 h8 h9 hhl
  have HH1 := hide ((unhide HH0).later hbx)
  have HA1 := hide ((unhide HA0).later hbx)
  have HB1 := hide (bel3 (unhide HB0) (Below.refl _ _) hbx)
  have y0 := hbx.size
  clear hbx HH0 HA0 HB0 hbA hbB
  have z1 : w.heap.size + 1 < wB.heap.size := by omega
  have hres : w.heap.size ≤ w.heap.size + 1 := by omega
  go_wp2_with fail
  refine (unhide CR _ (unhide HB1)).mono ?_
  rintro e w1 ⟨rfl, F1, own1, lk1, kp1⟩
  have HS1 := hide own1
  have HH2 := hide (kp1.held (unhide HH1) ((unhide H).out (Nat.le_refl _)))
  have HA2 := hide (kp1.held (unhide HA1) ((unhide H).out (Nat.le_succ _)))
  have HO := hide (fun k (hk : k < wB.heap.size) (hw : w.heap.size ≤ k) (hm : k ∈ F1) => (lk1 k hm).elim (fun q => (unhide H).out hw q) (fun q => absurd hk (by omega)))
  have y1 := kp1.size
  have HW : Hid (∀ W, Below w1.heap.size w1 W → ∀ w' z, SStep B W w' s F1 z → SStep B wB w' s F z) := hide (fun W hW w' z hs => by
    obtain ⟨F3, e1, e2⟩ := SStep.behind hW hs
    exact ⟨F3, e1, SLink.trans ⟨lk1, kp1⟩ e2⟩)
  have CS := hide (fun W (hW : Below w1.heap.size w1 W) => sspend_yes (ke := h.ke) (kg := h.kg) (now := now) (x := { x with L := x.L ++ [(0, x.k)], k := x.k + 1 }) W ((unhide HS1).later hW) he)
  change Hid (∀ W, Below w1.heap.size w1 W → Calls _ _ _ _ fun e w' => _ ∧ SStep B W w' s F1 { { x with L := x.L ++ [(0, x.k)], k := x.k + 1 } with N := SpentM.spend x.N h.kn h.ku now, K := SpentM.spend x.N h.kn h.ku now }) at CS
  rw [SpentM.spend_ok he] at CS
  clear own1 lk1 kp1 CR HH1 HA1
  go_upto_region 11 with fail
  have HC3 : Hid (Held (w1.alloc (.cells #[.int .i64 0, .int .i64 x.k] 78)) w1.heap.size [.int .i64 0, .int .i64 x.k]) := hide (Held.fresh (w := w1) [.int .i64 0, .int .i64 x.k] 78 rfl)
  have HH3 : Hid (Held (w1.alloc (.cells #[.int .i64 0, .int .i64 x.k] 78)) w.heap.size (nh h.a h.te h.ta h.tt h.tg h.ke h.kn h.ku h.kg h.s)) := hide ((unhide HH2).alloc _)
  have HA3 : Hid (Held (w1.alloc (.cells #[.int .i64 0, .int .i64 x.k] 78)) (w.heap.size + 1) (na 0 0 0 0 0 0 false)) := hide ((unhide HA2).alloc _)
  have HB3 : Hid (Below w1.heap.size w1 (w1.alloc (.cells #[.int .i64 0, .int .i64 x.k] 78))) := hide (below_alloc (Below.refl _ _) _)
  have HF3 : Hid (w1.heap.size ∉ (w.heap.size + 1) :: F1) := hide (fun hm => by
    rcases List.mem_cons.1 hm with e | e
    · omega
    · exact (unhide HS1).out (Nat.le_refl _) e)
  have HG3 : Hid (w.heap.size ∉ (w.heap.size + 1) :: F1) := hide (fun hm => by
    rcases List.mem_cons.1 hm with e | e
    · omega
    · exact unhide HO _ (by omega) (Nat.le_refl _) e)
  have HJ3 : Hid ((w.heap.size + 1) ∉ F1) := hide (fun hm => unhide HO _ z1 (Nat.le_succ _) hm)
  clear HH2 HA2 HO
  generalize (w1.alloc (.cells #[.int .i64 0, .int .i64 x.k] 78)) = w2 at HC3 HH3 HA3 HB3 ⊢
  generalize w1.heap.size = cb at HC3 HF3 ⊢
  obtain ⟨d0, d1⟩ := (unhide HC3).c2.1
  have dl := (unhide HC3).2
  obtain ⟨-, -, -, -, -, h5, h6, h7, h8, -⟩ := (unhide HH3).c10.1
  have hhl := (unhide HH3).2
  obtain ⟨⟨u0, u1, u2, u3, u4, u5, u6, u7⟩, ⟨v0, v1, v2, v3, v4, v5, v6, v7⟩⟩ := (unhide HA3).c8
  have ul := (unhide HA3).2
  have RS : Hid (∀ W : World, Kept ((w.heap.size + 1) :: F1) w2 W → Hid (Kept ((w.heap.size + 1) :: F1) w2 W) ∧ W.cell? ⟨cb, 0, none⟩ = some (.int .i64 0) ∧ W.cell? ⟨cb, 1, none⟩ = some (.int .i64 x.k) ∧ W.cell? ⟨w.heap.size, 5, none⟩ = some (.int .i64 h.ke) ∧ W.cell? ⟨w.heap.size, 6, none⟩ = some (.int .i64 h.kn) ∧ W.cell? ⟨w.heap.size, 7, none⟩ = some (.int .i64 h.ku) ∧ W.cell? ⟨w.heap.size, 8, none⟩ = some (.int .i64 h.kg)) := hide (fun W hk => by
    obtain ⟨e0, e1⟩ := (hk.held (unhide HC3) (unhide HF3)).c2.1
    obtain ⟨-, -, -, -, -, g5, g6, g7, g8, -⟩ := (hk.held (unhide HH3) (unhide HG3)).c10.1
    exact ⟨hide hk, e0, e1, g5, g6, g7, g8⟩)
  go_region_held3 (fun w' => Hid (Kept ((w.heap.size + 1) :: F1) w2 w') ∧ w'.cell? ⟨cb, 0, none⟩ = some (.int .i64 0) ∧ w'.cell? ⟨cb, 1, none⟩ = some (.int .i64 x.k) ∧ w'.cell? ⟨w.heap.size, 5, none⟩ = some (.int .i64 h.ke) ∧ w'.cell? ⟨w.heap.size, 6, none⟩ = some (.int .i64 h.kn) ∧ w'.cell? ⟨w.heap.size, 7, none⟩ = some (.int .i64 h.ku) ∧ w'.cell? ⟨w.heap.size, 8, none⟩ = some (.int .i64 h.kg))
    (first | with_reducible assumption | exact unhide RS _ (Kept.setCell (F := ((w.heap.size + 1) :: F1)) (p := ⟨w.heap.size + 1, 7, none⟩) (Kept.setCell (F := ((w.heap.size + 1) :: F1)) (p := ⟨w.heap.size + 1, 6, none⟩) (Kept.setCell (F := ((w.heap.size + 1) :: F1)) (p := ⟨w.heap.size + 1, 5, none⟩) (Kept.setCell (F := ((w.heap.size + 1) :: F1)) (p := ⟨w.heap.size + 1, 4, none⟩) (Kept.setCell (F := ((w.heap.size + 1) :: F1)) (p := ⟨w.heap.size + 1, 3, none⟩) (Kept.setCell (F := ((w.heap.size + 1) :: F1)) (p := ⟨w.heap.size + 1, 2, none⟩) (Kept.setCell (F := ((w.heap.size + 1) :: F1)) (p := ⟨w.heap.size + 1, 1, none⟩) (Kept.setCell (F := ((w.heap.size + 1) :: F1)) (p := ⟨w.heap.size + 1, 0, none⟩) (unhide (And.left hS3)) (.inl (List.mem_cons_self ..)) (.int .i64 1)) (.inl (List.mem_cons_self ..)) (.int .i64 0)) (.inl (List.mem_cons_self ..)) (.int .i64 0)) (.inl (List.mem_cons_self ..)) (.int .i64 0)) (.inl (List.mem_cons_self ..)) (.int .i64 0)) (.inl (List.mem_cons_self ..)) (.int .i64 0)) (.inl (List.mem_cons_self ..)) (.int .i64 x.k)) (.inl (List.mem_cons_self ..)) (.bool true)) | exact unhide RS _ (Kept.refl _ _).drew)
    (first | (go_at_call 85; refine (unhide CS _ (by first | exact unhide HB3 | exact below_drew (unhide HB3))).mono ?_; rintro e w3 ⟨rfl, hs⟩; have hk0 := hs.keep; have hk' : Kept ((w.heap.size + 1) :: F1) _ w3 := hk0.mono (fun k hk => .inl (List.mem_cons_of_mem _ hk)); have hS3 := unhide RS w3 (Kept.trans (unhide (And.left ‹Hid (Kept ((w.heap.size + 1) :: F1) w2 _) ∧ _›)) hk'); have HA4 := hide (hk0.held (by first | exact unhide HA3 | exact (unhide HA3).drew) (unhide HJ3)); have hss := unhide HW _ (by first | exact unhide HB3 | exact below_drew (unhide HB3)) _ _ hs; have hac := (unhide HA4).c8; have hal := (unhide HA4).2; obtain ⟨⟨x0, x1, x2, x3, x4, x5, x6, x7⟩, ⟨xf0, xf1, xf2, xf3, xf4, xf5, xf6, xf7⟩⟩ := hac))
  have HSS := hide hss
  clear hss hs hk0 hk' hS3 x0 x1 x2 x3 x4 x5 x6 x7 xf0 xf1 xf2 xf3 xf4 xf5 xf6 xf7 hal RS d0 d1 dl h5 h6 h7 h8 hhl u0 u1 u2 u3 u4 u5 u6 u7 v0 v1 v2 v3 v4 v5 v6 v7 ul
  go_wp2
  have HAF : Hid (Held ((((((((w3.setCell ⟨w.heap.size + 1, 0, none⟩ (.int .i64 1)).setCell ⟨w.heap.size + 1, 1, none⟩ (.int .i64 0)).setCell ⟨w.heap.size + 1, 2, none⟩ (.int .i64 0)).setCell ⟨w.heap.size + 1, 3, none⟩ (.int .i64 0)).setCell ⟨w.heap.size + 1, 4, none⟩ (.int .i64 0)).setCell ⟨w.heap.size + 1, 5, none⟩ (.int .i64 0)).setCell ⟨w.heap.size + 1, 6, none⟩ (.int .i64 x.k)).setCell ⟨w.heap.size + 1, 7, none⟩ (.bool true)) (w.heap.size + 1) (na 1 0 0 0 0 x.k true)) := hide (((((((((unhide HA4).put 0 (.int .i64 1)).put 1 (.int .i64 0)).put 2 (.int .i64 0)).put 3 (.int .i64 0)).put 4 (.int .i64 0)).put 5 (.int .i64 0)).put 6 (.int .i64 x.k)).put 7 (.bool true))
  have HSF : Hid (SStep B w ((((((((w3.setCell ⟨w.heap.size + 1, 0, none⟩ (.int .i64 1)).setCell ⟨w.heap.size + 1, 1, none⟩ (.int .i64 0)).setCell ⟨w.heap.size + 1, 2, none⟩ (.int .i64 0)).setCell ⟨w.heap.size + 1, 3, none⟩ (.int .i64 0)).setCell ⟨w.heap.size + 1, 4, none⟩ (.int .i64 0)).setCell ⟨w.heap.size + 1, 5, none⟩ (.int .i64 0)).setCell ⟨w.heap.size + 1, 6, none⟩ (.int .i64 x.k)).setCell ⟨w.heap.size + 1, 7, none⟩ (.bool true)) s F ({ x with L := x.L ++ [(0, x.k)], k := x.k + 1, N := SpentM.left x.N now ++ [(h.kn, h.ku)], K := SpentM.left x.N now ++ [(h.kn, h.ku)] })) := hide ((unhide HSS).far (unhide HB1) (unhide H) (Nat.le_succ _) z1 (Kept.setCell (p := ⟨w.heap.size + 1, 7, none⟩) (Kept.setCell (p := ⟨w.heap.size + 1, 6, none⟩) (Kept.setCell (p := ⟨w.heap.size + 1, 5, none⟩) (Kept.setCell (p := ⟨w.heap.size + 1, 4, none⟩) (Kept.setCell (p := ⟨w.heap.size + 1, 3, none⟩) (Kept.setCell (p := ⟨w.heap.size + 1, 2, none⟩) (Kept.setCell (p := ⟨w.heap.size + 1, 1, none⟩) (Kept.setCell (p := ⟨w.heap.size + 1, 0, none⟩) (Kept.refl [w.heap.size + 1] w3) (.inl (List.mem_singleton.2 rfl)) (.int .i64 1)) (.inl (List.mem_singleton.2 rfl)) (.int .i64 0)) (.inl (List.mem_singleton.2 rfl)) (.int .i64 0)) (.inl (List.mem_singleton.2 rfl)) (.int .i64 0)) (.inl (List.mem_singleton.2 rfl)) (.int .i64 0)) (.inl (List.mem_singleton.2 rfl)) (.int .i64 0)) (.inl (List.mem_singleton.2 rfl)) (.int .i64 x.k)) (.inl (List.mem_singleton.2 rfl)) (.bool true)))
  generalize ((((((((w3.setCell ⟨w.heap.size + 1, 0, none⟩ (.int .i64 1)).setCell ⟨w.heap.size + 1, 1, none⟩ (.int .i64 0)).setCell ⟨w.heap.size + 1, 2, none⟩ (.int .i64 0)).setCell ⟨w.heap.size + 1, 3, none⟩ (.int .i64 0)).setCell ⟨w.heap.size + 1, 4, none⟩ (.int .i64 0)).setCell ⟨w.heap.size + 1, 5, none⟩ (.int .i64 0)).setCell ⟨w.heap.size + 1, 6, none⟩ (.int .i64 x.k)).setCell ⟨w.heap.size + 1, 7, none⟩ (.bool true)) = wf at HAF HSF ⊢
  obtain ⟨u0, u1, u2, u3, u4, u5, u6, u7⟩ := (unhide HAF).c8.1
  exact bodyPost_ret (v := .tuple #[.agg #[.int .i64 1, .int .i64 0, .int .i64 0, .int .i64 0, .int .i64 0, .int .i64 0, .int .i64 x.k, .bool true], .nilIface]) (by simp [results, Tryz.results59, go_sem, u0, u1, u2, u3, u4, u5, u6, u7]) rfl ⟨rfl, unhide HSF⟩

/-- A hello, every way. -/
theorem shello_any {B s : Nat} {F : List Nat} {x : ServM.St} (h : ServM.Hi) (now : Int) (w : World) (g : ServM.Good x) (h0 : SOwn B w s F x) :
    Calls Tryz.prog 59 #[.pointer (some ⟨s, 0, none⟩), .agg #[.int .i64 h.a, .int .i64 h.te, .int .i64 h.ta, .int .i64 h.tt, .int .i64 h.tg, .int .i64 h.ke, .int .i64 h.kn, .int .i64 h.ku, .int .i64 h.kg, .string h.s], .int .i64 now] w fun e w' => e = .returned (.tuple #[.agg #[.int .i64 (ServM.aKind x h now), .int .i64 (ServM.aEp x h now), .int .i64 (ServM.aAd x h now), .int .i64 (ServM.aTi x h now), .int .i64 (ServM.aTg x h now), .int .i64 0, .int .i64 (ServM.aCo x h now), .bool (ServM.soon x h now)], errV (ServM.err x h now)]) ∧ SStep B w w' s F (ServM.next x h now) := by
  have C : Hid (∀ W : World, Calls Tryz.prog 82 #[.agg #[.int .i64 x.ep, .int .i64 x.key, .int .i64 x.old], .agg #[.int .i64 h.a, .int .i64 h.te, .int .i64 h.ta, .int .i64 h.tt, .int .i64 h.tg, .int .i64 h.ke, .int .i64 h.kn, .int .i64 h.ku, .int .i64 h.kg, .string h.s], .int .i64 x.L.length, .int .i64 now, .int .i64 x.life] W fun e w' => e = .returned (.tuple #[.int .i64 (ServM.kind x h now), .bool (ServM.may x h now), errV (ServM.ask x h now)]) ∧ Below W.heap.size W w') := hide (fun W => jans_any x.ep x.key x.old h.a h.te h.ta h.tt h.tg h.ke h.kn h.ku h.kg h.s x.L.length now x.life W)
  by_cases q : ServM.ask x h now = 0
  · have hK := (RingM.err_zero.1 g.ring).2.1
    obtain ⟨qr, qa, qt, _, _⟩ := JudgeM.ans_zero.1 q
    rw [q, errV_zero rfl] at C
    rcases ServM.kind_ways x h now with hk | hk | hk
    · obtain ⟨e1, e2, e3, e4, e5, e6, e7, e8, e9⟩ := ServM.w_retry q hk
      rw [e1, e2, e3, e4, e5, e6, e7, e8, e9, errV_zero rfl]
      rw [hk] at C
      exact shello_retry w h0 g.len (TokenM.make_zero.2 ⟨qr, qa, qt⟩) C
    · rw [hk] at C
      by_cases hf : x.k < 4096
      · have hl := ServM.in_len hk
        by_cases hm : ServM.may x h now = true
        · rw [hm] at C
          by_cases hs : SpentM.spendErr x.N h.kn h.ku now = 0
          · obtain ⟨e1, e2, e3, e4, e5, e6, e7, e8, e9⟩ := ServM.w_in2 q hk hf hm hs
            rw [e1, e2, e3, e4, e5, e6, e7, e8, e9, errV_zero rfl]
            exact shello_in2 w h0 g.len g hf hl hs C
          · obtain ⟨e1, e2, e3, e4, e5, e6, e7, e8, e9⟩ := ServM.w_in1 q hk hf hs
            rw [e1, e2, e3, e4, e5, e6, e7, e8, e9, errV_zero rfl]
            exact shello_in1 w h0 g.len g hf hl hs C
        · have hm' : ServM.may x h now = false := by simpa using hm
          rw [hm'] at C
          obtain ⟨e1, e2, e3, e4, e5, e6, e7, e8, e9⟩ := ServM.w_in0 q hk hf hm'
          rw [e1, e2, e3, e4, e5, e6, e7, e8, e9, errV_zero rfl]
          exact shello_in0 w h0 g.len g hf hl C
      · have hk4 : x.k = 4096 := by have := g.k1; omega
        obtain ⟨e1, e2, e3, e4, e5, e6, e7, e8, e9⟩ := ServM.w_full q hk (by omega)
        rw [e1, e2, e3, e4, e5, e6, e7, e8, e9, errV_pos (by omega)]
        exact shello_full w h0 g.len hk4 C
    · obtain ⟨e1, e2, e3, e4, e5, e6, e7, e8, e9⟩ := ServM.w_busy q hk
      rw [e1, e2, e3, e4, e5, e6, e7, e8, e9, errV_zero rfl]
      rw [hk] at C
      exact shello_busy w h0 g.len C
  · obtain ⟨e1, e2, e3, e4, e5, e6, e7, e8, e9⟩ := ServM.w_err q
    rw [e1, e2, e3, e4, e5, e6, e7, e8, e9]
    rw [errV_pos q] at C ⊢
    exact shello_err w h0 g.len C
end Go.Proofs.YthaicpepgianpakGreatDoor
