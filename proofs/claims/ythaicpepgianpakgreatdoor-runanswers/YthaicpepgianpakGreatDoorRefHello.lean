/-
  What the reference's server tells of a ticket and of a hello, and what it is behind them.
-/
import Derived.Test.YthaicpepgianpakGreatDoorRefServer
namespace Go.Proofs.YthaicpepgianpakGreatDoor
open Go.RowKit
set_option linter.unusedVariables false


set_option maxHeartbeats 3200000 in
set_option maxRecDepth 8000 in
theorem rhello_err {B m : Nat} {o : Option Nat} {R : List Nat} {x : ServM.St} {h : ServM.Hi} {now : Int} {k E : Int} {b : Bool} (w : World) (h0 : MAt B w m o R x) (hE : ¬ E = 0) (C : Hid (∀ W : World, Calls Tryz.prog 70 #[.agg #[.int .i64 x.ep, .int .i64 x.key, .int .i64 x.old], .agg #[.int .i64 h.a, .int .i64 h.te, .int .i64 h.ta, .int .i64 h.tt, .int .i64 h.tg, .int .i64 h.ke, .int .i64 h.kn, .int .i64 h.ku, .int .i64 h.kg, .string h.s], .int .i64 x.L.length, .int .i64 now, .int .i64 x.life] W fun e w' => e = .returned (.tuple #[.int .i64 k, .bool b, .int .i64 E]) ∧ Below W.heap.size W w')) :
    Calls Tryz.prog 43 #[.pointer (some ⟨m, 0, none⟩), .agg #[.int .i64 h.a, .int .i64 h.te, .int .i64 h.ta, .int .i64 h.tt, .int .i64 h.tg, .int .i64 h.ke, .int .i64 h.kn, .int .i64 h.ku, .int .i64 h.kg, .string h.s], .int .i64 now] w fun e w' => e = .returned (.tuple #[.agg #[.int .i64 0, .int .i64 0, .int .i64 0, .int .i64 0, .int .i64 0, .int .i64 0, .int .i64 0, .bool false], .int .i64 E]) ∧ MStep B w w' m o R x := by
  have hE' := beq_no hE
  have hl := h0.lt
  have H := hide h0
  clear h0
  go_enter Tryz.func43, Tryz.ntmps43
  go_upto_region 1 with fail
  have HM0 : Hid (MAt B ((w.alloc (.cells #[.int .i64 h.a, .int .i64 h.te, .int .i64 h.ta, .int .i64 h.tt, .int .i64 h.tg, .int .i64 h.ke, .int .i64 h.kn, .int .i64 h.ku, .int .i64 h.kg, .string h.s] 73)).alloc (.cells #[.int .i64 0, .int .i64 0, .int .i64 0, .int .i64 0, .int .i64 0, .int .i64 0, .int .i64 0, .bool false] 104)) m o R x) := hide ((unhide H).later (by (repeat' (first | exact Below.refl _ _ | refine Below.alloc ?_ ?_ _ | refine Below.setCell ?_ ?_ _ | refine Below.drew ?_)); all_goals (first | exact Nat.le_refl _ | omega | (simp; done) | (simp; omega))))
  have HH0 : Hid (Held ((w.alloc (.cells #[.int .i64 h.a, .int .i64 h.te, .int .i64 h.ta, .int .i64 h.tt, .int .i64 h.tg, .int .i64 h.ke, .int .i64 h.kn, .int .i64 h.ku, .int .i64 h.kg, .string h.s] 73)).alloc (.cells #[.int .i64 0, .int .i64 0, .int .i64 0, .int .i64 0, .int .i64 0, .int .i64 0, .int .i64 0, .bool false] 104)) w.heap.size (nh h.a h.te h.ta h.tt h.tg h.ke h.kn h.ku h.kg h.s)) := hide ((Held.fresh (w := w) (nh h.a h.te h.ta h.tt h.tg h.ke h.kn h.ku h.kg h.s) 73 rfl).later (Below.alloc (Below.refl _ _) (Nat.le_refl _) _))
  have HA0 : Hid (Held ((w.alloc (.cells #[.int .i64 h.a, .int .i64 h.te, .int .i64 h.ta, .int .i64 h.tt, .int .i64 h.tg, .int .i64 h.ke, .int .i64 h.kn, .int .i64 h.ku, .int .i64 h.kg, .string h.s] 73)).alloc (.cells #[.int .i64 0, .int .i64 0, .int .i64 0, .int .i64 0, .int .i64 0, .int .i64 0, .int .i64 0, .bool false] 104)) (w.heap.size + 1) (na 0 0 0 0 0 0 false)) := hide (Held.fresh (w := w.alloc (.cells #[.int .i64 h.a, .int .i64 h.te, .int .i64 h.ta, .int .i64 h.tt, .int .i64 h.tg, .int .i64 h.ke, .int .i64 h.kn, .int .i64 h.ku, .int .i64 h.kg, .string h.s] 73)) (na 0 0 0 0 0 0 false) 104 (by simp))
  have HB0 : Hid (Below w.heap.size w ((w.alloc (.cells #[.int .i64 h.a, .int .i64 h.te, .int .i64 h.ta, .int .i64 h.tt, .int .i64 h.tg, .int .i64 h.ke, .int .i64 h.kn, .int .i64 h.ku, .int .i64 h.kg, .string h.s] 73)).alloc (.cells #[.int .i64 0, .int .i64 0, .int .i64 0, .int .i64 0, .int .i64 0, .int .i64 0, .int .i64 0, .bool false] 104))) := hide (by (repeat' (first | exact Below.refl _ _ | refine Below.alloc ?_ ?_ _ | refine Below.setCell ?_ ?_ _ | refine Below.drew ?_)); all_goals (first | exact Nat.le_refl _ | omega | (simp; done) | (simp; omega)))
  generalize ((w.alloc (.cells #[.int .i64 h.a, .int .i64 h.te, .int .i64 h.ta, .int .i64 h.tt, .int .i64 h.tg, .int .i64 h.ke, .int .i64 h.kn, .int .i64 h.ku, .int .i64 h.kg, .string h.s] 73)).alloc (.cells #[.int .i64 0, .int .i64 0, .int .i64 0, .int .i64 0, .int .i64 0, .int .i64 0, .int .i64 0, .bool false] 104)) = w0 at HM0 HH0 HA0 HB0 ⊢
  obtain ⟨q0, q1, q2, q3, q9, qf, ql⟩ := (unhide HM0).nums
  obtain ⟨wa, wc, q4, -⟩ := (unhide HM0).wait
  obtain ⟨h0, h1, h2, h3, h4, h5, h6, h7, h8, h9⟩ := (unhide HH0).c10.1
  have hhl := (unhide HH0).2
  generalize x.L.length = ln at q4 C
  have RS : Hid (∀ W : World, Below w0.heap.size w0 W → Hid (Below w0.heap.size w0 W) ∧ W.cell? ⟨m, 0, none⟩ = some (.int .i64 x.ep) ∧ W.cell? ⟨m, 1, none⟩ = some (.int .i64 x.key) ∧ W.cell? ⟨m, 2, none⟩ = some (.int .i64 x.old) ∧ W.cell? ⟨m, 3, none⟩ = some (.int .i64 x.life) ∧ W.cell? ⟨m, 4, none⟩ = some (.slice wa ln wc) ∧ W.cell? ⟨w.heap.size, 0, none⟩ = some (.int .i64 h.a) ∧ W.cell? ⟨w.heap.size, 1, none⟩ = some (.int .i64 h.te) ∧ W.cell? ⟨w.heap.size, 2, none⟩ = some (.int .i64 h.ta) ∧ W.cell? ⟨w.heap.size, 3, none⟩ = some (.int .i64 h.tt) ∧ W.cell? ⟨w.heap.size, 4, none⟩ = some (.int .i64 h.tg) ∧ W.cell? ⟨w.heap.size, 5, none⟩ = some (.int .i64 h.ke) ∧ W.cell? ⟨w.heap.size, 6, none⟩ = some (.int .i64 h.kn) ∧ W.cell? ⟨w.heap.size, 7, none⟩ = some (.int .i64 h.ku) ∧ W.cell? ⟨w.heap.size, 8, none⟩ = some (.int .i64 h.kg) ∧ W.cell? ⟨w.heap.size, 9, none⟩ = some (.string h.s)) := hide (fun W hW => ⟨hide hW, cell_later hW q0, cell_later hW q1, cell_later hW q2, cell_later hW q3, cell_later hW q4, cell_later hW h0, cell_later hW h1, cell_later hW h2, cell_later hW h3, cell_later hW h4, cell_later hW h5, cell_later hW h6, cell_later hW h7, cell_later hW h8, cell_later hW h9⟩)
  go_region_held3 (fun w' => Hid (Below w0.heap.size w0 w') ∧ w'.cell? ⟨m, 0, none⟩ = some (.int .i64 x.ep) ∧ w'.cell? ⟨m, 1, none⟩ = some (.int .i64 x.key) ∧ w'.cell? ⟨m, 2, none⟩ = some (.int .i64 x.old) ∧ w'.cell? ⟨m, 3, none⟩ = some (.int .i64 x.life) ∧ w'.cell? ⟨m, 4, none⟩ = some (.slice wa ln wc) ∧ w'.cell? ⟨w.heap.size, 0, none⟩ = some (.int .i64 h.a) ∧ w'.cell? ⟨w.heap.size, 1, none⟩ = some (.int .i64 h.te) ∧ w'.cell? ⟨w.heap.size, 2, none⟩ = some (.int .i64 h.ta) ∧ w'.cell? ⟨w.heap.size, 3, none⟩ = some (.int .i64 h.tt) ∧ w'.cell? ⟨w.heap.size, 4, none⟩ = some (.int .i64 h.tg) ∧ w'.cell? ⟨w.heap.size, 5, none⟩ = some (.int .i64 h.ke) ∧ w'.cell? ⟨w.heap.size, 6, none⟩ = some (.int .i64 h.kn) ∧ w'.cell? ⟨w.heap.size, 7, none⟩ = some (.int .i64 h.ku) ∧ w'.cell? ⟨w.heap.size, 8, none⟩ = some (.int .i64 h.kg) ∧ w'.cell? ⟨w.heap.size, 9, none⟩ = some (.string h.s)) (first | exact unhide RS _ (Below.trans (unhide (And.left ‹Hid (Below w0.heap.size w0 _) ∧ _›)) (hbA.mono (unhide (And.left ‹Hid (Below w0.heap.size w0 _) ∧ _›)).size)) | exact unhide RS _ (Below.refl _ _).drew | exact unhide RS _ (unhide (And.left ‹Hid (Below w0.heap.size w0 _) ∧ _›)).drew)
    (first | (go_at_call 70; refine (unhide C _).mono ?_; rintro e wA ⟨rfl, hbA⟩))
  have hbx := unhide (And.left ‹Hid (Below w0.heap.size w0 _) ∧ _›)
  clear RS q0 q1 q2 q3 q4 q9 qf ql h0 h1 h2 h3 h4 h5 h6 h7 h8 h9 hhl
  have HM1 := hide ((unhide HM0).later hbx)
  have HH1 := hide ((unhide HH0).later hbx)
  have HA1 := hide ((unhide HA0).later hbx)
  have HB1 := hide (bel3 (unhide HB0) (Below.refl _ _) hbx)
  clear hbx HM0 HH0 HA0 HB0
  obtain ⟨⟨u0, u1, u2, u3, u4, u5, u6, u7⟩, ⟨v0, v1, v2, v3, v4, v5, v6, v7⟩⟩ := (unhide HA1).c8
  have ul := (unhide HA1).2
  go_wp2
  have hres : w.heap.size ≤ w.heap.size + 1 := by omega
  have HAF : Hid (Held ((((((((wA.setCell ⟨w.heap.size + 1, 0, none⟩ (.int .i64 0)).setCell ⟨w.heap.size + 1, 1, none⟩ (.int .i64 0)).setCell ⟨w.heap.size + 1, 2, none⟩ (.int .i64 0)).setCell ⟨w.heap.size + 1, 3, none⟩ (.int .i64 0)).setCell ⟨w.heap.size + 1, 4, none⟩ (.int .i64 0)).setCell ⟨w.heap.size + 1, 5, none⟩ (.int .i64 0)).setCell ⟨w.heap.size + 1, 6, none⟩ (.int .i64 0)).setCell ⟨w.heap.size + 1, 7, none⟩ (.bool false)) (w.heap.size + 1) (na 0 0 0 0 0 0 false)) := hide (((((((((unhide HA1).put 0 (.int .i64 0)).put 1 (.int .i64 0)).put 2 (.int .i64 0)).put 3 (.int .i64 0)).put 4 (.int .i64 0)).put 5 (.int .i64 0)).put 6 (.int .i64 0)).put 7 (.bool false))
  have HSF : Hid (MStep B w ((((((((wA.setCell ⟨w.heap.size + 1, 0, none⟩ (.int .i64 0)).setCell ⟨w.heap.size + 1, 1, none⟩ (.int .i64 0)).setCell ⟨w.heap.size + 1, 2, none⟩ (.int .i64 0)).setCell ⟨w.heap.size + 1, 3, none⟩ (.int .i64 0)).setCell ⟨w.heap.size + 1, 4, none⟩ (.int .i64 0)).setCell ⟨w.heap.size + 1, 5, none⟩ (.int .i64 0)).setCell ⟨w.heap.size + 1, 6, none⟩ (.int .i64 0)).setCell ⟨w.heap.size + 1, 7, none⟩ (.bool false)) m o R x) := hide (MStep.same (unhide H) (below_set (below_set (below_set (below_set (below_set (below_set (below_set (below_set (unhide HB1) hres 0 (.int .i64 0)) hres 1 (.int .i64 0)) hres 2 (.int .i64 0)) hres 3 (.int .i64 0)) hres 4 (.int .i64 0)) hres 5 (.int .i64 0)) hres 6 (.int .i64 0)) hres 7 (.bool false)))
  generalize ((((((((wA.setCell ⟨w.heap.size + 1, 0, none⟩ (.int .i64 0)).setCell ⟨w.heap.size + 1, 1, none⟩ (.int .i64 0)).setCell ⟨w.heap.size + 1, 2, none⟩ (.int .i64 0)).setCell ⟨w.heap.size + 1, 3, none⟩ (.int .i64 0)).setCell ⟨w.heap.size + 1, 4, none⟩ (.int .i64 0)).setCell ⟨w.heap.size + 1, 5, none⟩ (.int .i64 0)).setCell ⟨w.heap.size + 1, 6, none⟩ (.int .i64 0)).setCell ⟨w.heap.size + 1, 7, none⟩ (.bool false)) = wf at HAF HSF ⊢
  obtain ⟨u0, u1, u2, u3, u4, u5, u6, u7⟩ := (unhide HAF).c8.1
  exact bodyPost_ret (v := .tuple #[.agg #[.int .i64 0, .int .i64 0, .int .i64 0, .int .i64 0, .int .i64 0, .int .i64 0, .int .i64 0, .bool false], .int .i64 E]) (by simp [results, Tryz.results43, go_sem, u0, u1, u2, u3, u4, u5, u6, u7]) rfl ⟨rfl, unhide HSF⟩

set_option maxHeartbeats 3200000 in
set_option maxRecDepth 8000 in
theorem rhello_busy {B m : Nat} {o : Option Nat} {R : List Nat} {x : ServM.St} {h : ServM.Hi} {now : Int} {b : Bool} (w : World) (h0 : MAt B w m o R x) (C : Hid (∀ W : World, Calls Tryz.prog 70 #[.agg #[.int .i64 x.ep, .int .i64 x.key, .int .i64 x.old], .agg #[.int .i64 h.a, .int .i64 h.te, .int .i64 h.ta, .int .i64 h.tt, .int .i64 h.tg, .int .i64 h.ke, .int .i64 h.kn, .int .i64 h.ku, .int .i64 h.kg, .string h.s], .int .i64 x.L.length, .int .i64 now, .int .i64 x.life] W fun e w' => e = .returned (.tuple #[.int .i64 2, .bool b, .int .i64 0]) ∧ Below W.heap.size W w')) :
    Calls Tryz.prog 43 #[.pointer (some ⟨m, 0, none⟩), .agg #[.int .i64 h.a, .int .i64 h.te, .int .i64 h.ta, .int .i64 h.tt, .int .i64 h.tg, .int .i64 h.ke, .int .i64 h.kn, .int .i64 h.ku, .int .i64 h.kg, .string h.s], .int .i64 now] w fun e w' => e = .returned (.tuple #[.agg #[.int .i64 2, .int .i64 0, .int .i64 0, .int .i64 0, .int .i64 0, .int .i64 0, .int .i64 0, .bool false], .int .i64 0]) ∧ MStep B w w' m o R x := by
  have hl := h0.lt
  have H := hide h0
  clear h0
  go_enter Tryz.func43, Tryz.ntmps43
  go_upto_region 1 with fail
  have HM0 : Hid (MAt B ((w.alloc (.cells #[.int .i64 h.a, .int .i64 h.te, .int .i64 h.ta, .int .i64 h.tt, .int .i64 h.tg, .int .i64 h.ke, .int .i64 h.kn, .int .i64 h.ku, .int .i64 h.kg, .string h.s] 73)).alloc (.cells #[.int .i64 0, .int .i64 0, .int .i64 0, .int .i64 0, .int .i64 0, .int .i64 0, .int .i64 0, .bool false] 104)) m o R x) := hide ((unhide H).later (by (repeat' (first | exact Below.refl _ _ | refine Below.alloc ?_ ?_ _ | refine Below.setCell ?_ ?_ _ | refine Below.drew ?_)); all_goals (first | exact Nat.le_refl _ | omega | (simp; done) | (simp; omega))))
  have HH0 : Hid (Held ((w.alloc (.cells #[.int .i64 h.a, .int .i64 h.te, .int .i64 h.ta, .int .i64 h.tt, .int .i64 h.tg, .int .i64 h.ke, .int .i64 h.kn, .int .i64 h.ku, .int .i64 h.kg, .string h.s] 73)).alloc (.cells #[.int .i64 0, .int .i64 0, .int .i64 0, .int .i64 0, .int .i64 0, .int .i64 0, .int .i64 0, .bool false] 104)) w.heap.size (nh h.a h.te h.ta h.tt h.tg h.ke h.kn h.ku h.kg h.s)) := hide ((Held.fresh (w := w) (nh h.a h.te h.ta h.tt h.tg h.ke h.kn h.ku h.kg h.s) 73 rfl).later (Below.alloc (Below.refl _ _) (Nat.le_refl _) _))
  have HA0 : Hid (Held ((w.alloc (.cells #[.int .i64 h.a, .int .i64 h.te, .int .i64 h.ta, .int .i64 h.tt, .int .i64 h.tg, .int .i64 h.ke, .int .i64 h.kn, .int .i64 h.ku, .int .i64 h.kg, .string h.s] 73)).alloc (.cells #[.int .i64 0, .int .i64 0, .int .i64 0, .int .i64 0, .int .i64 0, .int .i64 0, .int .i64 0, .bool false] 104)) (w.heap.size + 1) (na 0 0 0 0 0 0 false)) := hide (Held.fresh (w := w.alloc (.cells #[.int .i64 h.a, .int .i64 h.te, .int .i64 h.ta, .int .i64 h.tt, .int .i64 h.tg, .int .i64 h.ke, .int .i64 h.kn, .int .i64 h.ku, .int .i64 h.kg, .string h.s] 73)) (na 0 0 0 0 0 0 false) 104 (by simp))
  have HB0 : Hid (Below w.heap.size w ((w.alloc (.cells #[.int .i64 h.a, .int .i64 h.te, .int .i64 h.ta, .int .i64 h.tt, .int .i64 h.tg, .int .i64 h.ke, .int .i64 h.kn, .int .i64 h.ku, .int .i64 h.kg, .string h.s] 73)).alloc (.cells #[.int .i64 0, .int .i64 0, .int .i64 0, .int .i64 0, .int .i64 0, .int .i64 0, .int .i64 0, .bool false] 104))) := hide (by (repeat' (first | exact Below.refl _ _ | refine Below.alloc ?_ ?_ _ | refine Below.setCell ?_ ?_ _ | refine Below.drew ?_)); all_goals (first | exact Nat.le_refl _ | omega | (simp; done) | (simp; omega)))
  generalize ((w.alloc (.cells #[.int .i64 h.a, .int .i64 h.te, .int .i64 h.ta, .int .i64 h.tt, .int .i64 h.tg, .int .i64 h.ke, .int .i64 h.kn, .int .i64 h.ku, .int .i64 h.kg, .string h.s] 73)).alloc (.cells #[.int .i64 0, .int .i64 0, .int .i64 0, .int .i64 0, .int .i64 0, .int .i64 0, .int .i64 0, .bool false] 104)) = w0 at HM0 HH0 HA0 HB0 ⊢
  obtain ⟨q0, q1, q2, q3, q9, qf, ql⟩ := (unhide HM0).nums
  obtain ⟨wa, wc, q4, -⟩ := (unhide HM0).wait
  obtain ⟨h0, h1, h2, h3, h4, h5, h6, h7, h8, h9⟩ := (unhide HH0).c10.1
  have hhl := (unhide HH0).2
  generalize x.L.length = ln at q4 C
  have RS : Hid (∀ W : World, Below w0.heap.size w0 W → Hid (Below w0.heap.size w0 W) ∧ W.cell? ⟨m, 0, none⟩ = some (.int .i64 x.ep) ∧ W.cell? ⟨m, 1, none⟩ = some (.int .i64 x.key) ∧ W.cell? ⟨m, 2, none⟩ = some (.int .i64 x.old) ∧ W.cell? ⟨m, 3, none⟩ = some (.int .i64 x.life) ∧ W.cell? ⟨m, 4, none⟩ = some (.slice wa ln wc) ∧ W.cell? ⟨w.heap.size, 0, none⟩ = some (.int .i64 h.a) ∧ W.cell? ⟨w.heap.size, 1, none⟩ = some (.int .i64 h.te) ∧ W.cell? ⟨w.heap.size, 2, none⟩ = some (.int .i64 h.ta) ∧ W.cell? ⟨w.heap.size, 3, none⟩ = some (.int .i64 h.tt) ∧ W.cell? ⟨w.heap.size, 4, none⟩ = some (.int .i64 h.tg) ∧ W.cell? ⟨w.heap.size, 5, none⟩ = some (.int .i64 h.ke) ∧ W.cell? ⟨w.heap.size, 6, none⟩ = some (.int .i64 h.kn) ∧ W.cell? ⟨w.heap.size, 7, none⟩ = some (.int .i64 h.ku) ∧ W.cell? ⟨w.heap.size, 8, none⟩ = some (.int .i64 h.kg) ∧ W.cell? ⟨w.heap.size, 9, none⟩ = some (.string h.s)) := hide (fun W hW => ⟨hide hW, cell_later hW q0, cell_later hW q1, cell_later hW q2, cell_later hW q3, cell_later hW q4, cell_later hW h0, cell_later hW h1, cell_later hW h2, cell_later hW h3, cell_later hW h4, cell_later hW h5, cell_later hW h6, cell_later hW h7, cell_later hW h8, cell_later hW h9⟩)
  go_region_held3 (fun w' => Hid (Below w0.heap.size w0 w') ∧ w'.cell? ⟨m, 0, none⟩ = some (.int .i64 x.ep) ∧ w'.cell? ⟨m, 1, none⟩ = some (.int .i64 x.key) ∧ w'.cell? ⟨m, 2, none⟩ = some (.int .i64 x.old) ∧ w'.cell? ⟨m, 3, none⟩ = some (.int .i64 x.life) ∧ w'.cell? ⟨m, 4, none⟩ = some (.slice wa ln wc) ∧ w'.cell? ⟨w.heap.size, 0, none⟩ = some (.int .i64 h.a) ∧ w'.cell? ⟨w.heap.size, 1, none⟩ = some (.int .i64 h.te) ∧ w'.cell? ⟨w.heap.size, 2, none⟩ = some (.int .i64 h.ta) ∧ w'.cell? ⟨w.heap.size, 3, none⟩ = some (.int .i64 h.tt) ∧ w'.cell? ⟨w.heap.size, 4, none⟩ = some (.int .i64 h.tg) ∧ w'.cell? ⟨w.heap.size, 5, none⟩ = some (.int .i64 h.ke) ∧ w'.cell? ⟨w.heap.size, 6, none⟩ = some (.int .i64 h.kn) ∧ w'.cell? ⟨w.heap.size, 7, none⟩ = some (.int .i64 h.ku) ∧ w'.cell? ⟨w.heap.size, 8, none⟩ = some (.int .i64 h.kg) ∧ w'.cell? ⟨w.heap.size, 9, none⟩ = some (.string h.s)) (first | exact unhide RS _ (Below.trans (unhide (And.left ‹Hid (Below w0.heap.size w0 _) ∧ _›)) (hbA.mono (unhide (And.left ‹Hid (Below w0.heap.size w0 _) ∧ _›)).size)) | exact unhide RS _ (Below.refl _ _).drew | exact unhide RS _ (unhide (And.left ‹Hid (Below w0.heap.size w0 _) ∧ _›)).drew)
    (first | (go_at_call 70; refine (unhide C _).mono ?_; rintro e wA ⟨rfl, hbA⟩))
  have hbx := unhide (And.left ‹Hid (Below w0.heap.size w0 _) ∧ _›)
  clear RS q0 q1 q2 q3 q4 q9 qf ql h0 h1 h2 h3 h4 h5 h6 h7 h8 h9 hhl
  have HM1 := hide ((unhide HM0).later hbx)
  have HH1 := hide ((unhide HH0).later hbx)
  have HA1 := hide ((unhide HA0).later hbx)
  have HB1 := hide (bel3 (unhide HB0) (Below.refl _ _) hbx)
  clear hbx HM0 HH0 HA0 HB0
  obtain ⟨⟨u0, u1, u2, u3, u4, u5, u6, u7⟩, ⟨v0, v1, v2, v3, v4, v5, v6, v7⟩⟩ := (unhide HA1).c8
  have ul := (unhide HA1).2
  go_wp2
  have hres : w.heap.size ≤ w.heap.size + 1 := by omega
  have HAF : Hid (Held ((((((((wA.setCell ⟨w.heap.size + 1, 0, none⟩ (.int .i64 2)).setCell ⟨w.heap.size + 1, 1, none⟩ (.int .i64 0)).setCell ⟨w.heap.size + 1, 2, none⟩ (.int .i64 0)).setCell ⟨w.heap.size + 1, 3, none⟩ (.int .i64 0)).setCell ⟨w.heap.size + 1, 4, none⟩ (.int .i64 0)).setCell ⟨w.heap.size + 1, 5, none⟩ (.int .i64 0)).setCell ⟨w.heap.size + 1, 6, none⟩ (.int .i64 0)).setCell ⟨w.heap.size + 1, 7, none⟩ (.bool false)) (w.heap.size + 1) (na 2 0 0 0 0 0 false)) := hide (((((((((unhide HA1).put 0 (.int .i64 2)).put 1 (.int .i64 0)).put 2 (.int .i64 0)).put 3 (.int .i64 0)).put 4 (.int .i64 0)).put 5 (.int .i64 0)).put 6 (.int .i64 0)).put 7 (.bool false))
  have HSF : Hid (MStep B w ((((((((wA.setCell ⟨w.heap.size + 1, 0, none⟩ (.int .i64 2)).setCell ⟨w.heap.size + 1, 1, none⟩ (.int .i64 0)).setCell ⟨w.heap.size + 1, 2, none⟩ (.int .i64 0)).setCell ⟨w.heap.size + 1, 3, none⟩ (.int .i64 0)).setCell ⟨w.heap.size + 1, 4, none⟩ (.int .i64 0)).setCell ⟨w.heap.size + 1, 5, none⟩ (.int .i64 0)).setCell ⟨w.heap.size + 1, 6, none⟩ (.int .i64 0)).setCell ⟨w.heap.size + 1, 7, none⟩ (.bool false)) m o R x) := hide (MStep.same (unhide H) (below_set (below_set (below_set (below_set (below_set (below_set (below_set (below_set (unhide HB1) hres 0 (.int .i64 2)) hres 1 (.int .i64 0)) hres 2 (.int .i64 0)) hres 3 (.int .i64 0)) hres 4 (.int .i64 0)) hres 5 (.int .i64 0)) hres 6 (.int .i64 0)) hres 7 (.bool false)))
  generalize ((((((((wA.setCell ⟨w.heap.size + 1, 0, none⟩ (.int .i64 2)).setCell ⟨w.heap.size + 1, 1, none⟩ (.int .i64 0)).setCell ⟨w.heap.size + 1, 2, none⟩ (.int .i64 0)).setCell ⟨w.heap.size + 1, 3, none⟩ (.int .i64 0)).setCell ⟨w.heap.size + 1, 4, none⟩ (.int .i64 0)).setCell ⟨w.heap.size + 1, 5, none⟩ (.int .i64 0)).setCell ⟨w.heap.size + 1, 6, none⟩ (.int .i64 0)).setCell ⟨w.heap.size + 1, 7, none⟩ (.bool false)) = wf at HAF HSF ⊢
  obtain ⟨u0, u1, u2, u3, u4, u5, u6, u7⟩ := (unhide HAF).c8.1
  exact bodyPost_ret (v := .tuple #[.agg #[.int .i64 2, .int .i64 0, .int .i64 0, .int .i64 0, .int .i64 0, .int .i64 0, .int .i64 0, .bool false], .int .i64 0]) (by simp [results, Tryz.results43, go_sem, u0, u1, u2, u3, u4, u5, u6, u7]) rfl ⟨rfl, unhide HSF⟩

set_option maxHeartbeats 3200000 in
set_option maxRecDepth 8000 in
theorem rhello_full {B m : Nat} {o : Option Nat} {R : List Nat} {x : ServM.St} {h : ServM.Hi} {now : Int} {b : Bool} (w : World) (h0 : MAt B w m o R x) (hk : 4096 ≤ x.k) (C : Hid (∀ W : World, Calls Tryz.prog 70 #[.agg #[.int .i64 x.ep, .int .i64 x.key, .int .i64 x.old], .agg #[.int .i64 h.a, .int .i64 h.te, .int .i64 h.ta, .int .i64 h.tt, .int .i64 h.tg, .int .i64 h.ke, .int .i64 h.kn, .int .i64 h.ku, .int .i64 h.kg, .string h.s], .int .i64 x.L.length, .int .i64 now, .int .i64 x.life] W fun e w' => e = .returned (.tuple #[.int .i64 1, .bool b, .int .i64 0]) ∧ Below W.heap.size W w')) :
    Calls Tryz.prog 43 #[.pointer (some ⟨m, 0, none⟩), .agg #[.int .i64 h.a, .int .i64 h.te, .int .i64 h.ta, .int .i64 h.tt, .int .i64 h.tg, .int .i64 h.ke, .int .i64 h.kn, .int .i64 h.ku, .int .i64 h.kg, .string h.s], .int .i64 now] w fun e w' => e = .returned (.tuple #[.agg #[.int .i64 0, .int .i64 0, .int .i64 0, .int .i64 0, .int .i64 0, .int .i64 0, .int .i64 0, .bool false], .int .i64 4]) ∧ MStep B w w' m o R x := by
  have hl := h0.lt
  have H := hide h0
  clear h0
  go_enter Tryz.func43, Tryz.ntmps43
  go_upto_region 1 with fail
  have HM0 : Hid (MAt B ((w.alloc (.cells #[.int .i64 h.a, .int .i64 h.te, .int .i64 h.ta, .int .i64 h.tt, .int .i64 h.tg, .int .i64 h.ke, .int .i64 h.kn, .int .i64 h.ku, .int .i64 h.kg, .string h.s] 73)).alloc (.cells #[.int .i64 0, .int .i64 0, .int .i64 0, .int .i64 0, .int .i64 0, .int .i64 0, .int .i64 0, .bool false] 104)) m o R x) := hide ((unhide H).later (by (repeat' (first | exact Below.refl _ _ | refine Below.alloc ?_ ?_ _ | refine Below.setCell ?_ ?_ _ | refine Below.drew ?_)); all_goals (first | exact Nat.le_refl _ | omega | (simp; done) | (simp; omega))))
  have HH0 : Hid (Held ((w.alloc (.cells #[.int .i64 h.a, .int .i64 h.te, .int .i64 h.ta, .int .i64 h.tt, .int .i64 h.tg, .int .i64 h.ke, .int .i64 h.kn, .int .i64 h.ku, .int .i64 h.kg, .string h.s] 73)).alloc (.cells #[.int .i64 0, .int .i64 0, .int .i64 0, .int .i64 0, .int .i64 0, .int .i64 0, .int .i64 0, .bool false] 104)) w.heap.size (nh h.a h.te h.ta h.tt h.tg h.ke h.kn h.ku h.kg h.s)) := hide ((Held.fresh (w := w) (nh h.a h.te h.ta h.tt h.tg h.ke h.kn h.ku h.kg h.s) 73 rfl).later (Below.alloc (Below.refl _ _) (Nat.le_refl _) _))
  have HA0 : Hid (Held ((w.alloc (.cells #[.int .i64 h.a, .int .i64 h.te, .int .i64 h.ta, .int .i64 h.tt, .int .i64 h.tg, .int .i64 h.ke, .int .i64 h.kn, .int .i64 h.ku, .int .i64 h.kg, .string h.s] 73)).alloc (.cells #[.int .i64 0, .int .i64 0, .int .i64 0, .int .i64 0, .int .i64 0, .int .i64 0, .int .i64 0, .bool false] 104)) (w.heap.size + 1) (na 0 0 0 0 0 0 false)) := hide (Held.fresh (w := w.alloc (.cells #[.int .i64 h.a, .int .i64 h.te, .int .i64 h.ta, .int .i64 h.tt, .int .i64 h.tg, .int .i64 h.ke, .int .i64 h.kn, .int .i64 h.ku, .int .i64 h.kg, .string h.s] 73)) (na 0 0 0 0 0 0 false) 104 (by simp))
  have HB0 : Hid (Below w.heap.size w ((w.alloc (.cells #[.int .i64 h.a, .int .i64 h.te, .int .i64 h.ta, .int .i64 h.tt, .int .i64 h.tg, .int .i64 h.ke, .int .i64 h.kn, .int .i64 h.ku, .int .i64 h.kg, .string h.s] 73)).alloc (.cells #[.int .i64 0, .int .i64 0, .int .i64 0, .int .i64 0, .int .i64 0, .int .i64 0, .int .i64 0, .bool false] 104))) := hide (by (repeat' (first | exact Below.refl _ _ | refine Below.alloc ?_ ?_ _ | refine Below.setCell ?_ ?_ _ | refine Below.drew ?_)); all_goals (first | exact Nat.le_refl _ | omega | (simp; done) | (simp; omega)))
  generalize ((w.alloc (.cells #[.int .i64 h.a, .int .i64 h.te, .int .i64 h.ta, .int .i64 h.tt, .int .i64 h.tg, .int .i64 h.ke, .int .i64 h.kn, .int .i64 h.ku, .int .i64 h.kg, .string h.s] 73)).alloc (.cells #[.int .i64 0, .int .i64 0, .int .i64 0, .int .i64 0, .int .i64 0, .int .i64 0, .int .i64 0, .bool false] 104)) = w0 at HM0 HH0 HA0 HB0 ⊢
  obtain ⟨q0, q1, q2, q3, q9, qf, ql⟩ := (unhide HM0).nums
  obtain ⟨wa, wc, q4, -⟩ := (unhide HM0).wait
  obtain ⟨h0, h1, h2, h3, h4, h5, h6, h7, h8, h9⟩ := (unhide HH0).c10.1
  have hhl := (unhide HH0).2
  generalize x.L.length = ln at q4 C
  have RS : Hid (∀ W : World, Below w0.heap.size w0 W → Hid (Below w0.heap.size w0 W) ∧ W.cell? ⟨m, 0, none⟩ = some (.int .i64 x.ep) ∧ W.cell? ⟨m, 1, none⟩ = some (.int .i64 x.key) ∧ W.cell? ⟨m, 2, none⟩ = some (.int .i64 x.old) ∧ W.cell? ⟨m, 3, none⟩ = some (.int .i64 x.life) ∧ W.cell? ⟨m, 4, none⟩ = some (.slice wa ln wc) ∧ W.cell? ⟨w.heap.size, 0, none⟩ = some (.int .i64 h.a) ∧ W.cell? ⟨w.heap.size, 1, none⟩ = some (.int .i64 h.te) ∧ W.cell? ⟨w.heap.size, 2, none⟩ = some (.int .i64 h.ta) ∧ W.cell? ⟨w.heap.size, 3, none⟩ = some (.int .i64 h.tt) ∧ W.cell? ⟨w.heap.size, 4, none⟩ = some (.int .i64 h.tg) ∧ W.cell? ⟨w.heap.size, 5, none⟩ = some (.int .i64 h.ke) ∧ W.cell? ⟨w.heap.size, 6, none⟩ = some (.int .i64 h.kn) ∧ W.cell? ⟨w.heap.size, 7, none⟩ = some (.int .i64 h.ku) ∧ W.cell? ⟨w.heap.size, 8, none⟩ = some (.int .i64 h.kg) ∧ W.cell? ⟨w.heap.size, 9, none⟩ = some (.string h.s)) := hide (fun W hW => ⟨hide hW, cell_later hW q0, cell_later hW q1, cell_later hW q2, cell_later hW q3, cell_later hW q4, cell_later hW h0, cell_later hW h1, cell_later hW h2, cell_later hW h3, cell_later hW h4, cell_later hW h5, cell_later hW h6, cell_later hW h7, cell_later hW h8, cell_later hW h9⟩)
  go_region_held3 (fun w' => Hid (Below w0.heap.size w0 w') ∧ w'.cell? ⟨m, 0, none⟩ = some (.int .i64 x.ep) ∧ w'.cell? ⟨m, 1, none⟩ = some (.int .i64 x.key) ∧ w'.cell? ⟨m, 2, none⟩ = some (.int .i64 x.old) ∧ w'.cell? ⟨m, 3, none⟩ = some (.int .i64 x.life) ∧ w'.cell? ⟨m, 4, none⟩ = some (.slice wa ln wc) ∧ w'.cell? ⟨w.heap.size, 0, none⟩ = some (.int .i64 h.a) ∧ w'.cell? ⟨w.heap.size, 1, none⟩ = some (.int .i64 h.te) ∧ w'.cell? ⟨w.heap.size, 2, none⟩ = some (.int .i64 h.ta) ∧ w'.cell? ⟨w.heap.size, 3, none⟩ = some (.int .i64 h.tt) ∧ w'.cell? ⟨w.heap.size, 4, none⟩ = some (.int .i64 h.tg) ∧ w'.cell? ⟨w.heap.size, 5, none⟩ = some (.int .i64 h.ke) ∧ w'.cell? ⟨w.heap.size, 6, none⟩ = some (.int .i64 h.kn) ∧ w'.cell? ⟨w.heap.size, 7, none⟩ = some (.int .i64 h.ku) ∧ w'.cell? ⟨w.heap.size, 8, none⟩ = some (.int .i64 h.kg) ∧ w'.cell? ⟨w.heap.size, 9, none⟩ = some (.string h.s)) (first | exact unhide RS _ (Below.trans (unhide (And.left ‹Hid (Below w0.heap.size w0 _) ∧ _›)) (hbA.mono (unhide (And.left ‹Hid (Below w0.heap.size w0 _) ∧ _›)).size)) | exact unhide RS _ (Below.refl _ _).drew | exact unhide RS _ (unhide (And.left ‹Hid (Below w0.heap.size w0 _) ∧ _›)).drew)
    (first | (go_at_call 70; refine (unhide C _).mono ?_; rintro e wA ⟨rfl, hbA⟩))
  have hbx := unhide (And.left ‹Hid (Below w0.heap.size w0 _) ∧ _›)
  clear RS q0 q1 q2 q3 q4 q9 qf ql h0 h1 h2 h3 h4 h5 h6 h7 h8 h9 hhl
  have HM1 := hide ((unhide HM0).later hbx)
  have HH1 := hide ((unhide HH0).later hbx)
  have HA1 := hide ((unhide HA0).later hbx)
  have HB1 := hide (bel3 (unhide HB0) (Below.refl _ _) hbx)
  clear hbx HM0 HH0 HA0 HB0
  obtain ⟨⟨u0, u1, u2, u3, u4, u5, u6, u7⟩, ⟨v0, v1, v2, v3, v4, v5, v6, v7⟩⟩ := (unhide HA1).c8
  have ul := (unhide HA1).2
  obtain ⟨q0, q1, q2, q3, q9, qf, ql⟩ := (unhide HM1).nums
  go_wp2
  have hres : w.heap.size ≤ w.heap.size + 1 := by omega
  have HAF : Hid (Held ((((((((wA.setCell ⟨w.heap.size + 1, 0, none⟩ (.int .i64 0)).setCell ⟨w.heap.size + 1, 1, none⟩ (.int .i64 0)).setCell ⟨w.heap.size + 1, 2, none⟩ (.int .i64 0)).setCell ⟨w.heap.size + 1, 3, none⟩ (.int .i64 0)).setCell ⟨w.heap.size + 1, 4, none⟩ (.int .i64 0)).setCell ⟨w.heap.size + 1, 5, none⟩ (.int .i64 0)).setCell ⟨w.heap.size + 1, 6, none⟩ (.int .i64 0)).setCell ⟨w.heap.size + 1, 7, none⟩ (.bool false)) (w.heap.size + 1) (na 0 0 0 0 0 0 false)) := hide (((((((((unhide HA1).put 0 (.int .i64 0)).put 1 (.int .i64 0)).put 2 (.int .i64 0)).put 3 (.int .i64 0)).put 4 (.int .i64 0)).put 5 (.int .i64 0)).put 6 (.int .i64 0)).put 7 (.bool false))
  have HSF : Hid (MStep B w ((((((((wA.setCell ⟨w.heap.size + 1, 0, none⟩ (.int .i64 0)).setCell ⟨w.heap.size + 1, 1, none⟩ (.int .i64 0)).setCell ⟨w.heap.size + 1, 2, none⟩ (.int .i64 0)).setCell ⟨w.heap.size + 1, 3, none⟩ (.int .i64 0)).setCell ⟨w.heap.size + 1, 4, none⟩ (.int .i64 0)).setCell ⟨w.heap.size + 1, 5, none⟩ (.int .i64 0)).setCell ⟨w.heap.size + 1, 6, none⟩ (.int .i64 0)).setCell ⟨w.heap.size + 1, 7, none⟩ (.bool false)) m o R x) := hide (MStep.same (unhide H) (below_set (below_set (below_set (below_set (below_set (below_set (below_set (below_set (unhide HB1) hres 0 (.int .i64 0)) hres 1 (.int .i64 0)) hres 2 (.int .i64 0)) hres 3 (.int .i64 0)) hres 4 (.int .i64 0)) hres 5 (.int .i64 0)) hres 6 (.int .i64 0)) hres 7 (.bool false)))
  generalize ((((((((wA.setCell ⟨w.heap.size + 1, 0, none⟩ (.int .i64 0)).setCell ⟨w.heap.size + 1, 1, none⟩ (.int .i64 0)).setCell ⟨w.heap.size + 1, 2, none⟩ (.int .i64 0)).setCell ⟨w.heap.size + 1, 3, none⟩ (.int .i64 0)).setCell ⟨w.heap.size + 1, 4, none⟩ (.int .i64 0)).setCell ⟨w.heap.size + 1, 5, none⟩ (.int .i64 0)).setCell ⟨w.heap.size + 1, 6, none⟩ (.int .i64 0)).setCell ⟨w.heap.size + 1, 7, none⟩ (.bool false)) = wf at HAF HSF ⊢
  obtain ⟨u0, u1, u2, u3, u4, u5, u6, u7⟩ := (unhide HAF).c8.1
  exact bodyPost_ret (v := .tuple #[.agg #[.int .i64 0, .int .i64 0, .int .i64 0, .int .i64 0, .int .i64 0, .int .i64 0, .int .i64 0, .bool false], .int .i64 4]) (by simp [results, Tryz.results43, go_sem, u0, u1, u2, u3, u4, u5, u6, u7]) rfl ⟨rfl, unhide HSF⟩

set_option maxHeartbeats 3200000 in
set_option maxRecDepth 8000 in
theorem rhello_retry {B m : Nat} {o : Option Nat} {R : List Nat} {x : ServM.St} {h : ServM.Hi} {now : Int} {b : Bool} (w : World) (h0 : MAt B w m o R x) (hK : 0 ≤ x.key ∧ x.key < 999983) (hA : TagM.inB h.a = true) (hT : TagM.inB now = true) (C : Hid (∀ W : World, Calls Tryz.prog 70 #[.agg #[.int .i64 x.ep, .int .i64 x.key, .int .i64 x.old], .agg #[.int .i64 h.a, .int .i64 h.te, .int .i64 h.ta, .int .i64 h.tt, .int .i64 h.tg, .int .i64 h.ke, .int .i64 h.kn, .int .i64 h.ku, .int .i64 h.kg, .string h.s], .int .i64 x.L.length, .int .i64 now, .int .i64 x.life] W fun e w' => e = .returned (.tuple #[.int .i64 0, .bool b, .int .i64 0]) ∧ Below W.heap.size W w')) :
    Calls Tryz.prog 43 #[.pointer (some ⟨m, 0, none⟩), .agg #[.int .i64 h.a, .int .i64 h.te, .int .i64 h.ta, .int .i64 h.tt, .int .i64 h.tg, .int .i64 h.ke, .int .i64 h.kn, .int .i64 h.ku, .int .i64 h.kg, .string h.s], .int .i64 now] w fun e w' => e = .returned (.tuple #[.agg #[.int .i64 0, .int .i64 x.ep, .int .i64 h.a, .int .i64 now, .int .i64 (TagM.tag x.key [1, h.a, now]), .int .i64 0, .int .i64 0, .bool false], .int .i64 0]) ∧ MStep B w w' m o R x := by
  have CG := hide (fun b w c0 c1 c2 => tag3 x.key 1 h.a now b w c0 c1 c2 hK rfl hA hT)
  generalize TagM.tag x.key [1, h.a, now] = g at CG ⊢
  clear hK hA hT
  have hl := h0.lt
  have H := hide h0
  clear h0
  go_enter Tryz.func43, Tryz.ntmps43
  go_upto_region 1 with fail
  have HM0 : Hid (MAt B ((w.alloc (.cells #[.int .i64 h.a, .int .i64 h.te, .int .i64 h.ta, .int .i64 h.tt, .int .i64 h.tg, .int .i64 h.ke, .int .i64 h.kn, .int .i64 h.ku, .int .i64 h.kg, .string h.s] 73)).alloc (.cells #[.int .i64 0, .int .i64 0, .int .i64 0, .int .i64 0, .int .i64 0, .int .i64 0, .int .i64 0, .bool false] 104)) m o R x) := hide ((unhide H).later (by (repeat' (first | exact Below.refl _ _ | refine Below.alloc ?_ ?_ _ | refine Below.setCell ?_ ?_ _ | refine Below.drew ?_)); all_goals (first | exact Nat.le_refl _ | omega | (simp; done) | (simp; omega))))
  have HH0 : Hid (Held ((w.alloc (.cells #[.int .i64 h.a, .int .i64 h.te, .int .i64 h.ta, .int .i64 h.tt, .int .i64 h.tg, .int .i64 h.ke, .int .i64 h.kn, .int .i64 h.ku, .int .i64 h.kg, .string h.s] 73)).alloc (.cells #[.int .i64 0, .int .i64 0, .int .i64 0, .int .i64 0, .int .i64 0, .int .i64 0, .int .i64 0, .bool false] 104)) w.heap.size (nh h.a h.te h.ta h.tt h.tg h.ke h.kn h.ku h.kg h.s)) := hide ((Held.fresh (w := w) (nh h.a h.te h.ta h.tt h.tg h.ke h.kn h.ku h.kg h.s) 73 rfl).later (Below.alloc (Below.refl _ _) (Nat.le_refl _) _))
  have HA0 : Hid (Held ((w.alloc (.cells #[.int .i64 h.a, .int .i64 h.te, .int .i64 h.ta, .int .i64 h.tt, .int .i64 h.tg, .int .i64 h.ke, .int .i64 h.kn, .int .i64 h.ku, .int .i64 h.kg, .string h.s] 73)).alloc (.cells #[.int .i64 0, .int .i64 0, .int .i64 0, .int .i64 0, .int .i64 0, .int .i64 0, .int .i64 0, .bool false] 104)) (w.heap.size + 1) (na 0 0 0 0 0 0 false)) := hide (Held.fresh (w := w.alloc (.cells #[.int .i64 h.a, .int .i64 h.te, .int .i64 h.ta, .int .i64 h.tt, .int .i64 h.tg, .int .i64 h.ke, .int .i64 h.kn, .int .i64 h.ku, .int .i64 h.kg, .string h.s] 73)) (na 0 0 0 0 0 0 false) 104 (by simp))
  have HB0 : Hid (Below w.heap.size w ((w.alloc (.cells #[.int .i64 h.a, .int .i64 h.te, .int .i64 h.ta, .int .i64 h.tt, .int .i64 h.tg, .int .i64 h.ke, .int .i64 h.kn, .int .i64 h.ku, .int .i64 h.kg, .string h.s] 73)).alloc (.cells #[.int .i64 0, .int .i64 0, .int .i64 0, .int .i64 0, .int .i64 0, .int .i64 0, .int .i64 0, .bool false] 104))) := hide (by (repeat' (first | exact Below.refl _ _ | refine Below.alloc ?_ ?_ _ | refine Below.setCell ?_ ?_ _ | refine Below.drew ?_)); all_goals (first | exact Nat.le_refl _ | omega | (simp; done) | (simp; omega)))
  generalize ((w.alloc (.cells #[.int .i64 h.a, .int .i64 h.te, .int .i64 h.ta, .int .i64 h.tt, .int .i64 h.tg, .int .i64 h.ke, .int .i64 h.kn, .int .i64 h.ku, .int .i64 h.kg, .string h.s] 73)).alloc (.cells #[.int .i64 0, .int .i64 0, .int .i64 0, .int .i64 0, .int .i64 0, .int .i64 0, .int .i64 0, .bool false] 104)) = w0 at HM0 HH0 HA0 HB0 ⊢
  obtain ⟨q0, q1, q2, q3, q9, qf, ql⟩ := (unhide HM0).nums
  obtain ⟨wa, wc, q4, -⟩ := (unhide HM0).wait
  obtain ⟨h0, h1, h2, h3, h4, h5, h6, h7, h8, h9⟩ := (unhide HH0).c10.1
  have hhl := (unhide HH0).2
  generalize x.L.length = ln at q4 C
  have RS : Hid (∀ W : World, Below w0.heap.size w0 W → Hid (Below w0.heap.size w0 W) ∧ W.cell? ⟨m, 0, none⟩ = some (.int .i64 x.ep) ∧ W.cell? ⟨m, 1, none⟩ = some (.int .i64 x.key) ∧ W.cell? ⟨m, 2, none⟩ = some (.int .i64 x.old) ∧ W.cell? ⟨m, 3, none⟩ = some (.int .i64 x.life) ∧ W.cell? ⟨m, 4, none⟩ = some (.slice wa ln wc) ∧ W.cell? ⟨w.heap.size, 0, none⟩ = some (.int .i64 h.a) ∧ W.cell? ⟨w.heap.size, 1, none⟩ = some (.int .i64 h.te) ∧ W.cell? ⟨w.heap.size, 2, none⟩ = some (.int .i64 h.ta) ∧ W.cell? ⟨w.heap.size, 3, none⟩ = some (.int .i64 h.tt) ∧ W.cell? ⟨w.heap.size, 4, none⟩ = some (.int .i64 h.tg) ∧ W.cell? ⟨w.heap.size, 5, none⟩ = some (.int .i64 h.ke) ∧ W.cell? ⟨w.heap.size, 6, none⟩ = some (.int .i64 h.kn) ∧ W.cell? ⟨w.heap.size, 7, none⟩ = some (.int .i64 h.ku) ∧ W.cell? ⟨w.heap.size, 8, none⟩ = some (.int .i64 h.kg) ∧ W.cell? ⟨w.heap.size, 9, none⟩ = some (.string h.s)) := hide (fun W hW => ⟨hide hW, cell_later hW q0, cell_later hW q1, cell_later hW q2, cell_later hW q3, cell_later hW q4, cell_later hW h0, cell_later hW h1, cell_later hW h2, cell_later hW h3, cell_later hW h4, cell_later hW h5, cell_later hW h6, cell_later hW h7, cell_later hW h8, cell_later hW h9⟩)
  go_region_held3 (fun w' => Hid (Below w0.heap.size w0 w') ∧ w'.cell? ⟨m, 0, none⟩ = some (.int .i64 x.ep) ∧ w'.cell? ⟨m, 1, none⟩ = some (.int .i64 x.key) ∧ w'.cell? ⟨m, 2, none⟩ = some (.int .i64 x.old) ∧ w'.cell? ⟨m, 3, none⟩ = some (.int .i64 x.life) ∧ w'.cell? ⟨m, 4, none⟩ = some (.slice wa ln wc) ∧ w'.cell? ⟨w.heap.size, 0, none⟩ = some (.int .i64 h.a) ∧ w'.cell? ⟨w.heap.size, 1, none⟩ = some (.int .i64 h.te) ∧ w'.cell? ⟨w.heap.size, 2, none⟩ = some (.int .i64 h.ta) ∧ w'.cell? ⟨w.heap.size, 3, none⟩ = some (.int .i64 h.tt) ∧ w'.cell? ⟨w.heap.size, 4, none⟩ = some (.int .i64 h.tg) ∧ w'.cell? ⟨w.heap.size, 5, none⟩ = some (.int .i64 h.ke) ∧ w'.cell? ⟨w.heap.size, 6, none⟩ = some (.int .i64 h.kn) ∧ w'.cell? ⟨w.heap.size, 7, none⟩ = some (.int .i64 h.ku) ∧ w'.cell? ⟨w.heap.size, 8, none⟩ = some (.int .i64 h.kg) ∧ w'.cell? ⟨w.heap.size, 9, none⟩ = some (.string h.s)) (first | exact unhide RS _ (Below.trans (unhide (And.left ‹Hid (Below w0.heap.size w0 _) ∧ _›)) (hbA.mono (unhide (And.left ‹Hid (Below w0.heap.size w0 _) ∧ _›)).size)) | exact unhide RS _ (Below.refl _ _).drew | exact unhide RS _ (unhide (And.left ‹Hid (Below w0.heap.size w0 _) ∧ _›)).drew)
    (first | (go_at_call 70; refine (unhide C _).mono ?_; rintro e wA ⟨rfl, hbA⟩))
  have hbx := unhide (And.left ‹Hid (Below w0.heap.size w0 _) ∧ _›)
  clear RS q0 q1 q2 q3 q4 q9 qf ql h0 h1 h2 h3 h4 h5 h6 h7 h8 h9 hhl
  have HM1 := hide ((unhide HM0).later hbx)
  have HH1 := hide ((unhide HH0).later hbx)
  have HA1 := hide ((unhide HA0).later hbx)
  have HB1 := hide (bel3 (unhide HB0) (Below.refl _ _) hbx)
  clear hbx HM0 HH0 HA0 HB0
  obtain ⟨⟨u0, u1, u2, u3, u4, u5, u6, u7⟩, ⟨v0, v1, v2, v3, v4, v5, v6, v7⟩⟩ := (unhide HA1).c8
  have ul := (unhide HA1).2
  obtain ⟨q0, q1, q2, q3, q9, qf, ql⟩ := (unhide HM1).nums
  obtain ⟨h0, h1, h2, h3, h4, h5, h6, h7, h8, h9⟩ := (unhide HH1).c10.1
  have hhl := (unhide HH1).2
  go_wp2
  go_region_held3 (fun w' => w'.cell? ⟨m, 0, none⟩ = some (.int .i64 x.ep) ∧ w'.cell? ⟨m, 1, none⟩ = some (.int .i64 x.key) ∧ w'.cell? ⟨w.heap.size, 0, none⟩ = some (.int .i64 h.a)) (go_keep)
    (first | (go_at_call 18; refine (unhide CG _ _ (by first | (simp; done) | (rw [World.cell?_alloc_at _ _ _ _ (by simp)]; rfl) | (rw [World.cell?_drew, World.cell?_alloc_at _ _ _ _ (by simp)]; rfl)) (by first | (simp; done) | (rw [World.cell?_alloc_at _ _ _ _ (by simp)]; rfl) | (rw [World.cell?_drew, World.cell?_alloc_at _ _ _ _ (by simp)]; rfl)) (by first | (simp; done) | (rw [World.cell?_alloc_at _ _ _ _ (by simp)]; rfl) | (rw [World.cell?_drew, World.cell?_alloc_at _ _ _ _ (by simp)]; rfl))).mono ?_; rintro e w' ⟨rfl, rfl⟩))
  go_wp2
  · have hres : w.heap.size ≤ w.heap.size + 1 := by omega
    have HAF : Hid (Held ((((((((((wA.setCell ⟨w.heap.size + 1, 0, none⟩ (.int .i64 0)).setCell ⟨w.heap.size + 1, 1, none⟩ (.int .i64 x.ep)).setCell ⟨w.heap.size + 1, 2, none⟩ (.int .i64 h.a)).setCell ⟨w.heap.size + 1, 3, none⟩ (.int .i64 now)).setCell ⟨w.heap.size + 1, 4, none⟩ (.int .i64 g)).setCell ⟨w.heap.size + 1, 5, none⟩ (.int .i64 0)).setCell ⟨w.heap.size + 1, 6, none⟩ (.int .i64 0)).setCell ⟨w.heap.size + 1, 7, none⟩ (.bool false)).alloc (.cells #[.int .i64 1, .int .i64 h.a, .int .i64 now] 3)).alloc (.cells #[.int .i64 x.ep, .int .i64 h.a, .int .i64 now, .int .i64 g] 69)).drew (w.heap.size + 1) (na 0 x.ep h.a now g 0 false)) := hide (((((((((((unhide HA1).put 0 (.int .i64 0)).put 1 (.int .i64 x.ep)).put 2 (.int .i64 h.a)).put 3 (.int .i64 now)).put 4 (.int .i64 g)).put 5 (.int .i64 0)).put 6 (.int .i64 0)).put 7 (.bool false)).alloc (.cells #[.int .i64 1, .int .i64 h.a, .int .i64 now] 3)).alloc (.cells #[.int .i64 x.ep, .int .i64 h.a, .int .i64 now, .int .i64 g] 69)).drew
    have HSF : Hid (MStep B w ((((((((((wA.setCell ⟨w.heap.size + 1, 0, none⟩ (.int .i64 0)).setCell ⟨w.heap.size + 1, 1, none⟩ (.int .i64 x.ep)).setCell ⟨w.heap.size + 1, 2, none⟩ (.int .i64 h.a)).setCell ⟨w.heap.size + 1, 3, none⟩ (.int .i64 now)).setCell ⟨w.heap.size + 1, 4, none⟩ (.int .i64 g)).setCell ⟨w.heap.size + 1, 5, none⟩ (.int .i64 0)).setCell ⟨w.heap.size + 1, 6, none⟩ (.int .i64 0)).setCell ⟨w.heap.size + 1, 7, none⟩ (.bool false)).alloc (.cells #[.int .i64 1, .int .i64 h.a, .int .i64 now] 3)).alloc (.cells #[.int .i64 x.ep, .int .i64 h.a, .int .i64 now, .int .i64 g] 69)).drew m o R x) := hide (MStep.same (unhide H) (below_drew (below_alloc (below_alloc (below_set (below_set (below_set (below_set (below_set (below_set (below_set (below_set (unhide HB1) hres 0 (.int .i64 0)) hres 1 (.int .i64 x.ep)) hres 2 (.int .i64 h.a)) hres 3 (.int .i64 now)) hres 4 (.int .i64 g)) hres 5 (.int .i64 0)) hres 6 (.int .i64 0)) hres 7 (.bool false)) (.cells #[.int .i64 1, .int .i64 h.a, .int .i64 now] 3)) (.cells #[.int .i64 x.ep, .int .i64 h.a, .int .i64 now, .int .i64 g] 69))))
    generalize ((((((((((wA.setCell ⟨w.heap.size + 1, 0, none⟩ (.int .i64 0)).setCell ⟨w.heap.size + 1, 1, none⟩ (.int .i64 x.ep)).setCell ⟨w.heap.size + 1, 2, none⟩ (.int .i64 h.a)).setCell ⟨w.heap.size + 1, 3, none⟩ (.int .i64 now)).setCell ⟨w.heap.size + 1, 4, none⟩ (.int .i64 g)).setCell ⟨w.heap.size + 1, 5, none⟩ (.int .i64 0)).setCell ⟨w.heap.size + 1, 6, none⟩ (.int .i64 0)).setCell ⟨w.heap.size + 1, 7, none⟩ (.bool false)).alloc (.cells #[.int .i64 1, .int .i64 h.a, .int .i64 now] 3)).alloc (.cells #[.int .i64 x.ep, .int .i64 h.a, .int .i64 now, .int .i64 g] 69)).drew = wf at HAF HSF ⊢
    obtain ⟨u0, u1, u2, u3, u4, u5, u6, u7⟩ := (unhide HAF).c8.1
    exact bodyPost_ret (v := .tuple #[.agg #[.int .i64 0, .int .i64 x.ep, .int .i64 h.a, .int .i64 now, .int .i64 g, .int .i64 0, .int .i64 0, .bool false], .int .i64 0]) (by simp [results, Tryz.results43, go_sem, u0, u1, u2, u3, u4, u5, u6, u7]) rfl ⟨rfl, unhide HSF⟩
  · have hres : w.heap.size ≤ w.heap.size + 1 := by omega
    have HAF : Hid (Held ((((((((((wA.setCell ⟨w.heap.size + 1, 0, none⟩ (.int .i64 0)).setCell ⟨w.heap.size + 1, 1, none⟩ (.int .i64 x.ep)).setCell ⟨w.heap.size + 1, 2, none⟩ (.int .i64 h.a)).setCell ⟨w.heap.size + 1, 3, none⟩ (.int .i64 now)).setCell ⟨w.heap.size + 1, 4, none⟩ (.int .i64 g)).setCell ⟨w.heap.size + 1, 5, none⟩ (.int .i64 0)).setCell ⟨w.heap.size + 1, 6, none⟩ (.int .i64 0)).setCell ⟨w.heap.size + 1, 7, none⟩ (.bool false)).alloc (.cells #[.int .i64 1, .int .i64 h.a, .int .i64 now] 3)).alloc (.cells #[.int .i64 x.ep, .int .i64 h.a, .int .i64 now, .int .i64 g] 69)).drew (w.heap.size + 1) (na 0 x.ep h.a now g 0 false)) := hide (((((((((((unhide HA1).put 0 (.int .i64 0)).put 1 (.int .i64 x.ep)).put 2 (.int .i64 h.a)).put 3 (.int .i64 now)).put 4 (.int .i64 g)).put 5 (.int .i64 0)).put 6 (.int .i64 0)).put 7 (.bool false)).alloc (.cells #[.int .i64 1, .int .i64 h.a, .int .i64 now] 3)).alloc (.cells #[.int .i64 x.ep, .int .i64 h.a, .int .i64 now, .int .i64 g] 69)).drew
    have HSF : Hid (MStep B w ((((((((((wA.setCell ⟨w.heap.size + 1, 0, none⟩ (.int .i64 0)).setCell ⟨w.heap.size + 1, 1, none⟩ (.int .i64 x.ep)).setCell ⟨w.heap.size + 1, 2, none⟩ (.int .i64 h.a)).setCell ⟨w.heap.size + 1, 3, none⟩ (.int .i64 now)).setCell ⟨w.heap.size + 1, 4, none⟩ (.int .i64 g)).setCell ⟨w.heap.size + 1, 5, none⟩ (.int .i64 0)).setCell ⟨w.heap.size + 1, 6, none⟩ (.int .i64 0)).setCell ⟨w.heap.size + 1, 7, none⟩ (.bool false)).alloc (.cells #[.int .i64 1, .int .i64 h.a, .int .i64 now] 3)).alloc (.cells #[.int .i64 x.ep, .int .i64 h.a, .int .i64 now, .int .i64 g] 69)).drew m o R x) := hide (MStep.same (unhide H) (below_drew (below_alloc (below_alloc (below_set (below_set (below_set (below_set (below_set (below_set (below_set (below_set (unhide HB1) hres 0 (.int .i64 0)) hres 1 (.int .i64 x.ep)) hres 2 (.int .i64 h.a)) hres 3 (.int .i64 now)) hres 4 (.int .i64 g)) hres 5 (.int .i64 0)) hres 6 (.int .i64 0)) hres 7 (.bool false)) (.cells #[.int .i64 1, .int .i64 h.a, .int .i64 now] 3)) (.cells #[.int .i64 x.ep, .int .i64 h.a, .int .i64 now, .int .i64 g] 69))))
    generalize ((((((((((wA.setCell ⟨w.heap.size + 1, 0, none⟩ (.int .i64 0)).setCell ⟨w.heap.size + 1, 1, none⟩ (.int .i64 x.ep)).setCell ⟨w.heap.size + 1, 2, none⟩ (.int .i64 h.a)).setCell ⟨w.heap.size + 1, 3, none⟩ (.int .i64 now)).setCell ⟨w.heap.size + 1, 4, none⟩ (.int .i64 g)).setCell ⟨w.heap.size + 1, 5, none⟩ (.int .i64 0)).setCell ⟨w.heap.size + 1, 6, none⟩ (.int .i64 0)).setCell ⟨w.heap.size + 1, 7, none⟩ (.bool false)).alloc (.cells #[.int .i64 1, .int .i64 h.a, .int .i64 now] 3)).alloc (.cells #[.int .i64 x.ep, .int .i64 h.a, .int .i64 now, .int .i64 g] 69)).drew = wf at HAF HSF ⊢
    obtain ⟨u0, u1, u2, u3, u4, u5, u6, u7⟩ := (unhide HAF).c8.1
    exact bodyPost_ret (v := .tuple #[.agg #[.int .i64 0, .int .i64 x.ep, .int .i64 h.a, .int .i64 now, .int .i64 g, .int .i64 0, .int .i64 0, .bool false], .int .i64 0]) (by simp [results, Tryz.results43, go_sem, u0, u1, u2, u3, u4, u5, u6, u7]) rfl ⟨rfl, unhide HSF⟩
  · have hres : w.heap.size ≤ w.heap.size + 1 := by omega
    have HAF : Hid (Held ((((((((((wA.setCell ⟨w.heap.size + 1, 0, none⟩ (.int .i64 0)).setCell ⟨w.heap.size + 1, 1, none⟩ (.int .i64 x.ep)).setCell ⟨w.heap.size + 1, 2, none⟩ (.int .i64 h.a)).setCell ⟨w.heap.size + 1, 3, none⟩ (.int .i64 now)).setCell ⟨w.heap.size + 1, 4, none⟩ (.int .i64 g)).setCell ⟨w.heap.size + 1, 5, none⟩ (.int .i64 0)).setCell ⟨w.heap.size + 1, 6, none⟩ (.int .i64 0)).setCell ⟨w.heap.size + 1, 7, none⟩ (.bool false)).alloc (.cells #[.int .i64 x.ep, .int .i64 h.a, .int .i64 now, .int .i64 g] 69)).alloc (.cells #[.int .i64 1, .int .i64 h.a, .int .i64 now] 3)).drew (w.heap.size + 1) (na 0 x.ep h.a now g 0 false)) := hide (((((((((((unhide HA1).put 0 (.int .i64 0)).put 1 (.int .i64 x.ep)).put 2 (.int .i64 h.a)).put 3 (.int .i64 now)).put 4 (.int .i64 g)).put 5 (.int .i64 0)).put 6 (.int .i64 0)).put 7 (.bool false)).alloc (.cells #[.int .i64 x.ep, .int .i64 h.a, .int .i64 now, .int .i64 g] 69)).alloc (.cells #[.int .i64 1, .int .i64 h.a, .int .i64 now] 3)).drew
    have HSF : Hid (MStep B w ((((((((((wA.setCell ⟨w.heap.size + 1, 0, none⟩ (.int .i64 0)).setCell ⟨w.heap.size + 1, 1, none⟩ (.int .i64 x.ep)).setCell ⟨w.heap.size + 1, 2, none⟩ (.int .i64 h.a)).setCell ⟨w.heap.size + 1, 3, none⟩ (.int .i64 now)).setCell ⟨w.heap.size + 1, 4, none⟩ (.int .i64 g)).setCell ⟨w.heap.size + 1, 5, none⟩ (.int .i64 0)).setCell ⟨w.heap.size + 1, 6, none⟩ (.int .i64 0)).setCell ⟨w.heap.size + 1, 7, none⟩ (.bool false)).alloc (.cells #[.int .i64 x.ep, .int .i64 h.a, .int .i64 now, .int .i64 g] 69)).alloc (.cells #[.int .i64 1, .int .i64 h.a, .int .i64 now] 3)).drew m o R x) := hide (MStep.same (unhide H) (below_drew (below_alloc (below_alloc (below_set (below_set (below_set (below_set (below_set (below_set (below_set (below_set (unhide HB1) hres 0 (.int .i64 0)) hres 1 (.int .i64 x.ep)) hres 2 (.int .i64 h.a)) hres 3 (.int .i64 now)) hres 4 (.int .i64 g)) hres 5 (.int .i64 0)) hres 6 (.int .i64 0)) hres 7 (.bool false)) (.cells #[.int .i64 x.ep, .int .i64 h.a, .int .i64 now, .int .i64 g] 69)) (.cells #[.int .i64 1, .int .i64 h.a, .int .i64 now] 3))))
    generalize ((((((((((wA.setCell ⟨w.heap.size + 1, 0, none⟩ (.int .i64 0)).setCell ⟨w.heap.size + 1, 1, none⟩ (.int .i64 x.ep)).setCell ⟨w.heap.size + 1, 2, none⟩ (.int .i64 h.a)).setCell ⟨w.heap.size + 1, 3, none⟩ (.int .i64 now)).setCell ⟨w.heap.size + 1, 4, none⟩ (.int .i64 g)).setCell ⟨w.heap.size + 1, 5, none⟩ (.int .i64 0)).setCell ⟨w.heap.size + 1, 6, none⟩ (.int .i64 0)).setCell ⟨w.heap.size + 1, 7, none⟩ (.bool false)).alloc (.cells #[.int .i64 x.ep, .int .i64 h.a, .int .i64 now, .int .i64 g] 69)).alloc (.cells #[.int .i64 1, .int .i64 h.a, .int .i64 now] 3)).drew = wf at HAF HSF ⊢
    obtain ⟨u0, u1, u2, u3, u4, u5, u6, u7⟩ := (unhide HAF).c8.1
    exact bodyPost_ret (v := .tuple #[.agg #[.int .i64 0, .int .i64 x.ep, .int .i64 h.a, .int .i64 now, .int .i64 g, .int .i64 0, .int .i64 0, .bool false], .int .i64 0]) (by simp [results, Tryz.results43, go_sem, u0, u1, u2, u3, u4, u5, u6, u7]) rfl ⟨rfl, unhide HSF⟩

set_option maxHeartbeats 3200000 in
set_option maxRecDepth 8000 in
theorem rhello_in0 {B m : Nat} {o : Option Nat} {R : List Nat} {x : ServM.St} {h : ServM.Hi} {now : Int} (w : World) (h0 : MAt B w m o R x) (hk0 : 0 ≤ x.k) (hk : x.k < 4096) (hL : x.L.length ≤ 8) (hZ : QueueM.offerErr x.L (0, x.k) = 0) (C : Hid (∀ W : World, Calls Tryz.prog 70 #[.agg #[.int .i64 x.ep, .int .i64 x.key, .int .i64 x.old], .agg #[.int .i64 h.a, .int .i64 h.te, .int .i64 h.ta, .int .i64 h.tt, .int .i64 h.tg, .int .i64 h.ke, .int .i64 h.kn, .int .i64 h.ku, .int .i64 h.kg, .string h.s], .int .i64 x.L.length, .int .i64 now, .int .i64 x.life] W fun e w' => e = .returned (.tuple #[.int .i64 1, .bool false, .int .i64 0]) ∧ Below W.heap.size W w')) :
    Calls Tryz.prog 43 #[.pointer (some ⟨m, 0, none⟩), .agg #[.int .i64 h.a, .int .i64 h.te, .int .i64 h.ta, .int .i64 h.tt, .int .i64 h.tg, .int .i64 h.ke, .int .i64 h.kn, .int .i64 h.ku, .int .i64 h.kg, .string h.s], .int .i64 now] w fun e w' => e = .returned (.tuple #[.agg #[.int .i64 1, .int .i64 0, .int .i64 0, .int .i64 0, .int .i64 0, .int .i64 0, .int .i64 x.k, .bool false], .int .i64 0]) ∧ MStep B w w' m o R { x with L := x.L ++ [(0, x.k)], k := x.k + 1 } := by
  have hl := h0.lt
  have H := hide h0
  clear h0
  go_enter Tryz.func43, Tryz.ntmps43
  go_upto_region 1 with fail
  have HM0 : Hid (MAt B ((w.alloc (.cells #[.int .i64 h.a, .int .i64 h.te, .int .i64 h.ta, .int .i64 h.tt, .int .i64 h.tg, .int .i64 h.ke, .int .i64 h.kn, .int .i64 h.ku, .int .i64 h.kg, .string h.s] 73)).alloc (.cells #[.int .i64 0, .int .i64 0, .int .i64 0, .int .i64 0, .int .i64 0, .int .i64 0, .int .i64 0, .bool false] 104)) m o R x) := hide ((unhide H).later (by (repeat' (first | exact Below.refl _ _ | refine Below.alloc ?_ ?_ _ | refine Below.setCell ?_ ?_ _ | refine Below.drew ?_)); all_goals (first | exact Nat.le_refl _ | omega | (simp; done) | (simp; omega))))
  have HH0 : Hid (Held ((w.alloc (.cells #[.int .i64 h.a, .int .i64 h.te, .int .i64 h.ta, .int .i64 h.tt, .int .i64 h.tg, .int .i64 h.ke, .int .i64 h.kn, .int .i64 h.ku, .int .i64 h.kg, .string h.s] 73)).alloc (.cells #[.int .i64 0, .int .i64 0, .int .i64 0, .int .i64 0, .int .i64 0, .int .i64 0, .int .i64 0, .bool false] 104)) w.heap.size (nh h.a h.te h.ta h.tt h.tg h.ke h.kn h.ku h.kg h.s)) := hide ((Held.fresh (w := w) (nh h.a h.te h.ta h.tt h.tg h.ke h.kn h.ku h.kg h.s) 73 rfl).later (Below.alloc (Below.refl _ _) (Nat.le_refl _) _))
  have HA0 : Hid (Held ((w.alloc (.cells #[.int .i64 h.a, .int .i64 h.te, .int .i64 h.ta, .int .i64 h.tt, .int .i64 h.tg, .int .i64 h.ke, .int .i64 h.kn, .int .i64 h.ku, .int .i64 h.kg, .string h.s] 73)).alloc (.cells #[.int .i64 0, .int .i64 0, .int .i64 0, .int .i64 0, .int .i64 0, .int .i64 0, .int .i64 0, .bool false] 104)) (w.heap.size + 1) (na 0 0 0 0 0 0 false)) := hide (Held.fresh (w := w.alloc (.cells #[.int .i64 h.a, .int .i64 h.te, .int .i64 h.ta, .int .i64 h.tt, .int .i64 h.tg, .int .i64 h.ke, .int .i64 h.kn, .int .i64 h.ku, .int .i64 h.kg, .string h.s] 73)) (na 0 0 0 0 0 0 false) 104 (by simp))
  have HB0 : Hid (Below w.heap.size w ((w.alloc (.cells #[.int .i64 h.a, .int .i64 h.te, .int .i64 h.ta, .int .i64 h.tt, .int .i64 h.tg, .int .i64 h.ke, .int .i64 h.kn, .int .i64 h.ku, .int .i64 h.kg, .string h.s] 73)).alloc (.cells #[.int .i64 0, .int .i64 0, .int .i64 0, .int .i64 0, .int .i64 0, .int .i64 0, .int .i64 0, .bool false] 104))) := hide (by (repeat' (first | exact Below.refl _ _ | refine Below.alloc ?_ ?_ _ | refine Below.setCell ?_ ?_ _ | refine Below.drew ?_)); all_goals (first | exact Nat.le_refl _ | omega | (simp; done) | (simp; omega)))
  generalize ((w.alloc (.cells #[.int .i64 h.a, .int .i64 h.te, .int .i64 h.ta, .int .i64 h.tt, .int .i64 h.tg, .int .i64 h.ke, .int .i64 h.kn, .int .i64 h.ku, .int .i64 h.kg, .string h.s] 73)).alloc (.cells #[.int .i64 0, .int .i64 0, .int .i64 0, .int .i64 0, .int .i64 0, .int .i64 0, .int .i64 0, .bool false] 104)) = w0 at HM0 HH0 HA0 HB0 ⊢
  obtain ⟨q0, q1, q2, q3, q9, qf, ql⟩ := (unhide HM0).nums
  obtain ⟨wa, wc, q4, -⟩ := (unhide HM0).wait
  obtain ⟨h0, h1, h2, h3, h4, h5, h6, h7, h8, h9⟩ := (unhide HH0).c10.1
  have hhl := (unhide HH0).2
  generalize x.L.length = ln at q4 C
  have RS : Hid (∀ W : World, Below w0.heap.size w0 W → Hid (Below w0.heap.size w0 W) ∧ W.cell? ⟨m, 0, none⟩ = some (.int .i64 x.ep) ∧ W.cell? ⟨m, 1, none⟩ = some (.int .i64 x.key) ∧ W.cell? ⟨m, 2, none⟩ = some (.int .i64 x.old) ∧ W.cell? ⟨m, 3, none⟩ = some (.int .i64 x.life) ∧ W.cell? ⟨m, 4, none⟩ = some (.slice wa ln wc) ∧ W.cell? ⟨w.heap.size, 0, none⟩ = some (.int .i64 h.a) ∧ W.cell? ⟨w.heap.size, 1, none⟩ = some (.int .i64 h.te) ∧ W.cell? ⟨w.heap.size, 2, none⟩ = some (.int .i64 h.ta) ∧ W.cell? ⟨w.heap.size, 3, none⟩ = some (.int .i64 h.tt) ∧ W.cell? ⟨w.heap.size, 4, none⟩ = some (.int .i64 h.tg) ∧ W.cell? ⟨w.heap.size, 5, none⟩ = some (.int .i64 h.ke) ∧ W.cell? ⟨w.heap.size, 6, none⟩ = some (.int .i64 h.kn) ∧ W.cell? ⟨w.heap.size, 7, none⟩ = some (.int .i64 h.ku) ∧ W.cell? ⟨w.heap.size, 8, none⟩ = some (.int .i64 h.kg) ∧ W.cell? ⟨w.heap.size, 9, none⟩ = some (.string h.s)) := hide (fun W hW => ⟨hide hW, cell_later hW q0, cell_later hW q1, cell_later hW q2, cell_later hW q3, cell_later hW q4, cell_later hW h0, cell_later hW h1, cell_later hW h2, cell_later hW h3, cell_later hW h4, cell_later hW h5, cell_later hW h6, cell_later hW h7, cell_later hW h8, cell_later hW h9⟩)
  go_region_held3 (fun w' => Hid (Below w0.heap.size w0 w') ∧ w'.cell? ⟨m, 0, none⟩ = some (.int .i64 x.ep) ∧ w'.cell? ⟨m, 1, none⟩ = some (.int .i64 x.key) ∧ w'.cell? ⟨m, 2, none⟩ = some (.int .i64 x.old) ∧ w'.cell? ⟨m, 3, none⟩ = some (.int .i64 x.life) ∧ w'.cell? ⟨m, 4, none⟩ = some (.slice wa ln wc) ∧ w'.cell? ⟨w.heap.size, 0, none⟩ = some (.int .i64 h.a) ∧ w'.cell? ⟨w.heap.size, 1, none⟩ = some (.int .i64 h.te) ∧ w'.cell? ⟨w.heap.size, 2, none⟩ = some (.int .i64 h.ta) ∧ w'.cell? ⟨w.heap.size, 3, none⟩ = some (.int .i64 h.tt) ∧ w'.cell? ⟨w.heap.size, 4, none⟩ = some (.int .i64 h.tg) ∧ w'.cell? ⟨w.heap.size, 5, none⟩ = some (.int .i64 h.ke) ∧ w'.cell? ⟨w.heap.size, 6, none⟩ = some (.int .i64 h.kn) ∧ w'.cell? ⟨w.heap.size, 7, none⟩ = some (.int .i64 h.ku) ∧ w'.cell? ⟨w.heap.size, 8, none⟩ = some (.int .i64 h.kg) ∧ w'.cell? ⟨w.heap.size, 9, none⟩ = some (.string h.s)) (first | exact unhide RS _ (Below.trans (unhide (And.left ‹Hid (Below w0.heap.size w0 _) ∧ _›)) (hbA.mono (unhide (And.left ‹Hid (Below w0.heap.size w0 _) ∧ _›)).size)) | exact unhide RS _ (Below.refl _ _).drew | exact unhide RS _ (unhide (And.left ‹Hid (Below w0.heap.size w0 _) ∧ _›)).drew)
    (first | (go_at_call 70; refine (unhide C _).mono ?_; rintro e wA ⟨rfl, hbA⟩))
  have hbx := unhide (And.left ‹Hid (Below w0.heap.size w0 _) ∧ _›)
  clear RS q0 q1 q2 q3 q4 q9 qf ql h0 h1 h2 h3 h4 h5 h6 h7 h8 h9 hhl
  have HM1 := hide ((unhide HM0).later hbx)
  have HH1 := hide ((unhide HH0).later hbx)
  have HA1 := hide ((unhide HA0).later hbx)
  have HB1 := hide (bel3 (unhide HB0) (Below.refl _ _) hbx)
  have HOUT := hide (unhide H).out
  have z0 : w.heap.size + 1 < w0.heap.size := (unhide HA0).2
  have y0 := hbx.size
  clear hbx HM0 HH0 HA0 HB0
  generalize wA = w1 at HM1 HH1 HA1 HB1 y0 ⊢
  obtain ⟨q0, q1, q2, q3, q9, qf, ql⟩ := (unhide HM1).nums
  have qf9 := qf 9
  clear qf
  go_upto_region 13 with fail
  have HM2 : Hid (MAt B ((w1.setCell ⟨m, 9, none⟩ (.int .i64 (x.k + 1))).alloc (.cells #[.int .i64 0, .int .i64 x.k] 78)) m o R { x with k := x.k + 1 }) := hide (((unhide HM1).set (y := { x with k := x.k + 1 }) (fun _ _ _ _ _ _ _ => rfl) rfl rfl rfl).later (Below.alloc (Below.refl _ _) (Nat.le_refl _) _))
  have HK2 : Hid (Kept (m :: o.toList) w ((w1.setCell ⟨m, 9, none⟩ (.int .i64 (x.k + 1))).alloc (.cells #[.int .i64 0, .int .i64 x.k] 78))) := hide ((Kept.setCell (p := ⟨m, 9, none⟩) (Kept.of (unhide HB1)) (.inl (List.mem_cons_self ..)) _).alloc _)
  have HH2 : Hid (Held ((w1.setCell ⟨m, 9, none⟩ (.int .i64 (x.k + 1))).alloc (.cells #[.int .i64 0, .int .i64 x.k] 78)) w.heap.size (nh h.a h.te h.ta h.tt h.tg h.ke h.kn h.ku h.kg h.s)) := hide (((unhide HH1).far (c := m) (by omega) 9 _).alloc _)
  have HA2 : Hid (Held ((w1.setCell ⟨m, 9, none⟩ (.int .i64 (x.k + 1))).alloc (.cells #[.int .i64 0, .int .i64 x.k] 78)) (w.heap.size + 1) (na 0 0 0 0 0 0 false)) := hide (((unhide HA1).far (c := m) (by omega) 9 _).alloc _)
  have HC2 : Hid (Held ((w1.setCell ⟨m, 9, none⟩ (.int .i64 (x.k + 1))).alloc (.cells #[.int .i64 0, .int .i64 x.k] 78)) w1.heap.size [.int .i64 0, .int .i64 x.k]) := hide (Held.fresh (w := (w1.setCell ⟨m, 9, none⟩ (.int .i64 (x.k + 1)))) [.int .i64 0, .int .i64 x.k] 78 (by simp))
  clear q0 q1 q2 q3 q9 qf9 ql HM1 HH1 HA1
  have y1 : w0.heap.size ≤ w1.heap.size := y0
  generalize ((w1.setCell ⟨m, 9, none⟩ (.int .i64 (x.k + 1))).alloc (.cells #[.int .i64 0, .int .i64 x.k] 78)) = w2 at HM2 HK2 HH2 HA2 HC2 ⊢
  have y2 : w1.heap.size < w2.heap.size := (unhide HC2).2
  obtain ⟨d0, d1⟩ := (unhide HC2).c2.1
  have dl := (unhide HM2).lt
  have RS : Hid (∀ W : World, Kept (m :: o.toList) w2 W → Hid (Kept (m :: o.toList) w2 W) ∧ W.cell? ⟨w1.heap.size, 0, none⟩ = some (.int .i64 0) ∧ W.cell? ⟨w1.heap.size, 1, none⟩ = some (.int .i64 x.k)) := hide (fun W hk => ⟨hide hk, (hk.held (unhide HC2) (unhide HOUT _ (by omega))).c2.1.1, (hk.held (unhide HC2) (unhide HOUT _ (by omega))).c2.1.2⟩)
  have CO := hide (fun W (h : MAt B W m o R { x with k := x.k + 1 }) (hB' : B ≤ W.heap.size) => roffer_in 0 x.k W h hL hB' hZ)
  have hB2 : B ≤ w2.heap.size := by have := (unhide HM2).1; omega
  go_region_held3 (fun w' => Hid (Kept (m :: o.toList) w2 w') ∧ w'.cell? ⟨w1.heap.size, 0, none⟩ = some (.int .i64 0) ∧ w'.cell? ⟨w1.heap.size, 1, none⟩ = some (.int .i64 x.k))
    (exact unhide RS _ (by repeat' (first | exact Kept.refl _ _ | exact unhide (And.left ‹Hid (Kept (m :: o.toList) w2 _) ∧ _›) | exact Kept.trans (unhide (And.left ‹Hid (Kept (m :: o.toList) w2 _) ∧ _›)) hk3 | exact Kept.trans (Kept.refl _ _).drew hk3 | exact hk3 | refine Kept.drew ?_)))
    (first | (go_at_call 71; refine (unhide CO _ (by first | exact unhide HM2 | exact (unhide HM2).later (below_drew (Below.refl _ _))) (by first | exact hB2 | exact Nat.le_trans hB2 (below_drew (Below.refl _ _)).size)).mono ?_; rintro e w3 ⟨rfl, hs3⟩; have hk3 := hs3; obtain ⟨o3, R3, hm3, ho3, hr3, hk3⟩ := hk3))
  have hkx := unhide (And.left ‹Hid (Kept (m :: o.toList) w2 _) ∧ _›)
  have y3 : w2.heap.size ≤ w3.heap.size := hkx.size
  have HK3 := hide ((unhide HK2).trans hkx)
  have HM3 : Hid (MAt B w3 m o3 R3 { x with L := x.L ++ [(0, x.k)], k := x.k + 1 }) := hide hm3
  have HO3 : Hid (∀ k, o3 = some k → o = some k ∨ w0.heap.size ≤ k) := hide (fun k hk => (ho3 k hk).imp_right (fun q => Nat.le_trans (show w0.heap.size ≤ w2.heap.size by omega) q))
  have HR3 : Hid (∀ g, g ∈ R3 → g ∈ R ∨ w0.heap.size ≤ g) := hide (fun g hg => (hr3 g hg).imp_right (fun q => Nat.le_trans (show w0.heap.size ≤ w2.heap.size by omega) q))
  have HH3 := hide (hkx.held (unhide HH2) (unhide HOUT _ (Nat.le_refl _)))
  have HA3 := hide (hkx.held (unhide HA2) (unhide HOUT _ (by omega)))
  have HC3 := hide (hkx.held (unhide HC2) (unhide HOUT _ (by omega)))
  clear hs3 hm3 ho3 hr3 hk3 hkx HM2 HK2 HH2 HA2 HC2 RS CO d0 d1 dl hB2
  have z1 : w.heap.size ≤ w.heap.size + 1 := by omega
  obtain ⟨d0, d1⟩ := (unhide HC3).c2.1
  have dl := (unhide HC3).2
  obtain ⟨⟨u0, u1, u2, u3, u4, u5, u6, u7⟩, ⟨v0, v1, v2, v3, v4, v5, v6, v7⟩⟩ := (unhide HA3).c8
  have ul := (unhide HA3).2
  go_wp2
  have hres : w.heap.size ≤ w.heap.size + 1 := by omega
  have HAF : Hid (Held (((((((((w3.setCell ⟨w.heap.size + 1, 0, none⟩ (.int .i64 1)).setCell ⟨w.heap.size + 1, 1, none⟩ (.int .i64 0)).setCell ⟨w.heap.size + 1, 2, none⟩ (.int .i64 0)).setCell ⟨w.heap.size + 1, 3, none⟩ (.int .i64 0)).setCell ⟨w.heap.size + 1, 4, none⟩ (.int .i64 0)).setCell ⟨w.heap.size + 1, 5, none⟩ (.int .i64 0)).setCell ⟨w.heap.size + 1, 6, none⟩ (.int .i64 x.k)).setCell ⟨w.heap.size + 1, 7, none⟩ (.bool false)).alloc (.cells #[.int .i64 1, .int .i64 0, .int .i64 0, .int .i64 0, .int .i64 0, .int .i64 0, .int .i64 x.k, .bool false] 104)) (w.heap.size + 1) (na 1 0 0 0 0 x.k false)) := hide ((((((((((unhide HA3).put 0 (.int .i64 1)).put 1 (.int .i64 0)).put 2 (.int .i64 0)).put 3 (.int .i64 0)).put 4 (.int .i64 0)).put 5 (.int .i64 0)).put 6 (.int .i64 x.k)).put 7 (.bool false)).alloc (.cells #[.int .i64 1, .int .i64 0, .int .i64 0, .int .i64 0, .int .i64 0, .int .i64 0, .int .i64 x.k, .bool false] 104))
  have HSF : Hid (MStep B w (((((((((w3.setCell ⟨w.heap.size + 1, 0, none⟩ (.int .i64 1)).setCell ⟨w.heap.size + 1, 1, none⟩ (.int .i64 0)).setCell ⟨w.heap.size + 1, 2, none⟩ (.int .i64 0)).setCell ⟨w.heap.size + 1, 3, none⟩ (.int .i64 0)).setCell ⟨w.heap.size + 1, 4, none⟩ (.int .i64 0)).setCell ⟨w.heap.size + 1, 5, none⟩ (.int .i64 0)).setCell ⟨w.heap.size + 1, 6, none⟩ (.int .i64 x.k)).setCell ⟨w.heap.size + 1, 7, none⟩ (.bool false)).alloc (.cells #[.int .i64 1, .int .i64 0, .int .i64 0, .int .i64 0, .int .i64 0, .int .i64 0, .int .i64 x.k, .bool false] 104)) m o R ({ x with L := x.L ++ [(0, x.k)], k := x.k + 1 })) := hide (MStep.fin (unhide H) (unhide HO3) (unhide HR3) (unhide HM3) (unhide HK3) z1 z0 ((Kept.setCell (p := ⟨w.heap.size + 1, 7, none⟩) (Kept.setCell (p := ⟨w.heap.size + 1, 6, none⟩) (Kept.setCell (p := ⟨w.heap.size + 1, 5, none⟩) (Kept.setCell (p := ⟨w.heap.size + 1, 4, none⟩) (Kept.setCell (p := ⟨w.heap.size + 1, 3, none⟩) (Kept.setCell (p := ⟨w.heap.size + 1, 2, none⟩) (Kept.setCell (p := ⟨w.heap.size + 1, 1, none⟩) (Kept.setCell (p := ⟨w.heap.size + 1, 0, none⟩) (Kept.refl [w.heap.size + 1] w3) (.inl (List.mem_singleton.2 rfl)) (.int .i64 1)) (.inl (List.mem_singleton.2 rfl)) (.int .i64 0)) (.inl (List.mem_singleton.2 rfl)) (.int .i64 0)) (.inl (List.mem_singleton.2 rfl)) (.int .i64 0)) (.inl (List.mem_singleton.2 rfl)) (.int .i64 0)) (.inl (List.mem_singleton.2 rfl)) (.int .i64 0)) (.inl (List.mem_singleton.2 rfl)) (.int .i64 x.k)) (.inl (List.mem_singleton.2 rfl)) (.bool false)).alloc (.cells #[.int .i64 1, .int .i64 0, .int .i64 0, .int .i64 0, .int .i64 0, .int .i64 0, .int .i64 x.k, .bool false] 104)))
  generalize (((((((((w3.setCell ⟨w.heap.size + 1, 0, none⟩ (.int .i64 1)).setCell ⟨w.heap.size + 1, 1, none⟩ (.int .i64 0)).setCell ⟨w.heap.size + 1, 2, none⟩ (.int .i64 0)).setCell ⟨w.heap.size + 1, 3, none⟩ (.int .i64 0)).setCell ⟨w.heap.size + 1, 4, none⟩ (.int .i64 0)).setCell ⟨w.heap.size + 1, 5, none⟩ (.int .i64 0)).setCell ⟨w.heap.size + 1, 6, none⟩ (.int .i64 x.k)).setCell ⟨w.heap.size + 1, 7, none⟩ (.bool false)).alloc (.cells #[.int .i64 1, .int .i64 0, .int .i64 0, .int .i64 0, .int .i64 0, .int .i64 0, .int .i64 x.k, .bool false] 104)) = wf at HAF HSF ⊢
  obtain ⟨u0, u1, u2, u3, u4, u5, u6, u7⟩ := (unhide HAF).c8.1
  exact bodyPost_ret (v := .tuple #[.agg #[.int .i64 1, .int .i64 0, .int .i64 0, .int .i64 0, .int .i64 0, .int .i64 0, .int .i64 x.k, .bool false], .int .i64 0]) (by simp [results, Tryz.results43, go_sem, u0, u1, u2, u3, u4, u5, u6, u7]) rfl ⟨rfl, unhide HSF⟩

set_option maxHeartbeats 3200000 in
set_option maxRecDepth 8000 in
theorem rhello_in1 {B m : Nat} {o : Option Nat} {R : List Nat} {x : ServM.St} {h : ServM.Hi} {now : Int} (w : World) (h0 : MAt B w m o R x) (hk0 : 0 ≤ x.k) (hk : x.k < 4096) (hL : x.L.length ≤ 8) (hZ : QueueM.offerErr x.L (0, x.k) = 0) (hN : x.N.length ≤ 16) (hE : ¬ SpentM.restErr x.N h.kn h.ku now = 0) (C : Hid (∀ W : World, Calls Tryz.prog 70 #[.agg #[.int .i64 x.ep, .int .i64 x.key, .int .i64 x.old], .agg #[.int .i64 h.a, .int .i64 h.te, .int .i64 h.ta, .int .i64 h.tt, .int .i64 h.tg, .int .i64 h.ke, .int .i64 h.kn, .int .i64 h.ku, .int .i64 h.kg, .string h.s], .int .i64 x.L.length, .int .i64 now, .int .i64 x.life] W fun e w' => e = .returned (.tuple #[.int .i64 1, .bool true, .int .i64 0]) ∧ Below W.heap.size W w')) :
    Calls Tryz.prog 43 #[.pointer (some ⟨m, 0, none⟩), .agg #[.int .i64 h.a, .int .i64 h.te, .int .i64 h.ta, .int .i64 h.tt, .int .i64 h.tg, .int .i64 h.ke, .int .i64 h.kn, .int .i64 h.ku, .int .i64 h.kg, .string h.s], .int .i64 now] w fun e w' => e = .returned (.tuple #[.agg #[.int .i64 1, .int .i64 0, .int .i64 0, .int .i64 0, .int .i64 0, .int .i64 0, .int .i64 x.k, .bool false], .int .i64 0]) ∧ MStep B w w' m o R { x with L := x.L ++ [(0, x.k)], k := x.k + 1 } := by
  have hl := h0.lt
  have H := hide h0
  clear h0
  go_enter Tryz.func43, Tryz.ntmps43
  go_upto_region 1 with fail
  have HM0 : Hid (MAt B ((w.alloc (.cells #[.int .i64 h.a, .int .i64 h.te, .int .i64 h.ta, .int .i64 h.tt, .int .i64 h.tg, .int .i64 h.ke, .int .i64 h.kn, .int .i64 h.ku, .int .i64 h.kg, .string h.s] 73)).alloc (.cells #[.int .i64 0, .int .i64 0, .int .i64 0, .int .i64 0, .int .i64 0, .int .i64 0, .int .i64 0, .bool false] 104)) m o R x) := hide ((unhide H).later (by (repeat' (first | exact Below.refl _ _ | refine Below.alloc ?_ ?_ _ | refine Below.setCell ?_ ?_ _ | refine Below.drew ?_)); all_goals (first | exact Nat.le_refl _ | omega | (simp; done) | (simp; omega))))
  have HH0 : Hid (Held ((w.alloc (.cells #[.int .i64 h.a, .int .i64 h.te, .int .i64 h.ta, .int .i64 h.tt, .int .i64 h.tg, .int .i64 h.ke, .int .i64 h.kn, .int .i64 h.ku, .int .i64 h.kg, .string h.s] 73)).alloc (.cells #[.int .i64 0, .int .i64 0, .int .i64 0, .int .i64 0, .int .i64 0, .int .i64 0, .int .i64 0, .bool false] 104)) w.heap.size (nh h.a h.te h.ta h.tt h.tg h.ke h.kn h.ku h.kg h.s)) := hide ((Held.fresh (w := w) (nh h.a h.te h.ta h.tt h.tg h.ke h.kn h.ku h.kg h.s) 73 rfl).later (Below.alloc (Below.refl _ _) (Nat.le_refl _) _))
  have HA0 : Hid (Held ((w.alloc (.cells #[.int .i64 h.a, .int .i64 h.te, .int .i64 h.ta, .int .i64 h.tt, .int .i64 h.tg, .int .i64 h.ke, .int .i64 h.kn, .int .i64 h.ku, .int .i64 h.kg, .string h.s] 73)).alloc (.cells #[.int .i64 0, .int .i64 0, .int .i64 0, .int .i64 0, .int .i64 0, .int .i64 0, .int .i64 0, .bool false] 104)) (w.heap.size + 1) (na 0 0 0 0 0 0 false)) := hide (Held.fresh (w := w.alloc (.cells #[.int .i64 h.a, .int .i64 h.te, .int .i64 h.ta, .int .i64 h.tt, .int .i64 h.tg, .int .i64 h.ke, .int .i64 h.kn, .int .i64 h.ku, .int .i64 h.kg, .string h.s] 73)) (na 0 0 0 0 0 0 false) 104 (by simp))
  have HB0 : Hid (Below w.heap.size w ((w.alloc (.cells #[.int .i64 h.a, .int .i64 h.te, .int .i64 h.ta, .int .i64 h.tt, .int .i64 h.tg, .int .i64 h.ke, .int .i64 h.kn, .int .i64 h.ku, .int .i64 h.kg, .string h.s] 73)).alloc (.cells #[.int .i64 0, .int .i64 0, .int .i64 0, .int .i64 0, .int .i64 0, .int .i64 0, .int .i64 0, .bool false] 104))) := hide (by (repeat' (first | exact Below.refl _ _ | refine Below.alloc ?_ ?_ _ | refine Below.setCell ?_ ?_ _ | refine Below.drew ?_)); all_goals (first | exact Nat.le_refl _ | omega | (simp; done) | (simp; omega)))
  generalize ((w.alloc (.cells #[.int .i64 h.a, .int .i64 h.te, .int .i64 h.ta, .int .i64 h.tt, .int .i64 h.tg, .int .i64 h.ke, .int .i64 h.kn, .int .i64 h.ku, .int .i64 h.kg, .string h.s] 73)).alloc (.cells #[.int .i64 0, .int .i64 0, .int .i64 0, .int .i64 0, .int .i64 0, .int .i64 0, .int .i64 0, .bool false] 104)) = w0 at HM0 HH0 HA0 HB0 ⊢
  obtain ⟨q0, q1, q2, q3, q9, qf, ql⟩ := (unhide HM0).nums
  obtain ⟨wa, wc, q4, -⟩ := (unhide HM0).wait
  obtain ⟨h0, h1, h2, h3, h4, h5, h6, h7, h8, h9⟩ := (unhide HH0).c10.1
  have hhl := (unhide HH0).2
  generalize x.L.length = ln at q4 C
  have RS : Hid (∀ W : World, Below w0.heap.size w0 W → Hid (Below w0.heap.size w0 W) ∧ W.cell? ⟨m, 0, none⟩ = some (.int .i64 x.ep) ∧ W.cell? ⟨m, 1, none⟩ = some (.int .i64 x.key) ∧ W.cell? ⟨m, 2, none⟩ = some (.int .i64 x.old) ∧ W.cell? ⟨m, 3, none⟩ = some (.int .i64 x.life) ∧ W.cell? ⟨m, 4, none⟩ = some (.slice wa ln wc) ∧ W.cell? ⟨w.heap.size, 0, none⟩ = some (.int .i64 h.a) ∧ W.cell? ⟨w.heap.size, 1, none⟩ = some (.int .i64 h.te) ∧ W.cell? ⟨w.heap.size, 2, none⟩ = some (.int .i64 h.ta) ∧ W.cell? ⟨w.heap.size, 3, none⟩ = some (.int .i64 h.tt) ∧ W.cell? ⟨w.heap.size, 4, none⟩ = some (.int .i64 h.tg) ∧ W.cell? ⟨w.heap.size, 5, none⟩ = some (.int .i64 h.ke) ∧ W.cell? ⟨w.heap.size, 6, none⟩ = some (.int .i64 h.kn) ∧ W.cell? ⟨w.heap.size, 7, none⟩ = some (.int .i64 h.ku) ∧ W.cell? ⟨w.heap.size, 8, none⟩ = some (.int .i64 h.kg) ∧ W.cell? ⟨w.heap.size, 9, none⟩ = some (.string h.s)) := hide (fun W hW => ⟨hide hW, cell_later hW q0, cell_later hW q1, cell_later hW q2, cell_later hW q3, cell_later hW q4, cell_later hW h0, cell_later hW h1, cell_later hW h2, cell_later hW h3, cell_later hW h4, cell_later hW h5, cell_later hW h6, cell_later hW h7, cell_later hW h8, cell_later hW h9⟩)
  go_region_held3 (fun w' => Hid (Below w0.heap.size w0 w') ∧ w'.cell? ⟨m, 0, none⟩ = some (.int .i64 x.ep) ∧ w'.cell? ⟨m, 1, none⟩ = some (.int .i64 x.key) ∧ w'.cell? ⟨m, 2, none⟩ = some (.int .i64 x.old) ∧ w'.cell? ⟨m, 3, none⟩ = some (.int .i64 x.life) ∧ w'.cell? ⟨m, 4, none⟩ = some (.slice wa ln wc) ∧ w'.cell? ⟨w.heap.size, 0, none⟩ = some (.int .i64 h.a) ∧ w'.cell? ⟨w.heap.size, 1, none⟩ = some (.int .i64 h.te) ∧ w'.cell? ⟨w.heap.size, 2, none⟩ = some (.int .i64 h.ta) ∧ w'.cell? ⟨w.heap.size, 3, none⟩ = some (.int .i64 h.tt) ∧ w'.cell? ⟨w.heap.size, 4, none⟩ = some (.int .i64 h.tg) ∧ w'.cell? ⟨w.heap.size, 5, none⟩ = some (.int .i64 h.ke) ∧ w'.cell? ⟨w.heap.size, 6, none⟩ = some (.int .i64 h.kn) ∧ w'.cell? ⟨w.heap.size, 7, none⟩ = some (.int .i64 h.ku) ∧ w'.cell? ⟨w.heap.size, 8, none⟩ = some (.int .i64 h.kg) ∧ w'.cell? ⟨w.heap.size, 9, none⟩ = some (.string h.s)) (first | exact unhide RS _ (Below.trans (unhide (And.left ‹Hid (Below w0.heap.size w0 _) ∧ _›)) (hbA.mono (unhide (And.left ‹Hid (Below w0.heap.size w0 _) ∧ _›)).size)) | exact unhide RS _ (Below.refl _ _).drew | exact unhide RS _ (unhide (And.left ‹Hid (Below w0.heap.size w0 _) ∧ _›)).drew)
    (first | (go_at_call 70; refine (unhide C _).mono ?_; rintro e wA ⟨rfl, hbA⟩))
  have hbx := unhide (And.left ‹Hid (Below w0.heap.size w0 _) ∧ _›)
  clear RS q0 q1 q2 q3 q4 q9 qf ql h0 h1 h2 h3 h4 h5 h6 h7 h8 h9 hhl
  have HM1 := hide ((unhide HM0).later hbx)
  have HH1 := hide ((unhide HH0).later hbx)
  have HA1 := hide ((unhide HA0).later hbx)
  have HB1 := hide (bel3 (unhide HB0) (Below.refl _ _) hbx)
  have HOUT := hide (unhide H).out
  have z0 : w.heap.size + 1 < w0.heap.size := (unhide HA0).2
  have y0 := hbx.size
  clear hbx HM0 HH0 HA0 HB0
  generalize wA = w1 at HM1 HH1 HA1 HB1 y0 ⊢
  obtain ⟨q0, q1, q2, q3, q9, qf, ql⟩ := (unhide HM1).nums
  have qf9 := qf 9
  clear qf
  go_upto_region 13 with fail
  have HM2 : Hid (MAt B ((w1.setCell ⟨m, 9, none⟩ (.int .i64 (x.k + 1))).alloc (.cells #[.int .i64 0, .int .i64 x.k] 78)) m o R { x with k := x.k + 1 }) := hide (((unhide HM1).set (y := { x with k := x.k + 1 }) (fun _ _ _ _ _ _ _ => rfl) rfl rfl rfl).later (Below.alloc (Below.refl _ _) (Nat.le_refl _) _))
  have HK2 : Hid (Kept (m :: o.toList) w ((w1.setCell ⟨m, 9, none⟩ (.int .i64 (x.k + 1))).alloc (.cells #[.int .i64 0, .int .i64 x.k] 78))) := hide ((Kept.setCell (p := ⟨m, 9, none⟩) (Kept.of (unhide HB1)) (.inl (List.mem_cons_self ..)) _).alloc _)
  have HH2 : Hid (Held ((w1.setCell ⟨m, 9, none⟩ (.int .i64 (x.k + 1))).alloc (.cells #[.int .i64 0, .int .i64 x.k] 78)) w.heap.size (nh h.a h.te h.ta h.tt h.tg h.ke h.kn h.ku h.kg h.s)) := hide (((unhide HH1).far (c := m) (by omega) 9 _).alloc _)
  have HA2 : Hid (Held ((w1.setCell ⟨m, 9, none⟩ (.int .i64 (x.k + 1))).alloc (.cells #[.int .i64 0, .int .i64 x.k] 78)) (w.heap.size + 1) (na 0 0 0 0 0 0 false)) := hide (((unhide HA1).far (c := m) (by omega) 9 _).alloc _)
  have HC2 : Hid (Held ((w1.setCell ⟨m, 9, none⟩ (.int .i64 (x.k + 1))).alloc (.cells #[.int .i64 0, .int .i64 x.k] 78)) w1.heap.size [.int .i64 0, .int .i64 x.k]) := hide (Held.fresh (w := (w1.setCell ⟨m, 9, none⟩ (.int .i64 (x.k + 1)))) [.int .i64 0, .int .i64 x.k] 78 (by simp))
  clear q0 q1 q2 q3 q9 qf9 ql HM1 HH1 HA1
  have y1 : w0.heap.size ≤ w1.heap.size := y0
  generalize ((w1.setCell ⟨m, 9, none⟩ (.int .i64 (x.k + 1))).alloc (.cells #[.int .i64 0, .int .i64 x.k] 78)) = w2 at HM2 HK2 HH2 HA2 HC2 ⊢
  have y2 : w1.heap.size < w2.heap.size := (unhide HC2).2
  obtain ⟨d0, d1⟩ := (unhide HC2).c2.1
  have dl := (unhide HM2).lt
  have RS : Hid (∀ W : World, Kept (m :: o.toList) w2 W → Hid (Kept (m :: o.toList) w2 W) ∧ W.cell? ⟨w1.heap.size, 0, none⟩ = some (.int .i64 0) ∧ W.cell? ⟨w1.heap.size, 1, none⟩ = some (.int .i64 x.k)) := hide (fun W hk => ⟨hide hk, (hk.held (unhide HC2) (unhide HOUT _ (by omega))).c2.1.1, (hk.held (unhide HC2) (unhide HOUT _ (by omega))).c2.1.2⟩)
  have CO := hide (fun W (h : MAt B W m o R { x with k := x.k + 1 }) (hB' : B ≤ W.heap.size) => roffer_in 0 x.k W h hL hB' hZ)
  have hB2 : B ≤ w2.heap.size := by have := (unhide HM2).1; omega
  go_region_held3 (fun w' => Hid (Kept (m :: o.toList) w2 w') ∧ w'.cell? ⟨w1.heap.size, 0, none⟩ = some (.int .i64 0) ∧ w'.cell? ⟨w1.heap.size, 1, none⟩ = some (.int .i64 x.k))
    (exact unhide RS _ (by repeat' (first | exact Kept.refl _ _ | exact unhide (And.left ‹Hid (Kept (m :: o.toList) w2 _) ∧ _›) | exact Kept.trans (unhide (And.left ‹Hid (Kept (m :: o.toList) w2 _) ∧ _›)) hk3 | exact Kept.trans (Kept.refl _ _).drew hk3 | exact hk3 | refine Kept.drew ?_)))
    (first | (go_at_call 71; refine (unhide CO _ (by first | exact unhide HM2 | exact (unhide HM2).later (below_drew (Below.refl _ _))) (by first | exact hB2 | exact Nat.le_trans hB2 (below_drew (Below.refl _ _)).size)).mono ?_; rintro e w3 ⟨rfl, hs3⟩; have hk3 := hs3; obtain ⟨o3, R3, hm3, ho3, hr3, hk3⟩ := hk3))
  have hkx := unhide (And.left ‹Hid (Kept (m :: o.toList) w2 _) ∧ _›)
  have y3 : w2.heap.size ≤ w3.heap.size := hkx.size
  have HK3 := hide ((unhide HK2).trans hkx)
  have HM3 : Hid (MAt B w3 m o3 R3 { x with L := x.L ++ [(0, x.k)], k := x.k + 1 }) := hide hm3
  have HO3 : Hid (∀ k, o3 = some k → o = some k ∨ w0.heap.size ≤ k) := hide (fun k hk => (ho3 k hk).imp_right (fun q => Nat.le_trans (show w0.heap.size ≤ w2.heap.size by omega) q))
  have HR3 : Hid (∀ g, g ∈ R3 → g ∈ R ∨ w0.heap.size ≤ g) := hide (fun g hg => (hr3 g hg).imp_right (fun q => Nat.le_trans (show w0.heap.size ≤ w2.heap.size by omega) q))
  have HH3 := hide (hkx.held (unhide HH2) (unhide HOUT _ (Nat.le_refl _)))
  have HA3 := hide (hkx.held (unhide HA2) (unhide HOUT _ (by omega)))
  have HC3 := hide (hkx.held (unhide HC2) (unhide HOUT _ (by omega)))
  clear hs3 hm3 ho3 hr3 hk3 hkx HM2 HK2 HH2 HA2 HC2 RS CO d0 d1 dl hB2
  have z1 : w.heap.size ≤ w.heap.size + 1 := by omega
  obtain ⟨d0, d1⟩ := (unhide HC3).c2.1
  have dl := (unhide HC3).2
  go_upto_region 16 with fail
  have HM4 : Hid (MAt B (w3.alloc (.cells #[.int .i64 1, .int .i64 0, .int .i64 0, .int .i64 0, .int .i64 0, .int .i64 0, .int .i64 x.k, .bool false] 104)) m o3 R3 { x with L := x.L ++ [(0, x.k)], k := x.k + 1 }) := hide ((unhide HM3).later (Below.alloc (Below.refl _ _) (Nat.le_refl _) _))
  have HK4 : Hid (Kept (m :: o.toList) w (w3.alloc (.cells #[.int .i64 1, .int .i64 0, .int .i64 0, .int .i64 0, .int .i64 0, .int .i64 0, .int .i64 x.k, .bool false] 104))) := hide ((unhide HK3).alloc _)
  have HH4 : Hid (Held (w3.alloc (.cells #[.int .i64 1, .int .i64 0, .int .i64 0, .int .i64 0, .int .i64 0, .int .i64 0, .int .i64 x.k, .bool false] 104)) w.heap.size (nh h.a h.te h.ta h.tt h.tg h.ke h.kn h.ku h.kg h.s)) := hide ((unhide HH3).alloc _)
  have HA4 : Hid (Held (w3.alloc (.cells #[.int .i64 1, .int .i64 0, .int .i64 0, .int .i64 0, .int .i64 0, .int .i64 0, .int .i64 x.k, .bool false] 104)) (w.heap.size + 1) (na 0 0 0 0 0 0 false)) := hide ((unhide HA3).alloc _)
  have HX4 : Hid (Held (w3.alloc (.cells #[.int .i64 1, .int .i64 0, .int .i64 0, .int .i64 0, .int .i64 0, .int .i64 0, .int .i64 x.k, .bool false] 104)) w3.heap.size (na 1 0 0 0 0 x.k false)) := hide (Held.fresh (w := w3) (na 1 0 0 0 0 x.k false) 104 rfl)
  clear d0 d1 dl HC3 HH3 HA3
  generalize (w3.alloc (.cells #[.int .i64 1, .int .i64 0, .int .i64 0, .int .i64 0, .int .i64 0, .int .i64 0, .int .i64 x.k, .bool false] 104)) = w4 at HM4 HK4 HH4 HA4 HX4 ⊢
  have y4 : w3.heap.size < w4.heap.size := (unhide HX4).2
  have hm4 := unhide HM4
  obtain ⟨-, sv, a1, n1, c1, a2, n2, c2, -, k2, -, p1, -, -, -, -⟩ := hm4
  have q7 : w4.cell? ⟨m, 7, none⟩ = some (.slice a1 n1 c1) := by rw [Go.Lib.cell_of_heap k2]; rfl
  have CS := hide (fun W (hW : Below w4.heap.size w4 W) => ref_spend_new h.kn h.ku now W (by rw [← p1.1]; exact hN) (PRow.later p1 hW))
  clear k2 p1
  change Hid (∀ W : World, Below w4.heap.size w4 W → Calls _ _ _ _ fun e w' => ∃ a' n' cap', e = .returned (.tuple #[.slice a' n' cap', .int .i64 (SpentM.restErr x.N h.kn h.ku now)]) ∧ PRow w' a' n' cap' (SpentM.told (SpentM.restErr x.N h.kn h.ku now) (SpentM.left x.N now ++ [(h.kn, h.ku)])) ∧ _) at CS
  generalize SpentM.restErr x.N h.kn h.ku now = E at CS hE
  have hE' := beq_no hE
  obtain ⟨h0, h1, h2, h3, h4, h5, h6, h7, h8, h9⟩ := (unhide HH4).c10.1
  have hml := (unhide HM4).lt
  have hhl := (unhide HH4).2
  have RS : Hid (∀ W : World, Below w4.heap.size w4 W → Hid (Below w4.heap.size w4 W) ∧ W.cell? ⟨m, 7, none⟩ = some (.slice a1 n1 c1) ∧ W.cell? ⟨w.heap.size, 6, none⟩ = some (.int .i64 h.kn) ∧ W.cell? ⟨w.heap.size, 7, none⟩ = some (.int .i64 h.ku)) := hide (fun W hW => ⟨hide hW, cell_later hW q7, cell_later hW h6, cell_later hW h7⟩)
  go_region_held3 (fun w' => Hid (Below w4.heap.size w4 w') ∧ w'.cell? ⟨m, 7, none⟩ = some (.slice a1 n1 c1) ∧ w'.cell? ⟨w.heap.size, 6, none⟩ = some (.int .i64 h.kn) ∧ w'.cell? ⟨w.heap.size, 7, none⟩ = some (.int .i64 h.ku))
    (first | exact unhide RS _ (Below.trans (unhide (And.left ‹Hid (Below w4.heap.size w4 _) ∧ _›)) (hb5.mono (unhide (And.left ‹Hid (Below w4.heap.size w4 _) ∧ _›)).size)) | exact unhide RS _ (below_drew (Below.refl _ _)) | exact unhide RS _ (below_drew (unhide (And.left ‹Hid (Below w4.heap.size w4 _) ∧ _›))))
    (first | (go_at_call 72; refine (unhide CS _ (unhide (And.left ‹Hid (Below w4.heap.size w4 _) ∧ _›))).mono ?_; rintro e w5 ⟨sa, sn, sc, rfl, hsp, hsn, hb5⟩; have HSP := hide hsp; have HSN := hide hsn; clear hsp hsn))
  have hbx := unhide (And.left ‹Hid (Below w4.heap.size w4 w5) ∧ _›)
  have y5 : w4.heap.size ≤ w5.heap.size := hbx.size
  have HM5 := hide ((unhide HM4).later hbx)
  have HK5 := hide ((unhide HK4).trans (Kept.of hbx))
  have HA5 := hide ((unhide HA4).later hbx)
  have HX5 := hide ((unhide HX4).later hbx)
  clear HM4 HK4 HA4 HH4 HX4 RS CS q7 hbx h0 h1 h2 h3 h4 h5 h6 h7 h8 h9 hml hhl
  obtain ⟨t0, t1, t2, t3, t4, t5, t6, t7⟩ := (unhide HX5).c8.1
  have tf := (unhide HX5).c8.2
  have tl := (unhide HX5).2
  obtain ⟨⟨u0, u1, u2, u3, u4, u5, u6, u7⟩, ⟨v0, v1, v2, v3, v4, v5, v6, v7⟩⟩ := (unhide HA5).c8
  have ul := (unhide HA5).2
  go_wp2
  have hres : w.heap.size ≤ w.heap.size + 1 := by omega
  have HAF : Hid (Held ((((((((w5.setCell ⟨w.heap.size + 1, 0, none⟩ (.int .i64 1)).setCell ⟨w.heap.size + 1, 1, none⟩ (.int .i64 0)).setCell ⟨w.heap.size + 1, 2, none⟩ (.int .i64 0)).setCell ⟨w.heap.size + 1, 3, none⟩ (.int .i64 0)).setCell ⟨w.heap.size + 1, 4, none⟩ (.int .i64 0)).setCell ⟨w.heap.size + 1, 5, none⟩ (.int .i64 0)).setCell ⟨w.heap.size + 1, 6, none⟩ (.int .i64 x.k)).setCell ⟨w.heap.size + 1, 7, none⟩ (.bool false)) (w.heap.size + 1) (na 1 0 0 0 0 x.k false)) := hide (((((((((unhide HA5).put 0 (.int .i64 1)).put 1 (.int .i64 0)).put 2 (.int .i64 0)).put 3 (.int .i64 0)).put 4 (.int .i64 0)).put 5 (.int .i64 0)).put 6 (.int .i64 x.k)).put 7 (.bool false))
  have HSF : Hid (MStep B w ((((((((w5.setCell ⟨w.heap.size + 1, 0, none⟩ (.int .i64 1)).setCell ⟨w.heap.size + 1, 1, none⟩ (.int .i64 0)).setCell ⟨w.heap.size + 1, 2, none⟩ (.int .i64 0)).setCell ⟨w.heap.size + 1, 3, none⟩ (.int .i64 0)).setCell ⟨w.heap.size + 1, 4, none⟩ (.int .i64 0)).setCell ⟨w.heap.size + 1, 5, none⟩ (.int .i64 0)).setCell ⟨w.heap.size + 1, 6, none⟩ (.int .i64 x.k)).setCell ⟨w.heap.size + 1, 7, none⟩ (.bool false)) m o R ({ x with L := x.L ++ [(0, x.k)], k := x.k + 1 })) := hide (MStep.fin (unhide H) (unhide HO3) (unhide HR3) (unhide HM5) (unhide HK5) z1 z0 (Kept.setCell (p := ⟨w.heap.size + 1, 7, none⟩) (Kept.setCell (p := ⟨w.heap.size + 1, 6, none⟩) (Kept.setCell (p := ⟨w.heap.size + 1, 5, none⟩) (Kept.setCell (p := ⟨w.heap.size + 1, 4, none⟩) (Kept.setCell (p := ⟨w.heap.size + 1, 3, none⟩) (Kept.setCell (p := ⟨w.heap.size + 1, 2, none⟩) (Kept.setCell (p := ⟨w.heap.size + 1, 1, none⟩) (Kept.setCell (p := ⟨w.heap.size + 1, 0, none⟩) (Kept.refl [w.heap.size + 1] w5) (.inl (List.mem_singleton.2 rfl)) (.int .i64 1)) (.inl (List.mem_singleton.2 rfl)) (.int .i64 0)) (.inl (List.mem_singleton.2 rfl)) (.int .i64 0)) (.inl (List.mem_singleton.2 rfl)) (.int .i64 0)) (.inl (List.mem_singleton.2 rfl)) (.int .i64 0)) (.inl (List.mem_singleton.2 rfl)) (.int .i64 0)) (.inl (List.mem_singleton.2 rfl)) (.int .i64 x.k)) (.inl (List.mem_singleton.2 rfl)) (.bool false)))
  generalize ((((((((w5.setCell ⟨w.heap.size + 1, 0, none⟩ (.int .i64 1)).setCell ⟨w.heap.size + 1, 1, none⟩ (.int .i64 0)).setCell ⟨w.heap.size + 1, 2, none⟩ (.int .i64 0)).setCell ⟨w.heap.size + 1, 3, none⟩ (.int .i64 0)).setCell ⟨w.heap.size + 1, 4, none⟩ (.int .i64 0)).setCell ⟨w.heap.size + 1, 5, none⟩ (.int .i64 0)).setCell ⟨w.heap.size + 1, 6, none⟩ (.int .i64 x.k)).setCell ⟨w.heap.size + 1, 7, none⟩ (.bool false)) = wf at HAF HSF ⊢
  obtain ⟨u0, u1, u2, u3, u4, u5, u6, u7⟩ := (unhide HAF).c8.1
  exact bodyPost_ret (v := .tuple #[.agg #[.int .i64 1, .int .i64 0, .int .i64 0, .int .i64 0, .int .i64 0, .int .i64 0, .int .i64 x.k, .bool false], .int .i64 0]) (by simp [results, Tryz.results43, go_sem, u0, u1, u2, u3, u4, u5, u6, u7]) rfl ⟨rfl, unhide HSF⟩

set_option maxHeartbeats 3200000 in
set_option maxRecDepth 8000 in
theorem rhello_in2 {B m : Nat} {o : Option Nat} {R : List Nat} {x : ServM.St} {h : ServM.Hi} {now : Int} (w : World) (h0 : MAt B w m o R x) (hk0 : 0 ≤ x.k) (hk : x.k < 4096) (hL : x.L.length ≤ 8) (hZ : QueueM.offerErr x.L (0, x.k) = 0) (hN : x.N.length ≤ 16) (hE : SpentM.restErr x.N h.kn h.ku now = 0) (C : Hid (∀ W : World, Calls Tryz.prog 70 #[.agg #[.int .i64 x.ep, .int .i64 x.key, .int .i64 x.old], .agg #[.int .i64 h.a, .int .i64 h.te, .int .i64 h.ta, .int .i64 h.tt, .int .i64 h.tg, .int .i64 h.ke, .int .i64 h.kn, .int .i64 h.ku, .int .i64 h.kg, .string h.s], .int .i64 x.L.length, .int .i64 now, .int .i64 x.life] W fun e w' => e = .returned (.tuple #[.int .i64 1, .bool true, .int .i64 0]) ∧ Below W.heap.size W w')) :
    Calls Tryz.prog 43 #[.pointer (some ⟨m, 0, none⟩), .agg #[.int .i64 h.a, .int .i64 h.te, .int .i64 h.ta, .int .i64 h.tt, .int .i64 h.tg, .int .i64 h.ke, .int .i64 h.kn, .int .i64 h.ku, .int .i64 h.kg, .string h.s], .int .i64 now] w fun e w' => e = .returned (.tuple #[.agg #[.int .i64 1, .int .i64 0, .int .i64 0, .int .i64 0, .int .i64 0, .int .i64 0, .int .i64 x.k, .bool true], .int .i64 0]) ∧ MStep B w w' m o R { x with L := x.L ++ [(0, x.k)], k := x.k + 1, N := SpentM.left x.N now ++ [(h.kn, h.ku)], K := SpentM.left x.N now ++ [(h.kn, h.ku)] } := by
  have hl := h0.lt
  have H := hide h0
  clear h0
  go_enter Tryz.func43, Tryz.ntmps43
  go_upto_region 1 with fail
  have HM0 : Hid (MAt B ((w.alloc (.cells #[.int .i64 h.a, .int .i64 h.te, .int .i64 h.ta, .int .i64 h.tt, .int .i64 h.tg, .int .i64 h.ke, .int .i64 h.kn, .int .i64 h.ku, .int .i64 h.kg, .string h.s] 73)).alloc (.cells #[.int .i64 0, .int .i64 0, .int .i64 0, .int .i64 0, .int .i64 0, .int .i64 0, .int .i64 0, .bool false] 104)) m o R x) := hide ((unhide H).later (by (repeat' (first | exact Below.refl _ _ | refine Below.alloc ?_ ?_ _ | refine Below.setCell ?_ ?_ _ | refine Below.drew ?_)); all_goals (first | exact Nat.le_refl _ | omega | (simp; done) | (simp; omega))))
  have HH0 : Hid (Held ((w.alloc (.cells #[.int .i64 h.a, .int .i64 h.te, .int .i64 h.ta, .int .i64 h.tt, .int .i64 h.tg, .int .i64 h.ke, .int .i64 h.kn, .int .i64 h.ku, .int .i64 h.kg, .string h.s] 73)).alloc (.cells #[.int .i64 0, .int .i64 0, .int .i64 0, .int .i64 0, .int .i64 0, .int .i64 0, .int .i64 0, .bool false] 104)) w.heap.size (nh h.a h.te h.ta h.tt h.tg h.ke h.kn h.ku h.kg h.s)) := hide ((Held.fresh (w := w) (nh h.a h.te h.ta h.tt h.tg h.ke h.kn h.ku h.kg h.s) 73 rfl).later (Below.alloc (Below.refl _ _) (Nat.le_refl _) _))
  have HA0 : Hid (Held ((w.alloc (.cells #[.int .i64 h.a, .int .i64 h.te, .int .i64 h.ta, .int .i64 h.tt, .int .i64 h.tg, .int .i64 h.ke, .int .i64 h.kn, .int .i64 h.ku, .int .i64 h.kg, .string h.s] 73)).alloc (.cells #[.int .i64 0, .int .i64 0, .int .i64 0, .int .i64 0, .int .i64 0, .int .i64 0, .int .i64 0, .bool false] 104)) (w.heap.size + 1) (na 0 0 0 0 0 0 false)) := hide (Held.fresh (w := w.alloc (.cells #[.int .i64 h.a, .int .i64 h.te, .int .i64 h.ta, .int .i64 h.tt, .int .i64 h.tg, .int .i64 h.ke, .int .i64 h.kn, .int .i64 h.ku, .int .i64 h.kg, .string h.s] 73)) (na 0 0 0 0 0 0 false) 104 (by simp))
  have HB0 : Hid (Below w.heap.size w ((w.alloc (.cells #[.int .i64 h.a, .int .i64 h.te, .int .i64 h.ta, .int .i64 h.tt, .int .i64 h.tg, .int .i64 h.ke, .int .i64 h.kn, .int .i64 h.ku, .int .i64 h.kg, .string h.s] 73)).alloc (.cells #[.int .i64 0, .int .i64 0, .int .i64 0, .int .i64 0, .int .i64 0, .int .i64 0, .int .i64 0, .bool false] 104))) := hide (by (repeat' (first | exact Below.refl _ _ | refine Below.alloc ?_ ?_ _ | refine Below.setCell ?_ ?_ _ | refine Below.drew ?_)); all_goals (first | exact Nat.le_refl _ | omega | (simp; done) | (simp; omega)))
  generalize ((w.alloc (.cells #[.int .i64 h.a, .int .i64 h.te, .int .i64 h.ta, .int .i64 h.tt, .int .i64 h.tg, .int .i64 h.ke, .int .i64 h.kn, .int .i64 h.ku, .int .i64 h.kg, .string h.s] 73)).alloc (.cells #[.int .i64 0, .int .i64 0, .int .i64 0, .int .i64 0, .int .i64 0, .int .i64 0, .int .i64 0, .bool false] 104)) = w0 at HM0 HH0 HA0 HB0 ⊢
  obtain ⟨q0, q1, q2, q3, q9, qf, ql⟩ := (unhide HM0).nums
  obtain ⟨wa, wc, q4, -⟩ := (unhide HM0).wait
  obtain ⟨h0, h1, h2, h3, h4, h5, h6, h7, h8, h9⟩ := (unhide HH0).c10.1
  have hhl := (unhide HH0).2
  generalize x.L.length = ln at q4 C
  have RS : Hid (∀ W : World, Below w0.heap.size w0 W → Hid (Below w0.heap.size w0 W) ∧ W.cell? ⟨m, 0, none⟩ = some (.int .i64 x.ep) ∧ W.cell? ⟨m, 1, none⟩ = some (.int .i64 x.key) ∧ W.cell? ⟨m, 2, none⟩ = some (.int .i64 x.old) ∧ W.cell? ⟨m, 3, none⟩ = some (.int .i64 x.life) ∧ W.cell? ⟨m, 4, none⟩ = some (.slice wa ln wc) ∧ W.cell? ⟨w.heap.size, 0, none⟩ = some (.int .i64 h.a) ∧ W.cell? ⟨w.heap.size, 1, none⟩ = some (.int .i64 h.te) ∧ W.cell? ⟨w.heap.size, 2, none⟩ = some (.int .i64 h.ta) ∧ W.cell? ⟨w.heap.size, 3, none⟩ = some (.int .i64 h.tt) ∧ W.cell? ⟨w.heap.size, 4, none⟩ = some (.int .i64 h.tg) ∧ W.cell? ⟨w.heap.size, 5, none⟩ = some (.int .i64 h.ke) ∧ W.cell? ⟨w.heap.size, 6, none⟩ = some (.int .i64 h.kn) ∧ W.cell? ⟨w.heap.size, 7, none⟩ = some (.int .i64 h.ku) ∧ W.cell? ⟨w.heap.size, 8, none⟩ = some (.int .i64 h.kg) ∧ W.cell? ⟨w.heap.size, 9, none⟩ = some (.string h.s)) := hide (fun W hW => ⟨hide hW, cell_later hW q0, cell_later hW q1, cell_later hW q2, cell_later hW q3, cell_later hW q4, cell_later hW h0, cell_later hW h1, cell_later hW h2, cell_later hW h3, cell_later hW h4, cell_later hW h5, cell_later hW h6, cell_later hW h7, cell_later hW h8, cell_later hW h9⟩)
  go_region_held3 (fun w' => Hid (Below w0.heap.size w0 w') ∧ w'.cell? ⟨m, 0, none⟩ = some (.int .i64 x.ep) ∧ w'.cell? ⟨m, 1, none⟩ = some (.int .i64 x.key) ∧ w'.cell? ⟨m, 2, none⟩ = some (.int .i64 x.old) ∧ w'.cell? ⟨m, 3, none⟩ = some (.int .i64 x.life) ∧ w'.cell? ⟨m, 4, none⟩ = some (.slice wa ln wc) ∧ w'.cell? ⟨w.heap.size, 0, none⟩ = some (.int .i64 h.a) ∧ w'.cell? ⟨w.heap.size, 1, none⟩ = some (.int .i64 h.te) ∧ w'.cell? ⟨w.heap.size, 2, none⟩ = some (.int .i64 h.ta) ∧ w'.cell? ⟨w.heap.size, 3, none⟩ = some (.int .i64 h.tt) ∧ w'.cell? ⟨w.heap.size, 4, none⟩ = some (.int .i64 h.tg) ∧ w'.cell? ⟨w.heap.size, 5, none⟩ = some (.int .i64 h.ke) ∧ w'.cell? ⟨w.heap.size, 6, none⟩ = some (.int .i64 h.kn) ∧ w'.cell? ⟨w.heap.size, 7, none⟩ = some (.int .i64 h.ku) ∧ w'.cell? ⟨w.heap.size, 8, none⟩ = some (.int .i64 h.kg) ∧ w'.cell? ⟨w.heap.size, 9, none⟩ = some (.string h.s)) (first | exact unhide RS _ (Below.trans (unhide (And.left ‹Hid (Below w0.heap.size w0 _) ∧ _›)) (hbA.mono (unhide (And.left ‹Hid (Below w0.heap.size w0 _) ∧ _›)).size)) | exact unhide RS _ (Below.refl _ _).drew | exact unhide RS _ (unhide (And.left ‹Hid (Below w0.heap.size w0 _) ∧ _›)).drew)
    (first | (go_at_call 70; refine (unhide C _).mono ?_; rintro e wA ⟨rfl, hbA⟩))
  have hbx := unhide (And.left ‹Hid (Below w0.heap.size w0 _) ∧ _›)
  clear RS q0 q1 q2 q3 q4 q9 qf ql h0 h1 h2 h3 h4 h5 h6 h7 h8 h9 hhl
  have HM1 := hide ((unhide HM0).later hbx)
  have HH1 := hide ((unhide HH0).later hbx)
  have HA1 := hide ((unhide HA0).later hbx)
  have HB1 := hide (bel3 (unhide HB0) (Below.refl _ _) hbx)
  have HOUT := hide (unhide H).out
  have z0 : w.heap.size + 1 < w0.heap.size := (unhide HA0).2
  have y0 := hbx.size
  clear hbx HM0 HH0 HA0 HB0
  generalize wA = w1 at HM1 HH1 HA1 HB1 y0 ⊢
  obtain ⟨q0, q1, q2, q3, q9, qf, ql⟩ := (unhide HM1).nums
  have qf9 := qf 9
  clear qf
  go_upto_region 13 with fail
  have HM2 : Hid (MAt B ((w1.setCell ⟨m, 9, none⟩ (.int .i64 (x.k + 1))).alloc (.cells #[.int .i64 0, .int .i64 x.k] 78)) m o R { x with k := x.k + 1 }) := hide (((unhide HM1).set (y := { x with k := x.k + 1 }) (fun _ _ _ _ _ _ _ => rfl) rfl rfl rfl).later (Below.alloc (Below.refl _ _) (Nat.le_refl _) _))
  have HK2 : Hid (Kept (m :: o.toList) w ((w1.setCell ⟨m, 9, none⟩ (.int .i64 (x.k + 1))).alloc (.cells #[.int .i64 0, .int .i64 x.k] 78))) := hide ((Kept.setCell (p := ⟨m, 9, none⟩) (Kept.of (unhide HB1)) (.inl (List.mem_cons_self ..)) _).alloc _)
  have HH2 : Hid (Held ((w1.setCell ⟨m, 9, none⟩ (.int .i64 (x.k + 1))).alloc (.cells #[.int .i64 0, .int .i64 x.k] 78)) w.heap.size (nh h.a h.te h.ta h.tt h.tg h.ke h.kn h.ku h.kg h.s)) := hide (((unhide HH1).far (c := m) (by omega) 9 _).alloc _)
  have HA2 : Hid (Held ((w1.setCell ⟨m, 9, none⟩ (.int .i64 (x.k + 1))).alloc (.cells #[.int .i64 0, .int .i64 x.k] 78)) (w.heap.size + 1) (na 0 0 0 0 0 0 false)) := hide (((unhide HA1).far (c := m) (by omega) 9 _).alloc _)
  have HC2 : Hid (Held ((w1.setCell ⟨m, 9, none⟩ (.int .i64 (x.k + 1))).alloc (.cells #[.int .i64 0, .int .i64 x.k] 78)) w1.heap.size [.int .i64 0, .int .i64 x.k]) := hide (Held.fresh (w := (w1.setCell ⟨m, 9, none⟩ (.int .i64 (x.k + 1)))) [.int .i64 0, .int .i64 x.k] 78 (by simp))
  clear q0 q1 q2 q3 q9 qf9 ql HM1 HH1 HA1
  have y1 : w0.heap.size ≤ w1.heap.size := y0
  generalize ((w1.setCell ⟨m, 9, none⟩ (.int .i64 (x.k + 1))).alloc (.cells #[.int .i64 0, .int .i64 x.k] 78)) = w2 at HM2 HK2 HH2 HA2 HC2 ⊢
  have y2 : w1.heap.size < w2.heap.size := (unhide HC2).2
  obtain ⟨d0, d1⟩ := (unhide HC2).c2.1
  have dl := (unhide HM2).lt
  have RS : Hid (∀ W : World, Kept (m :: o.toList) w2 W → Hid (Kept (m :: o.toList) w2 W) ∧ W.cell? ⟨w1.heap.size, 0, none⟩ = some (.int .i64 0) ∧ W.cell? ⟨w1.heap.size, 1, none⟩ = some (.int .i64 x.k)) := hide (fun W hk => ⟨hide hk, (hk.held (unhide HC2) (unhide HOUT _ (by omega))).c2.1.1, (hk.held (unhide HC2) (unhide HOUT _ (by omega))).c2.1.2⟩)
  have CO := hide (fun W (h : MAt B W m o R { x with k := x.k + 1 }) (hB' : B ≤ W.heap.size) => roffer_in 0 x.k W h hL hB' hZ)
  have hB2 : B ≤ w2.heap.size := by have := (unhide HM2).1; omega
  go_region_held3 (fun w' => Hid (Kept (m :: o.toList) w2 w') ∧ w'.cell? ⟨w1.heap.size, 0, none⟩ = some (.int .i64 0) ∧ w'.cell? ⟨w1.heap.size, 1, none⟩ = some (.int .i64 x.k))
    (exact unhide RS _ (by repeat' (first | exact Kept.refl _ _ | exact unhide (And.left ‹Hid (Kept (m :: o.toList) w2 _) ∧ _›) | exact Kept.trans (unhide (And.left ‹Hid (Kept (m :: o.toList) w2 _) ∧ _›)) hk3 | exact Kept.trans (Kept.refl _ _).drew hk3 | exact hk3 | refine Kept.drew ?_)))
    (first | (go_at_call 71; refine (unhide CO _ (by first | exact unhide HM2 | exact (unhide HM2).later (below_drew (Below.refl _ _))) (by first | exact hB2 | exact Nat.le_trans hB2 (below_drew (Below.refl _ _)).size)).mono ?_; rintro e w3 ⟨rfl, hs3⟩; have hk3 := hs3; obtain ⟨o3, R3, hm3, ho3, hr3, hk3⟩ := hk3))
  have hkx := unhide (And.left ‹Hid (Kept (m :: o.toList) w2 _) ∧ _›)
  have y3 : w2.heap.size ≤ w3.heap.size := hkx.size
  have HK3 := hide ((unhide HK2).trans hkx)
  have HM3 : Hid (MAt B w3 m o3 R3 { x with L := x.L ++ [(0, x.k)], k := x.k + 1 }) := hide hm3
  have HO3 : Hid (∀ k, o3 = some k → o = some k ∨ w0.heap.size ≤ k) := hide (fun k hk => (ho3 k hk).imp_right (fun q => Nat.le_trans (show w0.heap.size ≤ w2.heap.size by omega) q))
  have HR3 : Hid (∀ g, g ∈ R3 → g ∈ R ∨ w0.heap.size ≤ g) := hide (fun g hg => (hr3 g hg).imp_right (fun q => Nat.le_trans (show w0.heap.size ≤ w2.heap.size by omega) q))
  have HH3 := hide (hkx.held (unhide HH2) (unhide HOUT _ (Nat.le_refl _)))
  have HA3 := hide (hkx.held (unhide HA2) (unhide HOUT _ (by omega)))
  have HC3 := hide (hkx.held (unhide HC2) (unhide HOUT _ (by omega)))
  clear hs3 hm3 ho3 hr3 hk3 hkx HM2 HK2 HH2 HA2 HC2 RS CO d0 d1 dl hB2
  have z1 : w.heap.size ≤ w.heap.size + 1 := by omega
  obtain ⟨d0, d1⟩ := (unhide HC3).c2.1
  have dl := (unhide HC3).2
  go_upto_region 16 with fail
  have HM4 : Hid (MAt B (w3.alloc (.cells #[.int .i64 1, .int .i64 0, .int .i64 0, .int .i64 0, .int .i64 0, .int .i64 0, .int .i64 x.k, .bool false] 104)) m o3 R3 { x with L := x.L ++ [(0, x.k)], k := x.k + 1 }) := hide ((unhide HM3).later (Below.alloc (Below.refl _ _) (Nat.le_refl _) _))
  have HK4 : Hid (Kept (m :: o.toList) w (w3.alloc (.cells #[.int .i64 1, .int .i64 0, .int .i64 0, .int .i64 0, .int .i64 0, .int .i64 0, .int .i64 x.k, .bool false] 104))) := hide ((unhide HK3).alloc _)
  have HH4 : Hid (Held (w3.alloc (.cells #[.int .i64 1, .int .i64 0, .int .i64 0, .int .i64 0, .int .i64 0, .int .i64 0, .int .i64 x.k, .bool false] 104)) w.heap.size (nh h.a h.te h.ta h.tt h.tg h.ke h.kn h.ku h.kg h.s)) := hide ((unhide HH3).alloc _)
  have HA4 : Hid (Held (w3.alloc (.cells #[.int .i64 1, .int .i64 0, .int .i64 0, .int .i64 0, .int .i64 0, .int .i64 0, .int .i64 x.k, .bool false] 104)) (w.heap.size + 1) (na 0 0 0 0 0 0 false)) := hide ((unhide HA3).alloc _)
  have HX4 : Hid (Held (w3.alloc (.cells #[.int .i64 1, .int .i64 0, .int .i64 0, .int .i64 0, .int .i64 0, .int .i64 0, .int .i64 x.k, .bool false] 104)) w3.heap.size (na 1 0 0 0 0 x.k false)) := hide (Held.fresh (w := w3) (na 1 0 0 0 0 x.k false) 104 rfl)
  clear d0 d1 dl HC3 HH3 HA3
  generalize (w3.alloc (.cells #[.int .i64 1, .int .i64 0, .int .i64 0, .int .i64 0, .int .i64 0, .int .i64 0, .int .i64 x.k, .bool false] 104)) = w4 at HM4 HK4 HH4 HA4 HX4 ⊢
  have y4 : w3.heap.size < w4.heap.size := (unhide HX4).2
  have hm4 := unhide HM4
  obtain ⟨-, sv, a1, n1, c1, a2, n2, c2, -, k2, -, p1, -, -, -, -⟩ := hm4
  have q7 : w4.cell? ⟨m, 7, none⟩ = some (.slice a1 n1 c1) := by rw [Go.Lib.cell_of_heap k2]; rfl
  have CS := hide (fun W (hW : Below w4.heap.size w4 W) => ref_spend_new h.kn h.ku now W (by rw [← p1.1]; exact hN) (PRow.later p1 hW))
  clear k2 p1
  change Hid (∀ W : World, Below w4.heap.size w4 W → Calls _ _ _ _ fun e w' => ∃ a' n' cap', e = .returned (.tuple #[.slice a' n' cap', .int .i64 (SpentM.restErr x.N h.kn h.ku now)]) ∧ PRow w' a' n' cap' (SpentM.told (SpentM.restErr x.N h.kn h.ku now) (SpentM.left x.N now ++ [(h.kn, h.ku)])) ∧ _) at CS
  rw [hE, SpentM.told_zero rfl] at CS
  obtain ⟨h0, h1, h2, h3, h4, h5, h6, h7, h8, h9⟩ := (unhide HH4).c10.1
  have hml := (unhide HM4).lt
  have hhl := (unhide HH4).2
  have RS : Hid (∀ W : World, Below w4.heap.size w4 W → Hid (Below w4.heap.size w4 W) ∧ W.cell? ⟨m, 7, none⟩ = some (.slice a1 n1 c1) ∧ W.cell? ⟨w.heap.size, 6, none⟩ = some (.int .i64 h.kn) ∧ W.cell? ⟨w.heap.size, 7, none⟩ = some (.int .i64 h.ku)) := hide (fun W hW => ⟨hide hW, cell_later hW q7, cell_later hW h6, cell_later hW h7⟩)
  go_region_held3 (fun w' => Hid (Below w4.heap.size w4 w') ∧ w'.cell? ⟨m, 7, none⟩ = some (.slice a1 n1 c1) ∧ w'.cell? ⟨w.heap.size, 6, none⟩ = some (.int .i64 h.kn) ∧ w'.cell? ⟨w.heap.size, 7, none⟩ = some (.int .i64 h.ku))
    (first | exact unhide RS _ (Below.trans (unhide (And.left ‹Hid (Below w4.heap.size w4 _) ∧ _›)) (hb5.mono (unhide (And.left ‹Hid (Below w4.heap.size w4 _) ∧ _›)).size)) | exact unhide RS _ (below_drew (Below.refl _ _)) | exact unhide RS _ (below_drew (unhide (And.left ‹Hid (Below w4.heap.size w4 _) ∧ _›))))
    (first | (go_at_call 72; refine (unhide CS _ (unhide (And.left ‹Hid (Below w4.heap.size w4 _) ∧ _›))).mono ?_; rintro e w5 ⟨sa, sn, sc, rfl, hsp, hsn, hb5⟩; have HSP := hide hsp; have HSN := hide hsn; clear hsp hsn))
  have hbx := unhide (And.left ‹Hid (Below w4.heap.size w4 w5) ∧ _›)
  have y5 : w4.heap.size ≤ w5.heap.size := hbx.size
  have HM5 := hide ((unhide HM4).later hbx)
  have HK5 := hide ((unhide HK4).trans (Kept.of hbx))
  have HA5 := hide ((unhide HA4).later hbx)
  have HX5 := hide ((unhide HX4).later hbx)
  clear HM4 HK4 HA4 HH4 HX4 RS CS q7 hbx h0 h1 h2 h3 h4 h5 h6 h7 h8 h9 hml hhl
  obtain ⟨t0, t1, t2, t3, t4, t5, t6, t7⟩ := (unhide HX5).c8.1
  have tf := (unhide HX5).c8.2
  have tl := (unhide HX5).2
  obtain ⟨-, -, -, -, -, -, -, tf7⟩ := tf
  have hm5 := unhide HM5
  obtain ⟨hBm, sv5, b1, l1, e1, b2, l2, e2, hso, k2, k3, -, -, -, -, hrr⟩ := hm5
  have q7 : w5.cell? ⟨m, 7, none⟩ = some (.slice b1 l1 e1) := by rw [Go.Lib.cell_of_heap k2]; rfl
  have q8 : w5.cell? ⟨m, 8, none⟩ = some (.slice b2 l2 e2) := by rw [Go.Lib.cell_of_heap k2]; rfl
  have qf7 := Go.Lib.frozen_of_heap k2 7
  have qf8 := Go.Lib.frozen_of_heap k2 8
  have hml := (unhide HM5).lt
  obtain ⟨g, goff, rfl, hgl, -⟩ := (unhide HSP).2.2.row (by simp)
  have hgn : w4.heap.size ≤ g := Nat.le_trans (show w4.heap.size ≤ _ from (by first | exact Nat.le_refl _ | exact (below_drew (Below.refl _ _)).size)) (unhide HSN g goff rfl)
  have hrow3 := fun k (hk : o3 = some k) => (unhide HM3).row hk
  have hmw3 := (unhide HM3).lt
  have hm3ne : ∀ b, w3.heap.size ≤ b → o3 ≠ some b := fun b hb e => by have := (hrow3 b e).2; omega
  have hR3lt : ∀ q, q ∈ R3 → q < w3.heap.size := by
    obtain ⟨_, _, _, _, _, _, _, _, _, _, _, _, _, _, _, hq⟩ := unhide HM3
    exact fun q h => (hq q h).2.1
  have HX0 : Hid (MAt B (w5.setCell ⟨w3.heap.size, 7, none⟩ (.bool true)) m o3 R3 { x with L := x.L ++ [(0, x.k)], k := x.k + 1 }) := hide ((unhide HM5).kept (F := [w3.heap.size]) (Kept.setCell (p := ⟨w3.heap.size, 7, none⟩) (Kept.refl _ _) (.inl (List.mem_singleton.2 rfl)) _) (by simp; omega) (fun k hk hm => hm3ne k (by rw [List.mem_singleton.1 hm]; exact Nat.le_refl _) hk) (fun q hq hm => by have := hR3lt q hq; rw [List.mem_singleton.1 hm] at this; omega))
  have HSP1 : Hid (PRow (w5.setCell ⟨w3.heap.size, 7, none⟩ (.bool true)) (some ⟨g, goff, none⟩) sn sc (SpentM.left x.N now ++ [(h.kn, h.ku)])) := hide ((unhide HSP).keptIn (R := [g]) (F := [w3.heap.size]) (fun q off e => by cases e; exact List.mem_singleton.2 rfl) (Kept.setCell (p := ⟨w3.heap.size, 7, none⟩) (Kept.refl _ _) (.inl (List.mem_singleton.2 rfl)) _) (fun q hq hm => by rw [List.mem_singleton.1 hq, List.mem_singleton] at hm; omega))
  have HRG : Hid (∀ q, q ∈ [g] → B ≤ q ∧ q < (w5.setCell ⟨w3.heap.size, 7, none⟩ (.bool true)).heap.size ∧ q ≠ m ∧ o3 ≠ some q) := hide (fun q hq => by
    rw [List.mem_singleton.1 hq]
    exact ⟨by omega, by simpa using hgl, by omega, hm3ne g (by omega)⟩)
  clear k2 k3 hrr hso hm3ne hR3lt hrow3 HSN
  go_upto_region 21 with fail
  have HM6 : Hid (MAt B (((w5.setCell ⟨w3.heap.size, 7, none⟩ (.bool true)).setCell ⟨m, 7, none⟩ (.slice (some ⟨g, goff, none⟩) sn sc)).setCell ⟨m, 8, none⟩ (.slice (some ⟨g, goff, none⟩) sn sc)) m o3 [g] { x with L := x.L ++ [(0, x.k)], k := x.k + 1, N := SpentM.left x.N now ++ [(h.kn, h.ku)], K := SpentM.left x.N now ++ [(h.kn, h.ku)] }) := hide ((unhide HX0).setRows (unhide HSP1) [g] (fun q off e => by cases e; exact List.mem_singleton.2 rfl) (unhide HRG))
  have HR6 : Hid (∀ q, q ∈ [g] → q ∈ R ∨ w0.heap.size ≤ q) := hide (fun q hq => .inr (by rw [List.mem_singleton.1 hq]; omega))
  have HK6 : Hid (Kept (m :: o.toList) w (((w5.setCell ⟨w3.heap.size, 7, none⟩ (.bool true)).setCell ⟨m, 7, none⟩ (.slice (some ⟨g, goff, none⟩) sn sc)).setCell ⟨m, 8, none⟩ (.slice (some ⟨g, goff, none⟩) sn sc))) := hide (Kept.setCell (p := ⟨m, 8, none⟩) (Kept.setCell (p := ⟨m, 7, none⟩) (Kept.setCell (p := ⟨w3.heap.size, 7, none⟩) (unhide HK5) (.inr (show w.heap.size ≤ w3.heap.size by omega)) _) (.inl (List.mem_cons_self ..)) _) (.inl (List.mem_cons_self ..)) _)
  have HA6 : Hid (Held (((w5.setCell ⟨w3.heap.size, 7, none⟩ (.bool true)).setCell ⟨m, 7, none⟩ (.slice (some ⟨g, goff, none⟩) sn sc)).setCell ⟨m, 8, none⟩ (.slice (some ⟨g, goff, none⟩) sn sc)) (w.heap.size + 1) (na 0 0 0 0 0 0 false)) := hide ((((unhide HA5).far (c := w3.heap.size) (by omega) 7 _).far (c := m) (by omega) 7 _).far (c := m) (by omega) 8 _)
  have HX6 : Hid (Held (((w5.setCell ⟨w3.heap.size, 7, none⟩ (.bool true)).setCell ⟨m, 7, none⟩ (.slice (some ⟨g, goff, none⟩) sn sc)).setCell ⟨m, 8, none⟩ (.slice (some ⟨g, goff, none⟩) sn sc)) w3.heap.size (na 1 0 0 0 0 x.k true)) := hide ((((unhide HX5).put 7 (.bool true)).far (c := m) (by omega) 7 _).far (c := m) (by omega) 8 _)
  clear q7 q8 qf7 qf8 t0 t1 t2 t3 t4 t5 t6 t7 tf7 tl HX0 HSP1 HRG HA5 HX5 HK5 HM5 HSP
  generalize (((w5.setCell ⟨w3.heap.size, 7, none⟩ (.bool true)).setCell ⟨m, 7, none⟩ (.slice (some ⟨g, goff, none⟩) sn sc)).setCell ⟨m, 8, none⟩ (.slice (some ⟨g, goff, none⟩) sn sc)) = w6 at HM6 HK6 HA6 HX6 ⊢
  obtain ⟨t0, t1, t2, t3, t4, t5, t6, t7⟩ := (unhide HX6).c8.1
  have tl := (unhide HX6).2
  obtain ⟨⟨u0, u1, u2, u3, u4, u5, u6, u7⟩, ⟨v0, v1, v2, v3, v4, v5, v6, v7⟩⟩ := (unhide HA6).c8
  have ul := (unhide HA6).2
  go_wp2
  have hres : w.heap.size ≤ w.heap.size + 1 := by omega
  have HAF : Hid (Held ((((((((w6.setCell ⟨w.heap.size + 1, 0, none⟩ (.int .i64 1)).setCell ⟨w.heap.size + 1, 1, none⟩ (.int .i64 0)).setCell ⟨w.heap.size + 1, 2, none⟩ (.int .i64 0)).setCell ⟨w.heap.size + 1, 3, none⟩ (.int .i64 0)).setCell ⟨w.heap.size + 1, 4, none⟩ (.int .i64 0)).setCell ⟨w.heap.size + 1, 5, none⟩ (.int .i64 0)).setCell ⟨w.heap.size + 1, 6, none⟩ (.int .i64 x.k)).setCell ⟨w.heap.size + 1, 7, none⟩ (.bool true)) (w.heap.size + 1) (na 1 0 0 0 0 x.k true)) := hide (((((((((unhide HA6).put 0 (.int .i64 1)).put 1 (.int .i64 0)).put 2 (.int .i64 0)).put 3 (.int .i64 0)).put 4 (.int .i64 0)).put 5 (.int .i64 0)).put 6 (.int .i64 x.k)).put 7 (.bool true))
  have HSF : Hid (MStep B w ((((((((w6.setCell ⟨w.heap.size + 1, 0, none⟩ (.int .i64 1)).setCell ⟨w.heap.size + 1, 1, none⟩ (.int .i64 0)).setCell ⟨w.heap.size + 1, 2, none⟩ (.int .i64 0)).setCell ⟨w.heap.size + 1, 3, none⟩ (.int .i64 0)).setCell ⟨w.heap.size + 1, 4, none⟩ (.int .i64 0)).setCell ⟨w.heap.size + 1, 5, none⟩ (.int .i64 0)).setCell ⟨w.heap.size + 1, 6, none⟩ (.int .i64 x.k)).setCell ⟨w.heap.size + 1, 7, none⟩ (.bool true)) m o R ({ x with L := x.L ++ [(0, x.k)], k := x.k + 1, N := SpentM.left x.N now ++ [(h.kn, h.ku)], K := SpentM.left x.N now ++ [(h.kn, h.ku)] })) := hide (MStep.fin (unhide H) (unhide HO3) (unhide HR6) (unhide HM6) (unhide HK6) z1 z0 (Kept.setCell (p := ⟨w.heap.size + 1, 7, none⟩) (Kept.setCell (p := ⟨w.heap.size + 1, 6, none⟩) (Kept.setCell (p := ⟨w.heap.size + 1, 5, none⟩) (Kept.setCell (p := ⟨w.heap.size + 1, 4, none⟩) (Kept.setCell (p := ⟨w.heap.size + 1, 3, none⟩) (Kept.setCell (p := ⟨w.heap.size + 1, 2, none⟩) (Kept.setCell (p := ⟨w.heap.size + 1, 1, none⟩) (Kept.setCell (p := ⟨w.heap.size + 1, 0, none⟩) (Kept.refl [w.heap.size + 1] w6) (.inl (List.mem_singleton.2 rfl)) (.int .i64 1)) (.inl (List.mem_singleton.2 rfl)) (.int .i64 0)) (.inl (List.mem_singleton.2 rfl)) (.int .i64 0)) (.inl (List.mem_singleton.2 rfl)) (.int .i64 0)) (.inl (List.mem_singleton.2 rfl)) (.int .i64 0)) (.inl (List.mem_singleton.2 rfl)) (.int .i64 0)) (.inl (List.mem_singleton.2 rfl)) (.int .i64 x.k)) (.inl (List.mem_singleton.2 rfl)) (.bool true)))
  generalize ((((((((w6.setCell ⟨w.heap.size + 1, 0, none⟩ (.int .i64 1)).setCell ⟨w.heap.size + 1, 1, none⟩ (.int .i64 0)).setCell ⟨w.heap.size + 1, 2, none⟩ (.int .i64 0)).setCell ⟨w.heap.size + 1, 3, none⟩ (.int .i64 0)).setCell ⟨w.heap.size + 1, 4, none⟩ (.int .i64 0)).setCell ⟨w.heap.size + 1, 5, none⟩ (.int .i64 0)).setCell ⟨w.heap.size + 1, 6, none⟩ (.int .i64 x.k)).setCell ⟨w.heap.size + 1, 7, none⟩ (.bool true)) = wf at HAF HSF ⊢
  obtain ⟨u0, u1, u2, u3, u4, u5, u6, u7⟩ := (unhide HAF).c8.1
  exact bodyPost_ret (v := .tuple #[.agg #[.int .i64 1, .int .i64 0, .int .i64 0, .int .i64 0, .int .i64 0, .int .i64 0, .int .i64 x.k, .bool true], .int .i64 0]) (by simp [results, Tryz.results43, go_sem, u0, u1, u2, u3, u4, u5, u6, u7]) rfl ⟨rfl, unhide HSF⟩

/-- A hello, every way. -/
theorem rhello_any {B m : Nat} {o : Option Nat} {R : List Nat} {x : ServM.St} (h : ServM.Hi) (now : Int) (w : World) (g : ServM.Good x) (h0 : MAt B w m o R x) :
    Calls Tryz.prog 43 #[.pointer (some ⟨m, 0, none⟩), .agg #[.int .i64 h.a, .int .i64 h.te, .int .i64 h.ta, .int .i64 h.tt, .int .i64 h.tg, .int .i64 h.ke, .int .i64 h.kn, .int .i64 h.ku, .int .i64 h.kg, .string h.s], .int .i64 now] w fun e w' => e = .returned (.tuple #[.agg #[.int .i64 (ServM.aKind x h now), .int .i64 (ServM.aEp x h now), .int .i64 (ServM.aAd x h now), .int .i64 (ServM.aTi x h now), .int .i64 (ServM.aTg x h now), .int .i64 0, .int .i64 (ServM.aCo x h now), .bool (ServM.soon x h now)], .int .i64 (ServM.err x h now)]) ∧ MStep B w w' m o R (ServM.next x h now) := by
  have C : Hid (∀ W : World, Calls Tryz.prog 70 #[.agg #[.int .i64 x.ep, .int .i64 x.key, .int .i64 x.old], .agg #[.int .i64 h.a, .int .i64 h.te, .int .i64 h.ta, .int .i64 h.tt, .int .i64 h.tg, .int .i64 h.ke, .int .i64 h.kn, .int .i64 h.ku, .int .i64 h.kg, .string h.s], .int .i64 x.L.length, .int .i64 now, .int .i64 x.life] W fun e w' => e = .returned (.tuple #[.int .i64 (ServM.kind x h now), .bool (ServM.may x h now), .int .i64 (ServM.ask x h now)]) ∧ Below W.heap.size W w') := hide (fun W => r2ans_any x.ep x.key x.old h.a h.te h.ta h.tt h.tg h.ke h.kn h.ku h.kg h.s x.L.length now x.life W)
  by_cases q : ServM.ask x h now = 0
  · have hK := (RingM.err_zero.1 g.ring).2.1
    obtain ⟨_, qa, qt, _, _⟩ := JudgeM.ans_zero.1 q
    rw [q] at C
    rcases ServM.kind_ways x h now with hk | hk | hk
    · obtain ⟨e1, e2, e3, e4, e5, e6, e7, e8, e9⟩ := ServM.w_retry q hk
      rw [e1, e2, e3, e4, e5, e6, e7, e8, e9]
      rw [hk] at C
      exact rhello_retry w h0 hK qa (TokenM.timeB_in qt) C
    · rw [hk] at C
      by_cases hf : x.k < 4096
      · have hl := ServM.in_len hk
        have hz := ServM.offer_zero g hf hl
        by_cases hm : ServM.may x h now = true
        · rw [hm] at C
          have hr := VaultM.err_rest (n := h.kn) (till := h.ku) (now := now) g.now
          by_cases hs : SpentM.spendErr x.N h.kn h.ku now = 0
          · obtain ⟨e1, e2, e3, e4, e5, e6, e7, e8, e9⟩ := ServM.w_in2 q hk hf hm hs
            rw [e1, e2, e3, e4, e5, e6, e7, e8, e9]
            exact rhello_in2 w h0 g.k0 hf g.len hz g.now.1 (by rw [← hr]; exact hs) C
          · obtain ⟨e1, e2, e3, e4, e5, e6, e7, e8, e9⟩ := ServM.w_in1 q hk hf hs
            rw [e1, e2, e3, e4, e5, e6, e7, e8, e9]
            exact rhello_in1 w h0 g.k0 hf g.len hz g.now.1 (by rw [← hr]; exact hs) C
        · have hm' : ServM.may x h now = false := by simpa using hm
          rw [hm'] at C
          obtain ⟨e1, e2, e3, e4, e5, e6, e7, e8, e9⟩ := ServM.w_in0 q hk hf hm'
          rw [e1, e2, e3, e4, e5, e6, e7, e8, e9]
          exact rhello_in0 w h0 g.k0 hf g.len hz C
      · obtain ⟨e1, e2, e3, e4, e5, e6, e7, e8, e9⟩ := ServM.w_full q hk (by omega)
        rw [e1, e2, e3, e4, e5, e6, e7, e8, e9]
        exact rhello_full w h0 (by omega) C
    · obtain ⟨e1, e2, e3, e4, e5, e6, e7, e8, e9⟩ := ServM.w_busy q hk
      rw [e1, e2, e3, e4, e5, e6, e7, e8, e9]
      rw [hk] at C
      exact rhello_busy w h0 C
  · obtain ⟨e1, e2, e3, e4, e5, e6, e7, e8, e9⟩ := ServM.w_err q
    rw [e1, e2, e3, e4, e5, e6, e7, e8, e9]
    exact rhello_err w h0 q C

set_option maxHeartbeats 3200000 in
set_option maxRecDepth 8000 in
theorem rticket_bad {B m : Nat} {o : Option Nat} {R : List Nat} {x : ServM.St} {u : Int} (w : World) (h0 : MAt B w m o R x) (C : Hid (∀ W : World, Calls Tryz.prog 44 #[.int .i64 u] W fun e w' => e = .returned (.bool false) ∧ w' = W)) :
    Calls Tryz.prog 21 #[.pointer (some ⟨m, 0, none⟩), .int .i64 u] w fun e w' => e = .returned (.tuple #[.agg #[.int .i64 0, .int .i64 0, .int .i64 0, .int .i64 0], .int .i64 1]) ∧ MStep B w w' m o R x := by
  have hl := h0.lt
  have H := hide h0
  clear h0
  go_enter Tryz.func21, Tryz.ntmps21
  go_wp2_with fail
  refine (unhide C _).mono ?_
  rintro e w' ⟨rfl, hw⟩
  obtain rfl := hw.symm
  clear hw
  have HM0 : Hid (MAt B (w.alloc (.cells #[.int .i64 0, .int .i64 0, .int .i64 0, .int .i64 0] 71)) m o R x) := hide ((unhide H).later (Below.alloc (Below.refl _ _) (Nat.le_refl _) _))
  have HA0 : Hid (Held (w.alloc (.cells #[.int .i64 0, .int .i64 0, .int .i64 0, .int .i64 0] 71)) w.heap.size (n4 0 0 0 0)) := hide (Held.fresh (w := w) (n4 0 0 0 0) 71 rfl)
  have HK0 : Hid (Kept (m :: o.toList) w (w.alloc (.cells #[.int .i64 0, .int .i64 0, .int .i64 0, .int .i64 0] 71))) := hide ((Kept.refl _ _).alloc _)
  have HB0 : Hid (Below w.heap.size w (w.alloc (.cells #[.int .i64 0, .int .i64 0, .int .i64 0, .int .i64 0] 71))) := hide (Below.alloc (Below.refl _ _) (Nat.le_refl _) _)
  have z0 : w.heap.size < (w.alloc (.cells #[.int .i64 0, .int .i64 0, .int .i64 0, .int .i64 0] 71)).heap.size := by simp
  generalize (w.alloc (.cells #[.int .i64 0, .int .i64 0, .int .i64 0, .int .i64 0] 71)) = w0 at HM0 HA0 HK0 HB0 z0 ⊢
  obtain ⟨⟨u0, u1, u2, u3⟩, ⟨v0, v1, v2, v3⟩⟩ := (unhide HA0).c4
  have ul := (unhide HA0).2
  go_wp2
  have HAF : Hid (Held ((((w0.setCell ⟨w.heap.size, 0, none⟩ (.int .i64 0)).setCell ⟨w.heap.size, 1, none⟩ (.int .i64 0)).setCell ⟨w.heap.size, 2, none⟩ (.int .i64 0)).setCell ⟨w.heap.size, 3, none⟩ (.int .i64 0)) w.heap.size (n4 0 0 0 0)) := hide (((((unhide HA0).put 0 (.int .i64 0)).put 1 (.int .i64 0)).put 2 (.int .i64 0)).put 3 (.int .i64 0))
  have HSF : Hid (MStep B w ((((w0.setCell ⟨w.heap.size, 0, none⟩ (.int .i64 0)).setCell ⟨w.heap.size, 1, none⟩ (.int .i64 0)).setCell ⟨w.heap.size, 2, none⟩ (.int .i64 0)).setCell ⟨w.heap.size, 3, none⟩ (.int .i64 0)) m o R x) := hide (MStep.same (unhide H) (by (repeat' (first | refine Below.setCell ?_ ?_ _ | refine Below.alloc ?_ ?_ _ | refine Below.drew ?_ | refine Below.trans ?_ (Below.mono (unhide HB0) ?_) | exact Below.refl _ _)); all_goals (first | exact Nat.le_refl _ | omega | (simp; done) | (simp; omega))))
  generalize ((((w0.setCell ⟨w.heap.size, 0, none⟩ (.int .i64 0)).setCell ⟨w.heap.size, 1, none⟩ (.int .i64 0)).setCell ⟨w.heap.size, 2, none⟩ (.int .i64 0)).setCell ⟨w.heap.size, 3, none⟩ (.int .i64 0)) = wf at HAF HSF ⊢
  obtain ⟨u0, u1, u2, u3⟩ := (unhide HAF).c4.1
  exact bodyPost_ret (v := .tuple #[.agg #[.int .i64 0, .int .i64 0, .int .i64 0, .int .i64 0], .int .i64 1]) (by simp [results, Tryz.results21, go_sem, u0, u1, u2, u3]) rfl ⟨rfl, unhide HSF⟩

set_option maxHeartbeats 3200000 in
set_option maxRecDepth 8000 in
theorem rticket_full {B m : Nat} {o : Option Nat} {R : List Nat} {x : ServM.St} {u : Int} (w : World) (h0 : MAt B w m o R x) (hn : x.n = 1000) (hm : x.m = 1000) (C : Hid (∀ W : World, Calls Tryz.prog 44 #[.int .i64 u] W fun e w' => e = .returned (.bool true) ∧ w' = W)) :
    Calls Tryz.prog 21 #[.pointer (some ⟨m, 0, none⟩), .int .i64 u] w fun e w' => e = .returned (.tuple #[.agg #[.int .i64 0, .int .i64 0, .int .i64 0, .int .i64 0], .int .i64 4]) ∧ MStep B w w' m o R x := by
  have hl := h0.lt
  have H := hide h0
  clear h0
  go_enter Tryz.func21, Tryz.ntmps21
  go_wp2_with fail
  refine (unhide C _).mono ?_
  rintro e w' ⟨rfl, hw⟩
  obtain rfl := hw.symm
  clear hw
  have HM0 : Hid (MAt B (w.alloc (.cells #[.int .i64 0, .int .i64 0, .int .i64 0, .int .i64 0] 71)) m o R x) := hide ((unhide H).later (Below.alloc (Below.refl _ _) (Nat.le_refl _) _))
  have HA0 : Hid (Held (w.alloc (.cells #[.int .i64 0, .int .i64 0, .int .i64 0, .int .i64 0] 71)) w.heap.size (n4 0 0 0 0)) := hide (Held.fresh (w := w) (n4 0 0 0 0) 71 rfl)
  have HK0 : Hid (Kept (m :: o.toList) w (w.alloc (.cells #[.int .i64 0, .int .i64 0, .int .i64 0, .int .i64 0] 71))) := hide ((Kept.refl _ _).alloc _)
  have HB0 : Hid (Below w.heap.size w (w.alloc (.cells #[.int .i64 0, .int .i64 0, .int .i64 0, .int .i64 0] 71))) := hide (Below.alloc (Below.refl _ _) (Nat.le_refl _) _)
  have z0 : w.heap.size < (w.alloc (.cells #[.int .i64 0, .int .i64 0, .int .i64 0, .int .i64 0] 71)).heap.size := by simp
  generalize (w.alloc (.cells #[.int .i64 0, .int .i64 0, .int .i64 0, .int .i64 0] 71)) = w0 at HM0 HA0 HK0 HB0 z0 ⊢
  have hm0 := unhide HM0
  obtain ⟨-, sv, a1, n1, c1, a2, n2, c2, -, k2, -, -, -, -, -, -⟩ := hm0
  have q5 : w0.cell? ⟨m, 5, none⟩ = some (.int .i64 1000) := by rw [Go.Lib.cell_of_heap k2, ← hn]; rfl
  have q6 : w0.cell? ⟨m, 6, none⟩ = some (.int .i64 1000) := by rw [Go.Lib.cell_of_heap k2, ← hm]; rfl
  have CN := hide (rbnext_end w0 q5 q6 (unhide HM0).lt)
  have hml := (unhide HM0).lt
  clear q5 q6 k2
  go_wp2_with fail
  refine (unhide CN).mono ?_
  rintro e w1 ⟨rfl, hb1⟩
  have HA1 := hide ((unhide HA0).later hb1)
  have HB1 := hide (bel3 (unhide HB0) (Below.refl _ _) hb1)
  clear hb1 CN
  obtain ⟨⟨u0, u1, u2, u3⟩, ⟨v0, v1, v2, v3⟩⟩ := (unhide HA1).c4
  have ul := (unhide HA1).2
  go_wp2
  have HAF : Hid (Held ((((w1.setCell ⟨w.heap.size, 0, none⟩ (.int .i64 0)).setCell ⟨w.heap.size, 1, none⟩ (.int .i64 0)).setCell ⟨w.heap.size, 2, none⟩ (.int .i64 0)).setCell ⟨w.heap.size, 3, none⟩ (.int .i64 0)) w.heap.size (n4 0 0 0 0)) := hide (((((unhide HA1).put 0 (.int .i64 0)).put 1 (.int .i64 0)).put 2 (.int .i64 0)).put 3 (.int .i64 0))
  have HSF : Hid (MStep B w ((((w1.setCell ⟨w.heap.size, 0, none⟩ (.int .i64 0)).setCell ⟨w.heap.size, 1, none⟩ (.int .i64 0)).setCell ⟨w.heap.size, 2, none⟩ (.int .i64 0)).setCell ⟨w.heap.size, 3, none⟩ (.int .i64 0)) m o R x) := hide (MStep.same (unhide H) (by (repeat' (first | refine Below.setCell ?_ ?_ _ | refine Below.alloc ?_ ?_ _ | refine Below.drew ?_ | refine Below.trans ?_ (Below.mono (unhide HB1) ?_) | exact Below.refl _ _)); all_goals (first | exact Nat.le_refl _ | omega | (simp; done) | (simp; omega))))
  generalize ((((w1.setCell ⟨w.heap.size, 0, none⟩ (.int .i64 0)).setCell ⟨w.heap.size, 1, none⟩ (.int .i64 0)).setCell ⟨w.heap.size, 2, none⟩ (.int .i64 0)).setCell ⟨w.heap.size, 3, none⟩ (.int .i64 0)) = wf at HAF HSF ⊢
  obtain ⟨u0, u1, u2, u3⟩ := (unhide HAF).c4.1
  exact bodyPost_ret (v := .tuple #[.agg #[.int .i64 0, .int .i64 0, .int .i64 0, .int .i64 0], .int .i64 4]) (by simp [results, Tryz.results21, go_sem, u0, u1, u2, u3]) rfl ⟨rfl, unhide HSF⟩

set_option maxHeartbeats 3200000 in
set_option maxRecDepth 8000 in
theorem rticket_yes {B m : Nat} {o : Option Nat} {R : List Nat} {x : ServM.St} {u : Int} (w : World) (h0 : MAt B w m o R x) (good : ServM.Good x) (hn : ¬ x.n = 1000) (hU : TagM.inB u = true) (C : Hid (∀ W : World, Calls Tryz.prog 44 #[.int .i64 u] W fun e w' => e = .returned (.bool true) ∧ w' = W)) :
    Calls Tryz.prog 21 #[.pointer (some ⟨m, 0, none⟩), .int .i64 u] w fun e w' => e = .returned (.tuple #[.agg #[.int .i64 x.ep, .int .i64 x.n, .int .i64 u, .int .i64 (TagM.tag x.key [2, x.n, u])], .int .i64 0]) ∧ MStep B w w' m o R { x with n := x.n + 1, m := IssueM.up x.n x.m } := by
  have CG := hide (fun b w c0 c1 c2 => tag3 x.key 2 x.n u b w c0 c1 c2 (RingM.err_zero.1 good.ring).2.1 rfl ((TagM.inB_iff _).2 ⟨good.n0, by have := good.nm; have := good.m1; omega⟩) hU)
  generalize TagM.tag x.key [2, x.n, u] = g at CG ⊢
  have hl := h0.lt
  have H := hide h0
  clear h0
  go_enter Tryz.func21, Tryz.ntmps21
  go_wp2_with fail
  refine (unhide C _).mono ?_
  rintro e w' ⟨rfl, hw⟩
  obtain rfl := hw.symm
  clear hw
  have HM0 : Hid (MAt B (w.alloc (.cells #[.int .i64 0, .int .i64 0, .int .i64 0, .int .i64 0] 71)) m o R x) := hide ((unhide H).later (Below.alloc (Below.refl _ _) (Nat.le_refl _) _))
  have HA0 : Hid (Held (w.alloc (.cells #[.int .i64 0, .int .i64 0, .int .i64 0, .int .i64 0] 71)) w.heap.size (n4 0 0 0 0)) := hide (Held.fresh (w := w) (n4 0 0 0 0) 71 rfl)
  have HK0 : Hid (Kept (m :: o.toList) w (w.alloc (.cells #[.int .i64 0, .int .i64 0, .int .i64 0, .int .i64 0] 71))) := hide ((Kept.refl _ _).alloc _)
  have HB0 : Hid (Below w.heap.size w (w.alloc (.cells #[.int .i64 0, .int .i64 0, .int .i64 0, .int .i64 0] 71))) := hide (Below.alloc (Below.refl _ _) (Nat.le_refl _) _)
  have z0 : w.heap.size < (w.alloc (.cells #[.int .i64 0, .int .i64 0, .int .i64 0, .int .i64 0] 71)).heap.size := by simp
  have HOUT := hide (unhide H).out
  generalize (w.alloc (.cells #[.int .i64 0, .int .i64 0, .int .i64 0, .int .i64 0] 71)) = w0 at HM0 HA0 HK0 HB0 z0 ⊢
  have CN := hide (rnext_in w0 (unhide HM0) good hn)
  go_wp2_with fail
  refine (unhide CN).mono ?_
  rintro e w1 ⟨rfl, o1, R1, hm1, ho1, hr1, hk1⟩
  have HM1 : Hid (MAt B w1 m o1 R1 { x with n := x.n + 1, m := IssueM.up x.n x.m }) := hide hm1
  have HO1 : Hid (∀ k, o1 = some k → o = some k ∨ w0.heap.size ≤ k) := hide ho1
  have HR1 : Hid (∀ q, q ∈ R1 → q ∈ R ∨ w0.heap.size ≤ q) := hide hr1
  have HK1 := hide ((unhide HK0).trans hk1)
  have HA1 := hide (hk1.held (unhide HA0) (unhide HOUT _ (Nat.le_refl _)))
  have y1 : w0.heap.size ≤ w1.heap.size := hk1.size
  clear hm1 ho1 hr1 hk1 CN HM0 HA0 HK0
  obtain ⟨q0, q1, q2, q3, q9, qf, ql⟩ := (unhide HM1).nums
  clear q2 q3 q9 qf
  change w1.cell? ⟨m, 0, none⟩ = some (.int .i64 x.ep) at q0
  change w1.cell? ⟨m, 1, none⟩ = some (.int .i64 x.key) at q1
  obtain ⟨⟨u0, u1, u2, u3⟩, ⟨v0, v1, v2, v3⟩⟩ := (unhide HA1).c4
  have ul := (unhide HA1).2
  have z1 : w.heap.size ≤ w.heap.size := Nat.le_refl _
  go_wp2
  have RS : Hid (∀ W : World, Kept [w.heap.size] w1 W → Hid (Kept [w.heap.size] w1 W) ∧ W.cell? ⟨m, 0, none⟩ = some (.int .i64 x.ep) ∧ W.cell? ⟨m, 1, none⟩ = some (.int .i64 x.key)) := hide (fun W hk => ⟨hide hk, by rw [hk.cell ql (by simp; omega)]; exact q0, by rw [hk.cell ql (by simp; omega)]; exact q1⟩)
  go_region_held3 (fun w' => Hid (Kept [w.heap.size] w1 w') ∧ w'.cell? ⟨m, 0, none⟩ = some (.int .i64 x.ep) ∧ w'.cell? ⟨m, 1, none⟩ = some (.int .i64 x.key))
    (exact unhide RS _ (by repeat' (first | exact Kept.refl _ _ | exact unhide (And.left ‹Hid (Kept [w.heap.size] w1 _) ∧ _›) | refine Kept.setCell (F := [w.heap.size]) (p := ⟨w.heap.size, _, none⟩) ?_ (.inl (List.mem_singleton.2 rfl)) _ | refine Kept.alloc ?_ _ | refine Kept.drew ?_)))
    (first | (go_at_call 18; refine (unhide CG _ _ (by first | (simp; done) | (rw [World.cell?_alloc_at _ _ _ _ (by simp)]; rfl) | (rw [World.cell?_drew, World.cell?_alloc_at _ _ _ _ (by simp)]; rfl)) (by first | (simp; done) | (rw [World.cell?_alloc_at _ _ _ _ (by simp)]; rfl) | (rw [World.cell?_drew, World.cell?_alloc_at _ _ _ _ (by simp)]; rfl)) (by first | (simp; done) | (rw [World.cell?_alloc_at _ _ _ _ (by simp)]; rfl) | (rw [World.cell?_drew, World.cell?_alloc_at _ _ _ _ (by simp)]; rfl))).mono ?_; rintro e w' ⟨rfl, rfl⟩))
  go_wp2
  have HAF : Hid (Held (((((w1.setCell ⟨w.heap.size, 0, none⟩ (.int .i64 x.ep)).setCell ⟨w.heap.size, 1, none⟩ (.int .i64 x.n)).setCell ⟨w.heap.size, 2, none⟩ (.int .i64 u)).setCell ⟨w.heap.size, 3, none⟩ (.int .i64 g)).alloc (.cells #[.int .i64 2, .int .i64 x.n, .int .i64 u] 3)).drew w.heap.size (n4 x.ep x.n u g)) := hide ((((((unhide HA1).put 0 (.int .i64 x.ep)).put 1 (.int .i64 x.n)).put 2 (.int .i64 u)).put 3 (.int .i64 g)).alloc (.cells #[.int .i64 2, .int .i64 x.n, .int .i64 u] 3)).drew
  have HSF : Hid (MStep B w (((((w1.setCell ⟨w.heap.size, 0, none⟩ (.int .i64 x.ep)).setCell ⟨w.heap.size, 1, none⟩ (.int .i64 x.n)).setCell ⟨w.heap.size, 2, none⟩ (.int .i64 u)).setCell ⟨w.heap.size, 3, none⟩ (.int .i64 g)).alloc (.cells #[.int .i64 2, .int .i64 x.n, .int .i64 u] 3)).drew m o R ({ x with n := x.n + 1, m := IssueM.up x.n x.m })) := hide (MStep.fin (unhide H) (unhide HO1) (unhide HR1) (unhide HM1) (unhide HK1) z1 z0 ((Kept.setCell (p := ⟨w.heap.size, 3, none⟩) (Kept.setCell (p := ⟨w.heap.size, 2, none⟩) (Kept.setCell (p := ⟨w.heap.size, 1, none⟩) (Kept.setCell (p := ⟨w.heap.size, 0, none⟩) (Kept.refl [w.heap.size] w1) (.inl (List.mem_singleton.2 rfl)) (.int .i64 x.ep)) (.inl (List.mem_singleton.2 rfl)) (.int .i64 x.n)) (.inl (List.mem_singleton.2 rfl)) (.int .i64 u)) (.inl (List.mem_singleton.2 rfl)) (.int .i64 g)).alloc (.cells #[.int .i64 2, .int .i64 x.n, .int .i64 u] 3)).drew)
  generalize (((((w1.setCell ⟨w.heap.size, 0, none⟩ (.int .i64 x.ep)).setCell ⟨w.heap.size, 1, none⟩ (.int .i64 x.n)).setCell ⟨w.heap.size, 2, none⟩ (.int .i64 u)).setCell ⟨w.heap.size, 3, none⟩ (.int .i64 g)).alloc (.cells #[.int .i64 2, .int .i64 x.n, .int .i64 u] 3)).drew = wf at HAF HSF ⊢
  obtain ⟨u0, u1, u2, u3⟩ := (unhide HAF).c4.1
  exact bodyPost_ret (v := .tuple #[.agg #[.int .i64 x.ep, .int .i64 x.n, .int .i64 u, .int .i64 g], .int .i64 0]) (by simp [results, Tryz.results21, go_sem, u0, u1, u2, u3]) rfl ⟨rfl, unhide HSF⟩

/-- A ticket, every way. -/
theorem rticket_any {B m : Nat} {o : Option Nat} {R : List Nat} {x : ServM.St} (u : Int) (w : World) (g : ServM.Good x) (h0 : MAt B w m o R x) :
    Calls Tryz.prog 21 #[.pointer (some ⟨m, 0, none⟩), .int .i64 u] w fun e w' => e = .returned (.tuple #[.agg #[.int .i64 (ServM.tEp x u), .int .i64 (ServM.tNo x u), .int .i64 (ServM.tUn x u), .int .i64 (ServM.tTg x u)], .int .i64 (ServM.tErr x u)]) ∧ MStep B w w' m o R (ServM.tick x u) := by
  have C := hide (rtime_any u)
  by_cases hu : TokenM.timeB u = true
  · rw [hu] at C
    by_cases hn : x.n = 1000
    · have e : ServM.tErr x u = 4 := by unfold ServM.tErr; rw [if_pos hu, if_pos hn]
      have hm : x.m = 1000 := by have := g.nm; have := g.m1; omega
      unfold ServM.tEp ServM.tNo ServM.tUn ServM.tTg ServM.tick
      rw [e, if_neg (by omega), if_neg (by omega), if_neg (by omega), if_neg (by omega), if_neg (by omega)]
      exact rticket_full w h0 hn hm C
    · have e : ServM.tErr x u = 0 := by unfold ServM.tErr; rw [if_pos hu, if_neg hn]
      unfold ServM.tEp ServM.tNo ServM.tUn ServM.tTg ServM.tick
      rw [e, if_pos rfl, if_pos rfl, if_pos rfl, if_pos rfl, if_pos rfl]
      exact rticket_yes w h0 g hn (TokenM.timeB_in hu) C
  · have hu' : TokenM.timeB u = false := by simpa using hu
    rw [hu'] at C
    have e : ServM.tErr x u = 1 := by unfold ServM.tErr; rw [if_neg hu]
    unfold ServM.tEp ServM.tNo ServM.tUn ServM.tTg ServM.tick
    rw [e, if_neg (by omega), if_neg (by omega), if_neg (by omega), if_neg (by omega), if_neg (by omega)]
    exact rticket_bad w h0 C
end Go.Proofs.YthaicpepgianpakGreatDoor
