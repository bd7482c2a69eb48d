/-
  A desk at which nobody was yet.
-/
import Derived.Test.YthaicpepgianpakGreatDoorRunState
namespace Go.Proofs.YthaicpepgianpakGreatDoor
open Go.RowKit
set_option linter.unusedVariables false

theorem keyOf_word (L : List UInt8) (h : L.length ≤ 100) : keyOf Tryz.prog 9 (.string (RunM.bs L)) = some (.string L) := Go.WideMaps.keyOf_string_mk Tryz.underlying9 (by rw [RunM.bs_size]; unfold maxLen; omega)
theorem put_word {w : World} {b n : Nat} {D : DataW Unit} (h : w.ownsMap Tryz.prog 9 (plainElem (H := Unit) Tryz.prog 3) b n D) (hn : n < 100) (L : List UInt8) (hL : L.length ≤ 100) (k : Int) (hk : (Lit.int .i64 k).wf = true) :
    ∃ w', (Instr.mapUpdate 32 (.map (some b)) (.string ⟨L.toArray⟩) (.int .i64 k)).run Tryz.prog w = .ok () w' ∧ w'.ownsMap Tryz.prog 9 (plainElem (H := Unit) Tryz.prog 3) b (n + 1) (D.put (.string L) (iv k)) ∧ w.grownBy w' (some b) :=
  h.update keyLaw Tryz.underlying32 (by unfold maxLen; omega) (keyOf_word L hL) (plainElem_int Tryz.underlying3 hk)
theorem grows9 {w w' : World} {b : Nat} (h : w.grownBy w' (some b)) : Kept [b] w w' := ⟨h.os, h.tape, h.output, h.size, fun k hk hn => h.block k hk (fun e => hn (by rw [Option.some.inj e]; exact List.mem_singleton.2 rfl))⟩

set_option maxRecDepth 100000 in
set_option maxHeartbeats 4000000 in
theorem ropen_any (w : World) : Calls Tryz.prog 11 #[] w fun e w' => ∃ s mb F, e = .returned (.tuple #[.agg #[.pointer (some ⟨s, 0, none⟩), .map (some mb)], .nilIface]) ∧ SOwn w.heap.size w' s F RunM.new ∧ MapIs w' mb ∧ mb ∉ F ∧ w.heap.size ≤ mb ∧ Below w.heap.size w w' := by
  have C := hide (fun W => snew_yes (seed := 7) (life := 50) W (by omega) (by omega) rfl)
  have hmm := @run_makeMap Tryz.prog
  go_enter Tryz.func11, Tryz.ntmps11
  go_wp2_with fail
  refine (unhide C _).mono ?_
  rintro e w1 ⟨s, F, rfl, hs, hb1⟩
  have HR := (Held.fresh (w := w) [.pointer none, .map none] 34 rfl).later hb1
  have HB1 := hide (bel3 (Below.refl _ _) (show Below w.heap.size w (w.alloc _) from (by (repeat' (first | exact Below.refl _ _ | refine Below.alloc ?_ ?_ _ | refine Below.setCell ?_ ?_ _ | refine Below.drew ?_)); all_goals (first | exact Nat.le_refl _ | omega | (simp; done) | (simp; omega)))) hb1)
  have hw1 : w.heap.size < w1.heap.size := HR.2
  have hF : ∀ k, k ∈ F → w.heap.size < k ∧ k < w1.heap.size := fun k hk => by have q := hs.all k hk; simp at q; omega
  have HS := hide (hs.down (B' := w.heap.size) (by simp))
  clear hs hb1
  obtain ⟨m1, r1, o1, g1⟩ := put_word (World.ownsMap_made w1 Tryz.prog 9 (plainElem (H := Unit) Tryz.prog 3)) (by omega) RunM.wHello (by decide) 2 (by decide)
  obtain ⟨m2, r2, o2, g2⟩ := put_word o1 (by omega) RunM.wAgain (by decide) 6 (by decide)
  obtain ⟨m3, r3, o3, g3⟩ := put_word o2 (by omega) RunM.wTicket (by decide) 1 (by decide)
  obtain ⟨m4, r4, o4, g4⟩ := put_word o3 (by omega) RunM.wPull (by decide) 0 (by decide)
  obtain ⟨m5, r5, o5, g5⟩ := put_word o4 (by omega) RunM.wTurn (by decide) 0 (by decide)
  obtain ⟨m6, r6, o6, g6⟩ := put_word o5 (by omega) RunM.wCrash (by decide) 0 (by decide)
  obtain ⟨m7, r7, o7, g7⟩ := put_word o6 (by omega) RunM.wWaiting (by decide) 0 (by decide)
  have hk : Kept [w1.heap.size] w1 m7 := (((((((Kept.refl [w1.heap.size] w1).alloc (.map #[] 0)).trans (grows9 g1)).trans (grows9 g2)).trans (grows9 g3)).trans (grows9 g4)).trans (grows9 g5)).trans ((grows9 g6).trans (grows9 g7))
  have HR7 := hk.held HR (fun hm => by have := List.mem_singleton.1 hm; omega)
  have HM := hide (show MapIs m7 w1.heap.size from o7)
  have HS7 := hide ((unhide HS).kept hk (fun k hf hm => by have := (hF k hf).2; rw [List.mem_singleton.1 hm] at this; omega))
  have HB7 := hide ((unhide HB1).trans (hk.below (B := w.heap.size) (Below.refl _ _) (by omega) (fun k hm => by rw [List.mem_singleton.1 hm]; omega)))
  have HF := hide hF
  obtain ⟨⟨d0, d1⟩, f0, f1⟩ := HR7.c2
  have dl := HR7.2
  clear HR o1 o2 o3 o4 o5 o6 o7 g1 g2 g3 g4 g5 g6 g7 hk HR7 hF HS HB1
  simp only [RunM.wHello, RunM.wAgain, RunM.wTicket, RunM.wPull, RunM.wTurn, RunM.wCrash, RunM.wWaiting] at r1 r2 r3 r4 r5 r6 r7
  go_wp2
  have hk2 : Kept [w.heap.size] m7 ((m7.setCell ⟨w.heap.size, 0, none⟩ (.pointer (some ⟨s, 0, none⟩))).setCell ⟨w.heap.size, 1, none⟩ (.map (some w1.heap.size))) := ((Kept.refl [w.heap.size] m7).setCell (.inl (List.mem_singleton.2 rfl)) _).setCell (.inl (List.mem_singleton.2 rfl)) _
  exact bodyPost_ret (v := .tuple #[.agg #[.pointer (some ⟨s, 0, none⟩), .map (some w1.heap.size)], .nilIface]) (by simp [results, Tryz.results11, go_sem, d0, d1]) rfl ⟨s, w1.heap.size, F, rfl, (unhide HS7).kept hk2 (fun k hf hm => by have := (unhide HF k hf).1; rw [List.mem_singleton.1 hm] at this; omega), (unhide HM).kept hk2 (fun hm => by have := List.mem_singleton.1 hm; omega), fun hm => by have := (unhide HF _ hm).2; omega, by omega, hk2.below (unhide HB7) (unhide HB7).size (fun k hm => by rw [List.mem_singleton.1 hm]; exact Nat.le_refl _)⟩
end Go.Proofs.YthaicpepgianpakGreatDoor
