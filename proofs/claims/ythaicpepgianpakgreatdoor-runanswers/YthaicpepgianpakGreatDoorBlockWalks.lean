/-
  What the calls of package block come to, said of its two numbers (which is next, and up to which they are kept): New, Next, Bound, Crash; and the reference's own Next.
-/
import Derived.Test.YthaicpepgianpakGreatDoorJoinedHeld
import Derived.Deep.QuietTactic
import Derived.BigQuiet
import Derived.WalkSmall
namespace Go.Proofs.YthaicpepgianpakGreatDoor
open Go.RowKit

theorem Kept.drewN {F : List Nat} {a w : World} (h : Kept F a w) (n : Nat) : Kept F a (w.drewN n) := ⟨h.os, h.tape, h.output, h.size, h.block⟩
theorem Held.drewN {w : World} {b : Nat} {vs : List Value} (h : Held w b vs) (n : Nat) : Held (w.drewN n) b vs := h
theorem bkept2d {b : Nat} {w : World} {x y : Value} (i j n : Nat) : Kept [b] w (((w.drewN n).setCell ⟨b, i, none⟩ x).setCell ⟨b, j, none⟩ y) :=
  (((Kept.refl [b] w).drewN n).setCell (.inl (List.mem_singleton.2 rfl)) x).setCell (.inl (List.mem_singleton.2 rfl)) y
theorem bkept1d {b : Nat} {w : World} {x : Value} (i n : Nat) : Kept [b] w ((w.drewN n).setCell ⟨b, i, none⟩ x) :=
  ((Kept.refl [b] w).drewN n).setCell (.inl (List.mem_singleton.2 rfl)) x
theorem bkept1 {b : Nat} {w : World} {x : Value} (i : Nat) : Kept [b] w (w.setCell ⟨b, i, none⟩ x) :=
  (Kept.refl [b] w).setCell (.inl (List.mem_singleton.2 rfl)) x
theorem bown {b : Nat} {w0 w w' : World} (h : Kept [b] w w') (hb : Below w0.heap.size w0 w) (hB : w0.heap.size ≤ b) : Below w0.heap.size w0 w' :=
  h.below hb hb.size (fun k hk => by rw [List.mem_singleton.1 hk]; exact hB)

theorem bnew_any (w : World) : Calls Tryz.prog 75 #[] w fun e w' => e = .returned (.pointer (some ⟨w.heap.size, 0, none⟩)) ∧ Held w' w.heap.size (n2 0 0) ∧ Below w.heap.size w w' := by
  go_enter Tryz.func75, Tryz.ntmps75
  go_wp2
  go_ret
  exact ⟨rfl, Held.fresh (n2 0 0) _ rfl, (by (repeat' (first | exact Below.refl _ _ | refine Below.alloc ?_ ?_ _ | refine Below.setCell ?_ ?_ _ | refine Below.drew ?_)); all_goals (first | exact Nat.le_refl _ | omega | (simp; done) | (simp; omega)))⟩

/-- A number of the block that is open. -/
theorem bnext_yes (b : Nat) (n m : Int) (w : World) (h : Held w b (n2 n m)) (h0 : 0 ≤ n) (h1 : n < m) (h2 : m ≤ 1000) :
    Calls Tryz.prog 121 #[.pointer (some ⟨b, 0, none⟩)] w fun e w' => e = .returned (.tuple #[.int .i64 n, .nilIface]) ∧ Held w' b (n2 (n + 1) m) ∧ Kept [b] w w' := by
  obtain ⟨⟨c0, c1⟩, f0, f1⟩ := h.c2
  have hl := h.2
  have H := hide h
  clear h
  have e1 : ¬ n = m := by omega
  have e2 : (n == m) = false := by simp; omega
  go_enter Tryz.func121, Tryz.ntmps121
  go_wp2
  go_quiet (fail)
  go_wp2
  go_ret2
  exact ⟨rfl, ((unhide H).drewN _).put 0 _, bkept1d 0 _⟩

/-- The first number of a block that is opened. -/
theorem bnext_more (b : Nat) (m : Int) (w : World) (h : Held w b (n2 m m)) (h0 : 0 ≤ m) (h1 : m + 8 ≤ 1000) :
    Calls Tryz.prog 121 #[.pointer (some ⟨b, 0, none⟩)] w fun e w' => e = .returned (.tuple #[.int .i64 m, .nilIface]) ∧ Held w' b (n2 (m + 1) (m + 8)) ∧ Kept [b] w w' := by
  obtain ⟨⟨c0, c1⟩, f0, f1⟩ := h.c2
  have hl := h.2
  have H := hide h
  clear h
  have e1 : (m == m) = true := by simp
  have e2 : ¬ 1000 < m + 8 := by omega
  go_enter Tryz.func121, Tryz.ntmps121
  go_wp2
  go_quiet (fail)
  go_wp2
  go_ret2
  exact ⟨rfl, (((unhide H).drewN _).put 1 _).put 0 _, bkept2d 1 0 _⟩

/-- None is left. -/
theorem bnext_full (b : Nat) (m : Int) (w : World) (h : Held w b (n2 m m)) (h0 : m ≤ 1000) (h1 : 1000 < m + 8) :
    Calls Tryz.prog 121 #[.pointer (some ⟨b, 0, none⟩)] w fun e w' => e = .returned (.tuple #[.int .i64 0, .iface 85 (.int .i64 4)]) ∧ Held w' b (n2 m m) ∧ Kept [b] w w' := by
  obtain ⟨⟨c0, c1⟩, f0, f1⟩ := h.c2
  have hl := h.2
  have H := hide h
  clear h
  have e1 : (m == m) = true := by simp
  go_enter Tryz.func121, Tryz.ntmps121
  go_wp2
  go_quiet (fail)
  go_wp2
  go_ret2
  exact ⟨rfl, (unhide H).drewN _, (Kept.refl _ _).drewN _⟩

theorem bcrash_any (b : Nat) (n m : Int) (w : World) (h : Held w b (n2 n m)) :
    Calls Tryz.prog 89 #[.pointer (some ⟨b, 0, none⟩)] w fun e w' => e = .returned (.tuple #[]) ∧ Held w' b (n2 m m) ∧ Kept [b] w w' := by
  obtain ⟨⟨c0, c1⟩, f0, f1⟩ := h.c2
  have hl := h.2
  have H := hide h
  clear h
  go_enter Tryz.func89, Tryz.ntmps89
  go_wp2
  go_end0
  exact ⟨rfl, (unhide H).put 0 _, bkept1 0⟩
theorem rbnext_yes (b : Nat) (n m : Int) (w : World) (h : Held w b (n2 n m)) (h0 : 0 ≤ n) (h1 : n < m) (h2 : m ≤ 1000) :
    Calls Tryz.prog 45 #[.pointer (some ⟨b, 0, none⟩)] w fun e w' => e = .returned (.tuple #[.int .i64 n, .int .i64 0]) ∧ Held w' b (n2 (n + 1) m) ∧ Kept [b] w w' := by
  obtain ⟨⟨c0, c1⟩, f0, f1⟩ := h.c2
  have hl := h.2
  have H := hide h
  clear h
  have e1 : ¬ m ≤ n := by omega
  have e2 : n + 1 - 1 = n := by omega
  go_enter Tryz.func45, Tryz.ntmps45
  go_wp2
  go_quiet (fail)
  go_wp2
  go_ret2
  exact ⟨by first | rfl | exact ret_pair (by omega), ((unhide H).drewN _).put 0 _, bkept1d 0 _⟩

theorem rbnext_more (b : Nat) (m : Int) (w : World) (h : Held w b (n2 m m)) (h0 : 0 ≤ m) (h1 : m + 8 ≤ 1000) :
    Calls Tryz.prog 45 #[.pointer (some ⟨b, 0, none⟩)] w fun e w' => e = .returned (.tuple #[.int .i64 m, .int .i64 0]) ∧ Held w' b (n2 (m + 1) (m + 8)) ∧ Kept [b] w w' := by
  obtain ⟨⟨c0, c1⟩, f0, f1⟩ := h.c2
  have hl := h.2
  have H := hide h
  clear h
  have e1 : m ≤ m := by omega
  have e2 : ¬ 1000 < m + 8 := by omega
  have e3 : m + 1 - 1 = m := by omega
  go_enter Tryz.func45, Tryz.ntmps45
  go_wp2
  go_quiet (fail)
  go_wp2
  go_ret2
  exact ⟨by first | rfl | exact ret_pair (by omega), (((unhide H).drewN _).put 1 _).put 0 _, bkept2d 1 0 _⟩

theorem rbnext_full (b : Nat) (m : Int) (w : World) (h : Held w b (n2 m m)) (h0 : m ≤ 1000) (h1 : 1000 < m + 8) :
    Calls Tryz.prog 45 #[.pointer (some ⟨b, 0, none⟩)] w fun e w' => e = .returned (.tuple #[.int .i64 0, .int .i64 4]) ∧ Held w' b (n2 m m) ∧ Kept [b] w w' := by
  obtain ⟨⟨c0, c1⟩, f0, f1⟩ := h.c2
  have hl := h.2
  have H := hide h
  clear h
  have e1 : m ≤ m := by omega
  go_enter Tryz.func45, Tryz.ntmps45
  go_wp2
  go_quiet (fail)
  go_wp2
  go_ret2
  exact ⟨rfl, (unhide H).drewN _, (Kept.refl _ _).drewN _⟩
end Go.Proofs.YthaicpepgianpakGreatDoor
