/-
  What the calls of package life come to, said of a life's two numbers: New, Start, Next, Now.
-/
import Derived.Test.YtbfofcblhjlgmafKept
import Derived.Test.YtbfofcblhjlgmafLifeMath
namespace Go.Proofs.Ytbfofcblhjlgmaf
open Go.RowKit

theorem Kept.two {b : Nat} {w : World} {x y : Value} (i j : Nat) : Kept [b] w ((w.setCell ⟨b, i, none⟩ x).setCell ⟨b, j, none⟩ y) :=
  ((Kept.refl [b] w).setCell (.inl (List.mem_singleton.2 rfl)) x).setCell (.inl (List.mem_singleton.2 rfl)) y
theorem Kept.one {b : Nat} {w : World} {x : Value} (i : Nat) : Kept [b] w (w.setCell ⟨b, i, none⟩ x) :=
  (Kept.refl [b] w).setCell (.inl (List.mem_singleton.2 rfl)) x

theorem Kept.own {b : Nat} {w0 w w' : World} (h : Kept [b] w w') (hb : Below w0.heap.size w0 w) (hB : w0.heap.size ≤ b) : Below w0.heap.size w0 w' :=
  h.below hb hb.size (fun k hk => by rw [List.mem_singleton.1 hk]; exact hB)

theorem lnew_any (w : World) : Calls Try.prog 5 #[] w fun e w' => e = .returned (.pointer (some ⟨w.heap.size, 0, none⟩)) ∧ Held w' w.heap.size (n2 0 0) ∧ Below w.heap.size w w' := by
  go_enter Try.func5, Try.ntmps5
  go_wp2
  go_ret
  exact ⟨rfl, Held.fresh (n2 0 0) _ rfl, (by (repeat' (first | exact Below.refl _ _ | refine Below.alloc ?_ ?_ _ | refine Below.setCell ?_ ?_ _ | refine Below.drew ?_)); all_goals (first | exact Nat.le_refl _ | omega | (simp; done) | (simp; omega)))⟩

theorem lstart_yes (b : Nat) (a n : Int) (w : World) (h : Held w b (n2 a n)) (h0 : 0 ≤ a) (h1 : a < 100) :
    Calls Try.prog 6 #[.pointer (some ⟨b, 0, none⟩)] w fun e w' => e = .returned (.tuple #[.int .i64 (a + 1), .nilIface]) ∧ Held w' b (n2 (a + 1) 0) ∧ Kept [b] w w' := by
  obtain ⟨⟨c0, c1⟩, f0, f1⟩ := h.c2
  have hl := h.2
  have H := hide h
  clear h
  have e1 : ¬ a = 100 := by omega
  have e2 : (a == 100) = false := by simp; omega
  go_enter Try.func6, Try.ntmps6
  go_wp2
  go_ret2
  exact ⟨rfl, ((unhide H).put 0 _).put 1 _, Kept.two 0 1⟩

theorem lstart_full (b : Nat) (n : Int) (w : World) (h : Held w b (n2 100 n)) :
    Calls Try.prog 6 #[.pointer (some ⟨b, 0, none⟩)] w fun e w' => e = .returned (.tuple #[.int .i64 0, .iface 43 (.int .i64 4)]) ∧ w' = w := by
  obtain ⟨⟨c0, c1⟩, f0, f1⟩ := h.c2
  have hl := h.2
  clear h
  go_enter Try.func6, Try.ntmps6
  go_wp2
  go_ret2
  exact ⟨rfl, rfl⟩

theorem lnext_none (b : Nat) (n : Int) (w : World) (h : Held w b (n2 0 n)) :
    Calls Try.prog 7 #[.pointer (some ⟨b, 0, none⟩)] w fun e w' => e = .returned (.tuple #[.int .i64 0, .int .i64 0, .iface 43 (.int .i64 6)]) ∧ w' = w := by
  obtain ⟨⟨c0, c1⟩, f0, f1⟩ := h.c2
  have hl := h.2
  clear h
  go_enter Try.func7, Try.ntmps7
  go_wp2
  go_ret3
  exact ⟨rfl, rfl⟩

theorem lnext_full (b : Nat) (a : Int) (w : World) (h : Held w b (n2 a 30)) (ha : ¬ a = 0) :
    Calls Try.prog 7 #[.pointer (some ⟨b, 0, none⟩)] w fun e w' => e = .returned (.tuple #[.int .i64 0, .int .i64 0, .iface 43 (.int .i64 4)]) ∧ w' = w := by
  obtain ⟨⟨c0, c1⟩, f0, f1⟩ := h.c2
  have hl := h.2
  clear h
  have e2 : (a == 0) = false := by simp; omega
  go_enter Try.func7, Try.ntmps7
  go_wp2
  go_ret3
  exact ⟨rfl, rfl⟩

theorem lnext_yes (b : Nat) (a n : Int) (w : World) (h : Held w b (n2 a n)) (ha : ¬ a = 0) (h0 : 0 ≤ n) (h1 : n < 30) :
    Calls Try.prog 7 #[.pointer (some ⟨b, 0, none⟩)] w fun e w' => e = .returned (.tuple #[.int .i64 a, .int .i64 n, .nilIface]) ∧ Held w' b (n2 a (n + 1)) ∧ Kept [b] w w' := by
  obtain ⟨⟨c0, c1⟩, f0, f1⟩ := h.c2
  have hl := h.2
  have H := hide h
  clear h
  have e2 : (a == 0) = false := by simp; omega
  have e3 : ¬ n = 30 := by omega
  have e4 : (n == 30) = false := by simp; omega
  go_enter Try.func7, Try.ntmps7
  go_wp2
  go_ret3
  exact ⟨rfl, (unhide H).put 1 _, Kept.one 1⟩

end Go.Proofs.Ytbfofcblhjlgmaf
