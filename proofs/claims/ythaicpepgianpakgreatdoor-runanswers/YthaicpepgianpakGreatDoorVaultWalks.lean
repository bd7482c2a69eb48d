/-
  What the calls of package vault come to, said of two lists of pairs, as it is and as it is kept: New, Spend, Sync, Crash, Has, Sure.
-/
import Derived.Test.YthaicpepgianpakGreatDoorSpendWalks
import Derived.Test.YthaicpepgianpakGreatDoorJoinedVaultMath
import Derived.Test.YthaicpepgianpakGreatDoorJoinedHeld
import Derived.Lib.Builder
import Derived.Lib.SmallJoins
namespace Go.Proofs.YthaicpepgianpakGreatDoor
open Go.RowKit

/-- A vault lies at v: what is spent, as it is and as it is kept. -/
def VAt (w : World) (v : Nat) (L K : List (Int × Int)) : Prop :=
  ∃ a n c a' n' c', w.heap[v]? = some (.cells #[.slice a n c, .slice a' n' c'] 159 (0, 0)) ∧ PRow w a n c L ∧ PRow w a' n' c' K
/-- No row lies in a block that has slices alone. -/
theorem PRow.off {w w' : World} {v n c : Nat} {a : Option Addr} {l : List (Int × Int)} {a1 a2 : Option Addr} {n1 c1 n2 c2 : Nat} {T : TypeId} {fr : Nat × Nat} (h : PRow w a n c l) (hh : w.heap[v]? = some (.cells #[.slice a1 n1 c1, .slice a2 n2 c2] T fr)) (hk : Kept [v] w w') : PRow w' a n c l := by
  refine ⟨h.1, h.2.1, fun k hlt => ?_⟩
  obtain ⟨b, off, e, h1, h2⟩ := h.2.2 k hlt
  have hne : b ≠ v := by
    rintro rfl
    rw [Go.Lib.cell_of_heap hh] at h1
    generalize off + k * 2 = i at h1
    match i, h1 with
    | 0, h1 => simp at h1
    | 1, h1 => simp at h1
    | i + 2, h1 => simp at h1
  have hl := World.block_lt_of_cell? _ _ h1
  exact ⟨b, off, e, by rw [hk.cell hl (by simpa using hne)]; exact h1, by rw [hk.cell hl (by simpa using hne)]; exact h2⟩
theorem PRow.kept {w w' : World} {v n c : Nat} {a : Option Addr} {l L K : List (Int × Int)} (h : PRow w a n c l) (hv : VAt w v L K) (hk : Kept [v] w w') : PRow w' a n c l := by
  obtain ⟨_, _, _, _, _, _, hh, _, _⟩ := hv
  exact h.off hh hk
theorem VAt.lt {w : World} {v : Nat} {L K : List (Int × Int)} (h : VAt w v L K) : v < w.heap.size := by
  obtain ⟨_, _, _, _, _, _, hh, _, _⟩ := h
  exact (Array.getElem?_eq_some_iff.1 hh).1
theorem VAt.later {w w' : World} {v : Nat} {L K : List (Int × Int)} (h : VAt w v L K) (hb : Below w.heap.size w w') : VAt w' v L K := by
  have hl := h.lt
  obtain ⟨a, n, c, a', n', c', hh, h1, h2⟩ := h
  exact ⟨a, n, c, a', n', c', by rw [hb.block v hl]; exact hh, h1.later hb, h2.later hb⟩
/-- What lay below is as it was, where the vault is newer. -/
theorem vown {v : Nat} {w0 w w' : World} (h : Kept [v] w w') (hb : Below w0.heap.size w0 w) (hv : w0.heap.size ≤ v) : Below w0.heap.size w0 w' :=
  h.below hb hb.size (fun k hk => by rw [List.mem_singleton.1 hk]; exact hv)

theorem vnew_any (w : World) : Calls Tryz.prog 51 #[] w fun e w' => e = .returned (.pointer (some ⟨w.heap.size, 0, none⟩)) ∧ VAt w' w.heap.size [] [] ∧ Below w.heap.size w w' := by
  go_enter Tryz.func51, Tryz.ntmps51
  go_wp2
  go_ret
  exact ⟨rfl, ⟨none, 0, 0, none, 0, 0, heap_alloc_new w _, nil_row _, nil_row _⟩, (by (repeat' (first | exact Below.refl _ _ | refine Below.alloc ?_ ?_ _ | refine Below.setCell ?_ ?_ _ | refine Below.drew ?_)); all_goals (first | exact Nat.le_refl _ | omega | (simp; done) | (simp; omega)))⟩

theorem vsync_any {v : Nat} {L K : List (Int × Int)} (w : World) (h : VAt w v L K) :
    Calls Tryz.prog 120 #[.pointer (some ⟨v, 0, none⟩)] w fun e w' => e = .returned (.tuple #[]) ∧ VAt w' v L L ∧ Kept [v] w w' := by
  have hl := h.lt
  obtain ⟨a, n, c, a', n', c', hh, h1, _⟩ := h
  have c0 : w.cell? ⟨v, 0, none⟩ = some (.slice a n c) := by rw [Go.Lib.cell_of_heap hh]; rfl
  have c1 : w.cell? ⟨v, 1, none⟩ = some (.slice a' n' c') := by rw [Go.Lib.cell_of_heap hh]; rfl
  have f1 : w.frozen? ⟨v, 1, none⟩ = false := Go.Lib.frozen_of_heap hh 1
  have hk : Kept [v] w (w.setCell ⟨v, 1, none⟩ (.slice a n c)) := (Kept.refl [v] w).setCell (.inl (by simp)) _
  have R := hide (show VAt (w.setCell ⟨v, 1, none⟩ (.slice a n c)) v L L from ⟨a, n, c, a, n, c, heap_put hh _, h1.off hh hk, h1.off hh hk⟩)
  have HK := hide hk
  clear hh h1 hk
  go_enter Tryz.func120, Tryz.ntmps120
  go_wp2
  go_end0
  exact ⟨rfl, unhide R, unhide HK⟩
theorem vcrash_any {v : Nat} {L K : List (Int × Int)} (w : World) (h : VAt w v L K) :
    Calls Tryz.prog 65 #[.pointer (some ⟨v, 0, none⟩)] w fun e w' => e = .returned (.tuple #[]) ∧ VAt w' v K K ∧ Kept [v] w w' := by
  have hl := h.lt
  obtain ⟨a, n, c, a', n', c', hh, _, h1⟩ := h
  have c0 : w.cell? ⟨v, 0, none⟩ = some (.slice a n c) := by rw [Go.Lib.cell_of_heap hh]; rfl
  have c1 : w.cell? ⟨v, 1, none⟩ = some (.slice a' n' c') := by rw [Go.Lib.cell_of_heap hh]; rfl
  have f0 : w.frozen? ⟨v, 0, none⟩ = false := Go.Lib.frozen_of_heap hh 0
  have hk : Kept [v] w (w.setCell ⟨v, 0, none⟩ (.slice a' n' c')) := (Kept.refl [v] w).setCell (.inl (by simp)) _
  have R := hide (show VAt (w.setCell ⟨v, 0, none⟩ (.slice a' n' c')) v K K from ⟨a', n', c', a', n', c', heap_put hh _, h1.off hh hk, h1.off hh hk⟩)
  have HK := hide hk
  clear hh h1 hk
  go_enter Tryz.func65, Tryz.ntmps65
  go_wp2
  go_end0
  exact ⟨rfl, unhide R, unhide HK⟩
set_option maxHeartbeats 1600000 in
theorem vspend_no {v : Nat} {L K : List (Int × Int)} (n till now : Int) (w : World) (h : VAt w v L K) (he : ¬ SpentM.spendErr L n till now = 0) :
    Calls Tryz.prog 119 #[.pointer (some ⟨v, 0, none⟩), .int .i64 n, .int .i64 till, .int .i64 now] w fun e w' => e = .returned (.iface 85 (.int .i64 (SpentM.spendErr L n till now))) ∧ Below w.heap.size w w' := by
  have hl := h.lt
  obtain ⟨a, n0, c, a', n', c', hh, h1, _⟩ := h
  have c0 : w.cell? ⟨v, 0, none⟩ = some (.slice a n0 c) := by rw [Go.Lib.cell_of_heap hh]; rfl
  have C := hide (sspend_any n till now w h1)
  rw [errV_pos he] at C
  generalize SpentM.spendErr L n till now = q at C ⊢
  clear hh h1 he
  go_enter Tryz.func119, Tryz.ntmps119
  go_wp2_with fail
  refine (unhide C).mono ?_
  rintro e w1 ⟨b1, m1, d1, rfl, _, hb⟩
  have HB := hide hb
  clear hb
  go_wp2
  go_ret
  exact ⟨rfl, unhide HB⟩
set_option maxHeartbeats 1600000 in
theorem vspend_yes {v : Nat} {L K : List (Int × Int)} (n till now : Int) (w : World) (h : VAt w v L K) (he : SpentM.spendErr L n till now = 0) :
    Calls Tryz.prog 119 #[.pointer (some ⟨v, 0, none⟩), .int .i64 n, .int .i64 till, .int .i64 now] w fun e w' => e = .returned .nilIface ∧ VAt w' v (SpentM.spend L n till now) K ∧ Kept [v] w w' := by
  have hl := h.lt
  obtain ⟨a, n0, c, a', n', c', hh, h1, h2⟩ := h
  have c0 : w.cell? ⟨v, 0, none⟩ = some (.slice a n0 c) := by rw [Go.Lib.cell_of_heap hh]; rfl
  have C := hide (sspend_any n till now w h1)
  rw [errV_zero he] at C
  generalize SpentM.spend L n till now = M at C ⊢
  have HH := hide hh
  have H2 := hide h2
  clear hh h1 h2 he
  go_enter Tryz.func119, Tryz.ntmps119
  go_wp2_with fail
  refine (unhide C).mono ?_
  rintro e w1 ⟨b1, m1, d1, rfl, hp, hb⟩
  have h3 : w1.heap[v]? = _ := (hb.block v hl).trans (unhide HH)
  have d0 : w1.cell? ⟨v, 0, none⟩ = some (.slice a n0 c) := by rw [Go.Lib.cell_of_heap h3]; rfl
  have f0 : w1.frozen? ⟨v, 0, none⟩ = false := Go.Lib.frozen_of_heap h3 0
  have hl1 : v < w1.heap.size := Nat.lt_of_lt_of_le hl hb.size
  have hk : Kept [v] w1 (w1.setCell ⟨v, 0, none⟩ (.slice b1 m1 d1)) := (Kept.refl [v] w1).setCell (.inl (by simp)) _
  have R := hide (show VAt (w1.setCell ⟨v, 0, none⟩ (.slice b1 m1 d1)) v M K from ⟨b1, m1, d1, a', n', c', heap_put h3 _, hp.off h3 hk, ((unhide H2).later hb).off h3 hk⟩)
  have HK := hide ((Kept.of hb).trans hk)
  clear h3 hp hb hk c0
  go_wp2
  go_ret
  exact ⟨rfl, unhide R, unhide HK⟩
/-- Spend, every way. -/
theorem vspend_any {v : Nat} {L K : List (Int × Int)} (n till now : Int) (w : World) (h : VAt w v L K) :
    Calls Tryz.prog 119 #[.pointer (some ⟨v, 0, none⟩), .int .i64 n, .int .i64 till, .int .i64 now] w fun e w' => e = .returned (errV (SpentM.spendErr L n till now)) ∧ VAt w' v (VaultM.next L n till now) K ∧ Kept [v] w w' := by
  by_cases he : SpentM.spendErr L n till now = 0
  · rw [errV_zero he, VaultM.next_yes he]
    exact vspend_yes n till now w h he
  · rw [errV_pos he, VaultM.next_no he]
    refine (vspend_no n till now w h he).mono ?_
    rintro e w1 ⟨rfl, hb⟩
    exact ⟨rfl, h.later hb, Kept.of hb⟩
end Go.Proofs.YthaicpepgianpakGreatDoor
