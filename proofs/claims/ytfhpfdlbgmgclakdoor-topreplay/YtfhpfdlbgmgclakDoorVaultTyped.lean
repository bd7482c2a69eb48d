/-
  A vault whose rows lie in blocks of their type: what its calls leave, of all else.
-/
import Derived.Test.YtfhpfdlbgmgclakDoorLogMem
namespace Go.Proofs.YtfhpfdlbgmgclakDoor
open Go.RowKit

/-- A vault lies at v: what is spent, as it is and as it is kept. -/
def VKAt (w : World) (v : Nat) (L K : List (Int × Int)) : Prop :=
  ∃ a n c a' n' c', w.heap[v]? = some (.cells #[.slice a n c, .slice a' n' c'] 92 (0, 0)) ∧ KRow w a n c L ∧ KRow w a' n' c' K
theorem VKAt.still {S : List TypeId} {w w' : World} {v : Nat} {L K : List (Int × Int)} (h : VKAt w v L K) (hs : Still S w w') (h1 : 92 ∉ S) (h2 : 34 ∉ S) : VKAt w' v L K := by
  obtain ⟨a, n, c, a', n', c', hh, k1, k2⟩ := h
  exact ⟨a, n, c, a', n', c', hs.block _ _ _ _ hh h1, k1.still hs h2, k2.still hs h2⟩
theorem VKAt.later {w w' : World} {v : Nat} {L K : List (Int × Int)} (h : VKAt w v L K) (hb : Below w.heap.size w w') : VKAt w' v L K := h.still (S := []) (Still.of hb) (by simp) (by simp)
theorem VKAt.lt {w : World} {v : Nat} {L K : List (Int × Int)} (h : VKAt w v L K) : v < w.heap.size := by
  obtain ⟨_, _, _, _, _, _, hh, _, _⟩ := h
  exact (Array.getElem?_eq_some_iff.1 hh).1
theorem vk_new (w : World) : Calls Tryd.prog 22 #[] w fun e w' => e = .returned (.pointer (some ⟨w.heap.size, 0, none⟩)) ∧ VKAt w' w.heap.size [] [] ∧ Below w.heap.size w w' := by
  go_enter Tryd.func22, Tryd.ntmps22
  go_wp2
  go_ret
  exact ⟨rfl, ⟨none, 0, 0, none, 0, 0, heap_alloc_new w _, nil_krow _, nil_krow _⟩, (by (repeat' (first | exact Below.refl _ _ | refine Below.alloc ?_ ?_ _ | refine Below.setCell ?_ ?_ _ | refine Below.drew ?_)); all_goals (first | exact Nat.le_refl _ | omega | (simp; done) | (simp; omega)))⟩
theorem vk_sync {B v : Nat} {L K : List (Int × Int)} (w w0 : World) (h : VKAt w v L K) (hB : Below B w0 w) (hv : B ≤ v) :
    Calls Tryd.prog 25 #[.pointer (some ⟨v, 0, none⟩)] w fun e w' => e = .returned (.tuple #[]) ∧ VKAt w' v L L ∧ Below B w0 w' ∧ Still [92] w w' := by
  have hl := h.lt
  obtain ⟨a, n, c, a', n', c', hh, h1, _⟩ := h
  have c0 : w.cell? ⟨v, 0, none⟩ = some (.slice a n c) := by rw [Go.Lib.cell_of_heap hh]; rfl
  have c1 : w.cell? ⟨v, 1, none⟩ = some (.slice a' n' c') := by rw [Go.Lib.cell_of_heap hh]; rfl
  have f1 : w.frozen? ⟨v, 1, none⟩ = false := Go.Lib.frozen_of_heap hh 1
  have hs : Still [92] w (w.setCell ⟨v, 1, none⟩ (.slice a n c)) := Still.set hh (by simp) 1 _
  have R := hide (show VKAt (w.setCell ⟨v, 1, none⟩ (.slice a n c)) v L L from ⟨a, n, c, a, n, c, heap_put hh _, h1.still hs (by decide), h1.still hs (by decide)⟩)
  have HS := hide hs
  have HB := hide (hB.setCell (p := ⟨v, 1, none⟩) hv (.slice a n c))
  clear hh h1 hs hB
  go_enter Tryd.func25, Tryd.ntmps25
  go_wp2
  go_end0
  exact ⟨rfl, unhide R, unhide HB, unhide HS⟩
theorem vk_crash {B v : Nat} {L K : List (Int × Int)} (w w0 : World) (h : VKAt w v L K) (hB : Below B w0 w) (hv : B ≤ v) :
    Calls Tryd.prog 26 #[.pointer (some ⟨v, 0, none⟩)] w fun e w' => e = .returned (.tuple #[]) ∧ VKAt w' v K K ∧ Below B w0 w' ∧ Still [92] w w' := by
  have hl := h.lt
  obtain ⟨a, n, c, a', n', c', hh, _, h1⟩ := h
  have c0 : w.cell? ⟨v, 0, none⟩ = some (.slice a n c) := by rw [Go.Lib.cell_of_heap hh]; rfl
  have c1 : w.cell? ⟨v, 1, none⟩ = some (.slice a' n' c') := by rw [Go.Lib.cell_of_heap hh]; rfl
  have f0 : w.frozen? ⟨v, 0, none⟩ = false := Go.Lib.frozen_of_heap hh 0
  have hs : Still [92] w (w.setCell ⟨v, 0, none⟩ (.slice a' n' c')) := Still.set hh (by simp) 0 _
  have R := hide (show VKAt (w.setCell ⟨v, 0, none⟩ (.slice a' n' c')) v K K from ⟨a', n', c', a', n', c', heap_put hh _, h1.still hs (by decide), h1.still hs (by decide)⟩)
  have HS := hide hs
  have HB := hide (hB.setCell (p := ⟨v, 0, none⟩) hv (.slice a' n' c'))
  clear hh h1 hs hB
  go_enter Tryd.func26, Tryd.ntmps26
  go_wp2
  go_end0
  exact ⟨rfl, unhide R, unhide HB, unhide HS⟩
set_option maxHeartbeats 1600000 in
theorem vk_spend {B v : Nat} {L K : List (Int × Int)} (n till now : Int) (w w0 : World) (h : VKAt w v L K) (hB : Below B w0 w) (hv : B ≤ v) (hBs : B ≤ w.heap.size) :
    Calls Tryd.prog 23 #[.pointer (some ⟨v, 0, none⟩), .int .i64 n, .int .i64 till, .int .i64 now] w fun e w' => e = .returned (errV (SpentM.spendErr L n till now)) ∧ VKAt w' v (VaultM.next L n till now) K ∧ Below B w0 w' ∧ Still [92] w w' := by
  have hl := h.lt
  have H := hide h
  obtain ⟨a, n0, c, a', n', c', hh, h1, h2⟩ := h
  have c0 : w.cell? ⟨v, 0, none⟩ = some (.slice a n0 c) := by rw [Go.Lib.cell_of_heap hh]; rfl
  have C := hide (sspend_typed n till now w h1.1)
  have HH := hide hh
  have H2 := hide h2
  have HB := hide hB
  clear hh h1 h2 hB
  by_cases he : SpentM.spendErr L n till now = 0
  · rw [errV_zero he, VaultM.next_yes he]
    rw [errV_zero he] at C
    generalize SpentM.spend L n till now = M at C ⊢
    clear he
    go_enter Tryd.func23, Tryd.ntmps23
    go_wp2_with fail
    refine (unhide C).mono ?_
    rintro e w1 ⟨b1, m1, d1, rfl, hp, ⟨-, hk⟩, hb⟩
    have h3 : w1.heap[v]? = some (.cells #[.slice a n0 c, .slice a' n' c'] 92 (0, 0)) := (hb.block v hl).trans (unhide HH)
    have d0 : w1.cell? ⟨v, 0, none⟩ = some (.slice a n0 c) := by rw [Go.Lib.cell_of_heap h3]; rfl
    have f0 : w1.frozen? ⟨v, 0, none⟩ = false := Go.Lib.frozen_of_heap h3 0
    have hl1 : v < w1.heap.size := Nat.lt_of_lt_of_le hl hb.size
    have hs : Still [92] w1 (w1.setCell ⟨v, 0, none⟩ (.slice b1 m1 d1)) := Still.set h3 (by simp) 0 _
    have R := hide (show VKAt (w1.setCell ⟨v, 0, none⟩ (.slice b1 m1 d1)) v M K from ⟨b1, m1, d1, a', n', c', heap_put h3 _, KRow.still ⟨hp, hk⟩ hs (by decide), ((unhide H2).later hb).still hs (by decide)⟩)
    have HS := hide ((Still.of (S := [92]) hb).trans hs)
    have HB1 := hide (((unhide HB).trans (hb.mono hBs)).setCell (p := ⟨v, 0, none⟩) hv (.slice b1 m1 d1))
    clear h3 hp hk hb hs c0
    go_wp2
    go_ret
    exact ⟨rfl, unhide R, unhide HB1, unhide HS⟩
  · rw [errV_pos he, VaultM.next_no he]
    rw [errV_pos he] at C
    generalize SpentM.spendErr L n till now = q at C ⊢
    clear he
    go_enter Tryd.func23, Tryd.ntmps23
    go_wp2_with fail
    refine (unhide C).mono ?_
    rintro e w1 ⟨b1, m1, d1, rfl, -, -, hb⟩
    have HB1 := hide hb
    clear hb
    go_wp2
    go_ret
    exact ⟨rfl, (unhide H).later (unhide HB1), (unhide HB).trans ((unhide HB1).mono hBs), Still.of (unhide HB1)⟩
end Go.Proofs.YtfhpfdlbgmgclakDoor
