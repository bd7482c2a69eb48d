/-
  A ring that lies in a block of memory: what keeps it, what changes it. And errors told by number, whichever they are.
-/
import Derived.Test.YtkfijiklmmdmfaaDoorRingWalks
import Derived.Test.YtkfijiklmmdmfaaDoorAs
namespace Go.Proofs.YtkfijiklmmdmfaaDoor
open Go.RowKit

/-- A ring lies in a block, and may be written. -/
def RingAt (W : World) (b : Nat) (ep key old : Int) : Prop :=
  (W.cell? ⟨b, 0, none⟩ = some (.int .i64 ep) ∧ W.cell? ⟨b, 1, none⟩ = some (.int .i64 key) ∧ W.cell? ⟨b, 2, none⟩ = some (.int .i64 old)) ∧
  (W.frozen? ⟨b, 0, none⟩ = false ∧ W.frozen? ⟨b, 1, none⟩ = false ∧ W.frozen? ⟨b, 2, none⟩ = false) ∧ b < W.heap.size
theorem RingAt.later {W W' : World} {b : Nat} {ep key old : Int} (h : RingAt W b ep key old) (hb : Below W.heap.size W W') : RingAt W' b ep key old := by
  obtain ⟨⟨a0, a1, a2⟩, ⟨f0, f1, f2⟩, hl⟩ := h
  obtain ⟨hc, hf, hz⟩ := lies hb
  exact ⟨⟨by rw [hc _ _ hl]; exact a0, by rw [hc _ _ hl]; exact a1, by rw [hc _ _ hl]; exact a2⟩, ⟨by rw [hf _ _ hl]; exact f0, by rw [hf _ _ hl]; exact f1, by rw [hf _ _ hl]; exact f2⟩, by omega⟩
theorem RingAt.put {W : World} {b : Nat} {ep key old : Int} (h : RingAt W b ep key old) (x y z : Int) :
    RingAt (((W.setCell ⟨b, 0, none⟩ (.int .i64 x)).setCell ⟨b, 1, none⟩ (.int .i64 y)).setCell ⟨b, 2, none⟩ (.int .i64 z)) b x y z := by
  obtain ⟨⟨a0, a1, a2⟩, ⟨f0, f1, f2⟩, hl⟩ := h
  have n01 : (⟨b, 0, none⟩ : Addr) ≠ ⟨b, 1, none⟩ := by simp
  have n02 : (⟨b, 0, none⟩ : Addr) ≠ ⟨b, 2, none⟩ := by simp
  have n12 : (⟨b, 1, none⟩ : Addr) ≠ ⟨b, 2, none⟩ := by simp
  refine ⟨⟨?_, ?_, ?_⟩, ⟨by simpa using f0, by simpa using f1, by simpa using f2⟩, by simpa using hl⟩
  · rw [World.cell?_setCell_other (h := n02.symm), World.cell?_setCell_other (h := n01.symm), World.cell?_setCell_same (h := a0)]
  · rw [World.cell?_setCell_other (h := n12.symm), World.cell?_setCell_same (u := .int .i64 key) (h := by rw [World.cell?_setCell_other (h := n01)]; exact a1)]
  · rw [World.cell?_setCell_same (u := .int .i64 old) (h := by rw [World.cell?_setCell_other (h := n12), World.cell?_setCell_other (h := n02)]; exact a2)]
theorem RingAt.far {W : World} {b c : Nat} {ep key old : Int} (h : RingAt W b ep key old) (hn : c ≠ b) (j : Nat) (v : Value) : RingAt (W.setCell ⟨c, j, none⟩ v) b ep key old := by
  obtain ⟨⟨a0, a1, a2⟩, ⟨f0, f1, f2⟩, hl⟩ := h
  have ne : ∀ i, (⟨c, j, none⟩ : Addr) ≠ ⟨b, i, none⟩ := fun i he => hn (Addr.mk.inj he).1
  refine ⟨⟨?_, ?_, ?_⟩, ⟨by simpa using f0, by simpa using f1, by simpa using f2⟩, by simpa using hl⟩
  · rw [World.cell?_setCell_other (h := ne 0)]; exact a0
  · rw [World.cell?_setCell_other (h := ne 1)]; exact a1
  · rw [World.cell?_setCell_other (h := ne 2)]; exact a2
theorem RingAt.fresh {w : World} {b : Nat} (x y z : Int) (T : TypeId) (hb : w.heap.size = b) : RingAt (w.alloc (.cells #[.int .i64 x, .int .i64 y, .int .i64 z] T)) b x y z := by
  subst hb
  exact ⟨⟨by simp, by simp, by simp⟩, ⟨by simp, by simp, by simp⟩, by simp⟩

theorem same_any (n x : Int) (w : World) (hg : ErrType w) : Calls Tryd.prog 9 #[errV n, .int .i64 x] w fun e w' => e = .returned (.bool (n == x)) ∧ Below w.heap.size w w' := by
  by_cases h : n = 0
  · rw [errV_zero h]; subst h; exact same_nil x w
  · rw [errV_pos h]; exact same_errno n x w hg

theorem rturn_any (ep key old : Int) : ∃ x y z : Int, (∀ w, Calls Tryd.prog 16 #[.agg #[.int .i64 ep, .int .i64 key, .int .i64 old]] w fun e w' => e = .returned (.tuple #[.agg #[.int .i64 x, .int .i64 y, .int .i64 z], errV (RingM.turnErr ep key old)]) ∧ Below w.heap.size w w')
    ∧ (RingM.turnErr ep key old = 0 → x = ep + 1 ∧ y = TagM.tag key [ep + 1] ∧ z = key) ∧ (¬ RingM.turnErr ep key old = 0 → x = 0 ∧ y = 0 ∧ z = 0) := by
  by_cases h : RingM.turnErr ep key old = 0
  · exact ⟨_, _, _, fun w => by rw [errV_zero h]; exact rturn_yes w h, fun _ => ⟨rfl, rfl, rfl⟩, fun h' => absurd h h'⟩
  · exact ⟨_, _, _, fun w => by rw [errV_pos h]; exact rturn_no w h, fun h' => absurd h' h, fun _ => ⟨rfl, rfl, rfl⟩⟩
theorem rkey_any (ep key old n : Int) (w : World) : Calls Tryd.prog 18 #[.agg #[.int .i64 ep, .int .i64 key, .int .i64 old], .int .i64 n] w fun e w' => e = .returned (.tuple #[.int .i64 (if RingM.keyErr ep key old n = 0 then (if n = ep then key else old) else 0), errV (RingM.keyErr ep key old n)]) ∧ Below w.heap.size w w' := by
  by_cases h : RingM.keyErr ep key old n = 0
  · rw [errV_zero h, if_pos h]; exact rkey_yes n w h
  · rw [errV_pos h, if_neg h]; exact rkey_no n w h
end Go.Proofs.YtkfijiklmmdmfaaDoor
