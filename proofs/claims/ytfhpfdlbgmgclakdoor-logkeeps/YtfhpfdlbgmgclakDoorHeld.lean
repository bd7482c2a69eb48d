/-
  A block of memory that holds a row of values: what keeps it, what changes it. And errors told by number, whichever they are.
-/
import Derived.Test.YtfhpfdlbgmgclakDoorRingWalks
import Derived.Test.YtfhpfdlbgmgclakDoorAs
namespace Go.Proofs.YtfhpfdlbgmgclakDoor
open Go.RowKit

/-- A block holds these values from its first cell on, and may be written. -/
def Held (W : World) (b : Nat) (vs : List Value) : Prop :=
  (∀ i v, vs[i]? = some v → W.cell? ⟨b, i, none⟩ = some v ∧ W.frozen? ⟨b, i, none⟩ = false) ∧ b < W.heap.size
theorem Held.later {W W' : World} {b : Nat} {vs : List Value} (h : Held W b vs) (hb : Below W.heap.size W W') : Held W' b vs := by
  obtain ⟨hc, hf, hz⟩ := lies hb
  exact ⟨fun i v hv => ⟨by rw [hc _ _ h.2]; exact (h.1 i v hv).1, by rw [hf _ _ h.2]; exact (h.1 i v hv).2⟩, by have := h.2; omega⟩
theorem Held.put {W : World} {b : Nat} {vs : List Value} (h : Held W b vs) (j : Nat) (v : Value) : Held (W.setCell ⟨b, j, none⟩ v) b (vs.set j v) := by
  refine ⟨fun i u hu => ⟨?_, ?_⟩, by simpa using h.2⟩
  · by_cases e : j = i
    · subst e
      by_cases hj : j < vs.length
      · rw [List.getElem?_set_self hj] at hu
        obtain rfl := Option.some.inj hu
        exact World.cell?_setCell_same _ _ _ (h.1 j vs[j] (List.getElem?_eq_getElem hj)).1
      · rw [List.getElem?_eq_none (by simp; omega)] at hu; cases hu
    · rw [List.getElem?_set_ne e] at hu
      rw [World.cell?_setCell_other (h := by intro he; exact e (Addr.mk.inj he).2.1)]
      exact (h.1 i u hu).1
  · by_cases e : j = i
    · subst e
      by_cases hj : j < vs.length
      · simpa using (h.1 j vs[j] (List.getElem?_eq_getElem hj)).2
      · rw [List.getElem?_eq_none (by simp; omega)] at hu; cases hu
    · rw [List.getElem?_set_ne e] at hu
      simpa using (h.1 i u hu).2
theorem Held.far {W : World} {b c : Nat} {vs : List Value} (h : Held W b vs) (hn : c ≠ b) (j : Nat) (v : Value) : Held (W.setCell ⟨c, j, none⟩ v) b vs := by
  refine ⟨fun i u hu => ⟨?_, by simpa using (h.1 i u hu).2⟩, by simpa using h.2⟩
  rw [World.cell?_setCell_other (h := fun he => hn (Addr.mk.inj he).1)]
  exact (h.1 i u hu).1
theorem Held.fresh {w : World} {b : Nat} (vs : List Value) (T : TypeId) (hb : w.heap.size = b) : Held (w.alloc (.cells vs.toArray T)) b vs := by
  subst hb
  refine ⟨fun i v hv => ⟨?_, ?_⟩, by simp⟩
  · rw [World.cell?_alloc_at _ _ _ _ (by simp)]
    simpa using hv
  · simp
theorem Held.c2 {W : World} {b : Nat} {x y : Value} (h : Held W b [x, y]) : (W.cell? ⟨b, 0, none⟩ = some x ∧ W.cell? ⟨b, 1, none⟩ = some y) ∧ (W.frozen? ⟨b, 0, none⟩ = false ∧ W.frozen? ⟨b, 1, none⟩ = false) :=
  ⟨⟨(h.1 0 _ rfl).1, (h.1 1 _ rfl).1⟩, (h.1 0 _ rfl).2, (h.1 1 _ rfl).2⟩
theorem Held.c3 {W : World} {b : Nat} {x y z : Value} (h : Held W b [x, y, z]) : (W.cell? ⟨b, 0, none⟩ = some x ∧ W.cell? ⟨b, 1, none⟩ = some y ∧ W.cell? ⟨b, 2, none⟩ = some z) ∧ (W.frozen? ⟨b, 0, none⟩ = false ∧ W.frozen? ⟨b, 1, none⟩ = false ∧ W.frozen? ⟨b, 2, none⟩ = false) :=
  ⟨⟨(h.1 0 _ rfl).1, (h.1 1 _ rfl).1, (h.1 2 _ rfl).1⟩, (h.1 0 _ rfl).2, (h.1 1 _ rfl).2, (h.1 2 _ rfl).2⟩
theorem Held.c4 {W : World} {b : Nat} {x y z u : Value} (h : Held W b [x, y, z, u]) : (W.cell? ⟨b, 0, none⟩ = some x ∧ W.cell? ⟨b, 1, none⟩ = some y ∧ W.cell? ⟨b, 2, none⟩ = some z ∧ W.cell? ⟨b, 3, none⟩ = some u) ∧ (W.frozen? ⟨b, 0, none⟩ = false ∧ W.frozen? ⟨b, 1, none⟩ = false ∧ W.frozen? ⟨b, 2, none⟩ = false ∧ W.frozen? ⟨b, 3, none⟩ = false) :=
  ⟨⟨(h.1 0 _ rfl).1, (h.1 1 _ rfl).1, (h.1 2 _ rfl).1, (h.1 3 _ rfl).1⟩, (h.1 0 _ rfl).2, (h.1 1 _ rfl).2, (h.1 2 _ rfl).2, (h.1 3 _ rfl).2⟩
/-- Rings, and what has four numbers, as rows. -/
def n2 (x y : Int) : List Value := [.int .i64 x, .int .i64 y]
def n3 (x y z : Int) : List Value := [.int .i64 x, .int .i64 y, .int .i64 z]
def n4 (x y z u : Int) : List Value := [.int .i64 x, .int .i64 y, .int .i64 z, .int .i64 u]

theorem same_any (n x : Int) (w : World) (hg : ErrType w) : Calls Tryd.prog 14 #[errV n, .int .i64 x] w fun e w' => e = .returned (.bool (n == x)) ∧ Below w.heap.size w w' := by
  by_cases h : n = 0
  · rw [errV_zero h]; subst h; exact same_nil x w
  · rw [errV_pos h]; exact same_errno n x w hg
end Go.Proofs.YtfhpfdlbgmgclakDoor
