/-
  What holds within a statement that issues a ticket and lays it into a new block, in whichever order its parts are drawn.
-/
import Derived.Test.YtgjacfiplhnafahDoorIssueWalks
import Derived.Deep.RegionHeld3
import Derived.Deep.DrawnRows
namespace Go.Proofs.YtgjacfiplhnafahDoor
open Go.RowKit

/-- A ring's three cells and one number of a list are read as before. -/
theorem reg_s {s b rb pb o : Nat} {x e0 e1 e2 : Value} {wr w' : World} (hr : Held wr rb [e0, e1, e2]) (hx : wr.cell? ⟨pb, o, none⟩ = some x) (h1 : rb ≠ s) (h2 : rb ≠ b) (h3 : pb ≠ s) (h4 : pb ≠ b) (hk : Kept [s, b] wr w') :
    Hid (Kept [s, b] wr w') ∧ w'.cell? ⟨pb, o, none⟩ = some x ∧ w'.cell? ⟨rb, 0, none⟩ = some e0 ∧ w'.cell? ⟨rb, 1, none⟩ = some e1 ∧ w'.cell? ⟨rb, 2, none⟩ = some e2 := by
  have hp : pb < wr.heap.size := World.block_lt_of_cell? _ _ hx
  have h := hk.held hr (by simp; exact ⟨h1, h2⟩)
  exact ⟨hide hk, by rw [hk.cell hp (by simp; exact ⟨h3, h4⟩)]; exact hx, h.c3.1.1, h.c3.1.2.1, h.c3.1.2.2⟩
theorem Kept.fresh4 {s b : Nat} {W W' : World} {x y z u : Value} {T : TypeId} (hk : Kept [s, b] (W.alloc (.cells #[x, y, z, u] T)).drew W') (hs : s < W.heap.size) (hb : b < W.heap.size) : Held W' W.heap.size [x, y, z, u] :=
  hk.held ((Held.fresh (w := W) [x, y, z, u] T rfl).later ((Below.refl _ _).drew)) (by simp; omega)
theorem fresh_cells {s b : Nat} {W W' : World} {x y z u : Value} {T : TypeId} (hk : Kept [s, b] (W.alloc (.cells #[x, y, z, u] T)).drew W') (hs : s < W.heap.size) (hb : b < W.heap.size) :
    (W'.cell? ⟨W.heap.size, 0, none⟩ = some x ∧ W'.cell? ⟨W.heap.size, 1, none⟩ = some y ∧ W'.cell? ⟨W.heap.size, 2, none⟩ = some z ∧ W'.cell? ⟨W.heap.size, 3, none⟩ = some u) ∧ (W'.frozen? ⟨W.heap.size, 0, none⟩ = false ∧ W'.frozen? ⟨W.heap.size, 1, none⟩ = false ∧ W'.frozen? ⟨W.heap.size, 2, none⟩ = false ∧ W'.frozen? ⟨W.heap.size, 3, none⟩ = false) ∧ W.heap.size < W'.heap.size :=
  ⟨(hk.fresh4 hs hb).c4.1, (hk.fresh4 hs hb).c4.2, (hk.fresh4 hs hb).2⟩
end Go.Proofs.YtgjacfiplhnafahDoor
