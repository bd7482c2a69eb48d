/-
  Rows that lie in known blocks stay under steps on other blocks.
-/
import Derived.Test.YtimilfnbbimipajGreatDoorPairs
import Derived.Test.YtimilfnbbimipajGreatDoorKept
namespace Go.Proofs.YtimilfnbbimipajGreatDoor
open Go.RowKit

/-- A slice lies in one of these blocks, if it lies anywhere. -/
def InR (R : List Nat) (a : Option Addr) : Prop := ∀ g off, a = some ⟨g, off, none⟩ → g ∈ R
theorem nil_in (R : List Nat) : InR R none := fun _ _ h => by cases h
theorem PRow.keptIn {R F : List Nat} {w w' : World} {n c : Nat} {a : Option Addr} {l : List (Int × Int)} (h : PRow w a n c l) (hR : InR R a) (hk : Kept F w w') (hF : ∀ g, g ∈ R → g ∉ F) : PRow w' a n c l :=
  ⟨h.1, h.2.1, fun k hlt => by
    obtain ⟨b, off, e, h1, h2⟩ := h.2.2 k hlt
    have hl := World.block_lt_of_cell? _ _ h1
    have hn := hF b (hR b off e)
    exact ⟨b, off, e, by rw [hk.cell hl hn]; exact h1, by rw [hk.cell hl hn]; exact h2⟩⟩
theorem own_keptIn {F : List Nat} {w w' : World} {B n : Nat} {e : TypeId} {size : Nat} {v : Value} {xs : List Value} (h : w.ownsRow B e size v n xs) (hk : Kept F w w') (hF : ∀ g, v.ownBlock = some g → g ∉ F) : w'.ownsRow B e size v n xs := by
  refine ⟨h.1, ?_⟩
  rcases h.2 with q | ⟨g, cap, cur, rfl, q1, q2, q3⟩
  · exact .inl q
  · refine .inr ⟨g, cap, cur, rfl, q1, ?_, q3⟩
    rw [hk.block g (Array.getElem?_eq_some_iff.1 q2).1 (hF g rfl)]
    exact q2
/-- An answer's cells. -/
def na (k e a t g c : Int) (b : Bool) : List Value := [.int .i64 k, .int .i64 e, .int .i64 a, .int .i64 t, .int .i64 g, .int .i64 0, .int .i64 c, .bool b]
theorem below_set {w W : World} {c : Nat} (b : Below w.heap.size w W) (hc : w.heap.size ≤ c) (i : Nat) (v : Value) : Below w.heap.size w (W.setCell ⟨c, i, none⟩ v) := Below.setCell b (show w.heap.size ≤ c from hc) v
theorem below_alloc {w W : World} (b : Below w.heap.size w W) (o : Obj) : Below w.heap.size w (W.alloc o) := Below.alloc b b.size o
theorem below_drew {w W : World} (b : Below w.heap.size w W) : Below w.heap.size w W.drew := b.drew
theorem Held.alloc {W : World} {b : Nat} {vs : List Value} (h : Held W b vs) (o : Obj) : Held (W.alloc o) b vs := h.later (Below.alloc (Below.refl _ _) (Nat.le_refl _) o)
theorem Held.drew {W : World} {b : Nat} {vs : List Value} (h : Held W b vs) : Held W.drew b vs := h
theorem Held.c8 {W : World} {b : Nat} {v0 v1 v2 v3 v4 v5 v6 v7 : Value} (h : Held W b [v0, v1, v2, v3, v4, v5, v6, v7]) :
    (W.cell? ⟨b, 0, none⟩ = some v0 ∧ W.cell? ⟨b, 1, none⟩ = some v1 ∧ W.cell? ⟨b, 2, none⟩ = some v2 ∧ W.cell? ⟨b, 3, none⟩ = some v3 ∧ W.cell? ⟨b, 4, none⟩ = some v4 ∧ W.cell? ⟨b, 5, none⟩ = some v5 ∧ W.cell? ⟨b, 6, none⟩ = some v6 ∧ W.cell? ⟨b, 7, none⟩ = some v7) ∧
    (W.frozen? ⟨b, 0, none⟩ = false ∧ W.frozen? ⟨b, 1, none⟩ = false ∧ W.frozen? ⟨b, 2, none⟩ = false ∧ W.frozen? ⟨b, 3, none⟩ = false ∧ W.frozen? ⟨b, 4, none⟩ = false ∧ W.frozen? ⟨b, 5, none⟩ = false ∧ W.frozen? ⟨b, 6, none⟩ = false ∧ W.frozen? ⟨b, 7, none⟩ = false) :=
  ⟨⟨(h.1 0 v0 rfl).1, (h.1 1 v1 rfl).1, (h.1 2 v2 rfl).1, (h.1 3 v3 rfl).1, (h.1 4 v4 rfl).1, (h.1 5 v5 rfl).1, (h.1 6 v6 rfl).1, (h.1 7 v7 rfl).1⟩,
   ⟨(h.1 0 v0 rfl).2, (h.1 1 v1 rfl).2, (h.1 2 v2 rfl).2, (h.1 3 v3 rfl).2, (h.1 4 v4 rfl).2, (h.1 5 v5 rfl).2, (h.1 6 v6 rfl).2, (h.1 7 v7 rfl).2⟩⟩
end Go.Proofs.YtimilfnbbimipajGreatDoor
