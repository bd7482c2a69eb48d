/-
  What a call on a thing leaves: all blocks as they were but some of its own ('Kept F'): for things behind pointers.
-/
import Derived.Test.YtfhpfdlbgmgclakDoorHeld
namespace Go.Proofs.YtfhpfdlbgmgclakDoor
open Go.RowKit

theorem heap_put {w : World} {b i : Nat} {cs : Array Value} {T : TypeId} {fr : Nat × Nat} (h : w.heap[b]? = some (.cells cs T fr)) (v : Value) : (w.setCell ⟨b, i, none⟩ v).heap[b]? = some (.cells (cs.setIfInBounds i v) T fr) := by
  simp [World.setCell, Array.getElem?_modify, h]
/-- All that was there is as it was, but the blocks of F; there may be more. -/
structure Kept (F : List Nat) (w w' : World) : Prop where
  os : w'.os = w.os
  tape : w'.tape = w.tape
  output : w'.output = w.output
  size : w.heap.size ≤ w'.heap.size
  block : ∀ k, k < w.heap.size → k ∉ F → w'.heap[k]? = w.heap[k]?
theorem Kept.refl (F : List Nat) (w : World) : Kept F w w := ⟨rfl, rfl, rfl, Nat.le_refl _, fun _ _ _ => rfl⟩
theorem Kept.of {F : List Nat} {w w' : World} (h : Below w.heap.size w w') : Kept F w w' := ⟨h.os, h.tape, h.output, h.size, fun k hk _ => h.block k hk⟩
theorem Kept.trans {F : List Nat} {a b c : World} (h : Kept F a b) (k : Kept F b c) : Kept F a c :=
  ⟨k.os.trans h.os, k.tape.trans h.tape, k.output.trans h.output, Nat.le_trans h.size k.size, fun i hi hn => (k.block i (Nat.lt_of_lt_of_le hi h.size) hn).trans (h.block i hi hn)⟩
theorem Kept.mono {F G : List Nat} {w w' : World} (h : Kept F w w') (hs : ∀ k, k ∈ F → k ∈ G ∨ w.heap.size ≤ k) : Kept G w w' :=
  ⟨h.os, h.tape, h.output, h.size, fun k hk hn => h.block k hk (fun hf => by rcases hs k hf with q | q; exact hn q; omega)⟩
/-- Two steps, the second on blocks that the first made besides. -/
theorem Kept.step {F G : List Nat} {a b c : World} (h : Kept F a b) (k : Kept G b c) (hs : ∀ i, i ∈ G → i ∈ F ∨ a.heap.size ≤ i) : Kept F a c :=
  ⟨k.os.trans h.os, k.tape.trans h.tape, k.output.trans h.output, Nat.le_trans h.size k.size, fun i hi hn => (k.block i (Nat.lt_of_lt_of_le hi h.size) (fun hg => by rcases hs i hg with q | q; exact hn q; omega)).trans (h.block i hi hn)⟩
theorem Kept.alloc {F : List Nat} {a w : World} (h : Kept F a w) (o : Obj) : Kept F a (w.alloc o) :=
  h.trans ⟨rfl, rfl, rfl, by simp, fun _ hk _ => Below.heap_alloc _ _ _ hk⟩
theorem Kept.setCell {F : List Nat} {a w : World} (h : Kept F a w) {p : Addr} (hp : p.block ∈ F ∨ a.heap.size ≤ p.block) (u : Value) : Kept F a (w.setCell p u) :=
  ⟨h.os, h.tape, h.output, by have := h.size; simpa [World.setCell] using this, fun k hk hn => by
    rw [Below.heap_setCell _ _ _ _ (by rcases hp with q | q; exact fun e => hn (e ▸ q); omega)]
    exact h.block k hk hn⟩
theorem Kept.drew {F : List Nat} {a w : World} (h : Kept F a w) : Kept F a w.drew := ⟨h.os, h.tape, h.output, h.size, h.block⟩
theorem Kept.cell {F : List Nat} {w w' : World} (h : Kept F w w') {b o : Nat} (hb : b < w.heap.size) (hn : b ∉ F) : w'.cell? ⟨b, o, none⟩ = w.cell? ⟨b, o, none⟩ :=
  World.cell?_of_block (w := w) (h.block b hb hn)
theorem Kept.frozen {F : List Nat} {w w' : World} (h : Kept F w w') {b o : Nat} (hb : b < w.heap.size) (hn : b ∉ F) : w'.frozen? ⟨b, o, none⟩ = w.frozen? ⟨b, o, none⟩ :=
  World.frozen?_of_block (w := w) (h.block b hb hn)
theorem Kept.held {F : List Nat} {w w' : World} {b : Nat} {vs : List Value} (h : Kept F w w') (hh : Held w b vs) (hn : b ∉ F) : Held w' b vs :=
  ⟨fun i v hv => ⟨by rw [h.cell hh.2 hn]; exact (hh.1 i v hv).1, by rw [h.frozen hh.2 hn]; exact (hh.1 i v hv).2⟩, by have := h.size; have := hh.2; omega⟩
/-- What lay below B is as it was, where the thing's blocks are newer. -/
theorem Kept.below {F : List Nat} {B : Nat} {w0 w w' : World} (h : Kept F w w') (hb : Below B w0 w) (hB : B ≤ w.heap.size) (hF : ∀ k, k ∈ F → B ≤ k) : Below B w0 w' :=
  hb.trans ⟨h.os, h.tape, h.output, h.size, fun k hk => h.block k (by omega) (fun q => by have := hF k q; omega)⟩
theorem Kept.ints {F : List Nat} {w w' : World} {a : Option Addr} {zs : List Int} (h : Kept F w w') (hi : Ints w a zs) (hn : ∀ b off, a = some ⟨b, off, none⟩ → b < w.heap.size ∧ b ∉ F) : Ints w' a zs :=
  ⟨hi.1, fun k hk => by
    obtain ⟨b, off, e, hc⟩ := hi.2 k hk
    exact ⟨b, off, e, by rw [h.cell (hn b off e).1 (hn b off e).2]; exact hc⟩⟩
theorem Kept.grows {b : Nat} {w w' : World} (h : Kept [b] w w') : w.grownBy w' (some b) :=
  ⟨h.os, h.tape, h.output, h.size, fun k hk hn => h.block k hk (fun q => hn (by rw [List.mem_singleton.1 q]))⟩
/-- An own row stays, where the thing is elder. -/
theorem Kept.row {b base n : Nat} {e : TypeId} {size : Nat} {v : Value} {xs : List Value} {w w' : World} (h : Kept [b] w w') (ho : w.ownsRow base e size v n xs) (hb : b < base) : w'.ownsRow base e size v n xs :=
  ho.kept h.grows (.inr (fun q => by have := (ho.lt b q).1; omega))
theorem Held.grew {W W' : World} {b : Nat} {vs : List Value} {row : Option Nat} (h : Held W b vs) (hg : W.grownBy W' row) (hne : some b ≠ row) : Held W' b vs :=
  ⟨fun i v hv => ⟨(World.cell?_of_block (a := ⟨b, i, none⟩) (hg.block b h.2 hne)).trans (h.1 i v hv).1, (World.frozen?_of_block (a := ⟨b, i, none⟩) (hg.block b h.2 hne)).trans (h.1 i v hv).2⟩, Nat.lt_of_lt_of_le h.2 hg.size⟩
theorem own_took {w : World} {base n : Nat} {e : TypeId} {v : Value} {zs : List Int} (h : w.ownsRow base e 1 v n (zs.map (Value.int .i64))) (hn : n ≤ 60) :
    ∃ a cap, v = .slice a n cap ∧ zs.length = n ∧ Ints w a zs := by
  have hl : zs.length = n := by have := h.1; simpa using this
  rcases h.2 with ⟨rfl, h0⟩ | ⟨g, cap, cur, rfl, _⟩
  · have : zs = [] := List.length_eq_zero_iff.1 (by omega)
    subst this
    exact ⟨none, 0, by rw [h0], hl, nil_ints w⟩
  · exact ⟨_, cap, rfl, hl, (own_ints h (by unfold maxLen; omega)).2⟩
end Go.Proofs.YtfhpfdlbgmgclakDoor
