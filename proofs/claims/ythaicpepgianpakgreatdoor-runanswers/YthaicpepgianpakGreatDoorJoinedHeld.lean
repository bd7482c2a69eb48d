/-
  Texts joined: Held Kept.
-/
import Derived.Test.YthaicpepgianpakGreatDoorRingWalks
namespace Go.Proofs.YthaicpepgianpakGreatDoor
open Go.RowKit

/-- A block holds these values from its first cell on, and may be written. -/
def Held (W : World) (b : Nat) (vs : List Value) : Prop :=
  (∀ i v, vs[i]? = some v → W.cell? ⟨b, i, none⟩ = some v ∧ W.frozen? ⟨b, i, none⟩ = false) ∧ b < W.heap.size
theorem Held.later {W W' : World} {b : Nat} {vs : List Value} (h : Held W b vs) (hb : Below W.heap.size W W') : Held W' b vs := by
  obtain ⟨hc, hf, hz⟩ := lies hb
  exact ⟨fun i v hv => ⟨by rw [hc _ _ h.2]; exact (h.1 i v hv).1, by rw [hf _ _ h.2]; exact (h.1 i v hv).2⟩, by have := h.2; omega⟩
theorem Held.put {W : World} {b : Nat} {vs : List Value} (h : Held W b vs) (j : Nat) (v : Value) : Held (W.setCell ⟨b, j, none⟩ v) b (vs.set j v) := by
  refine ⟨fun i u hu => ⟨?_, ?_⟩, by simpa using h.2⟩
  · by_cases e : j = i
    · subst e
      by_cases hj : j < vs.length
      · rw [List.getElem?_set_self hj] at hu
        obtain rfl := Option.some.inj hu
        exact World.cell?_setCell_same _ _ _ (h.1 j vs[j] (List.getElem?_eq_getElem hj)).1
      · rw [List.getElem?_eq_none (by simp; omega)] at hu; cases hu
    · rw [List.getElem?_set_ne e] at hu
      rw [World.cell?_setCell_other (h := by intro he; exact e (Addr.mk.inj he).2.1)]
      exact (h.1 i u hu).1
  · by_cases e : j = i
    · subst e
      by_cases hj : j < vs.length
      · simpa using (h.1 j vs[j] (List.getElem?_eq_getElem hj)).2
      · rw [List.getElem?_eq_none (by simp; omega)] at hu; cases hu
    · rw [List.getElem?_set_ne e] at hu
      simpa using (h.1 i u hu).2
theorem Held.far {W : World} {b c : Nat} {vs : List Value} (h : Held W b vs) (hn : c ≠ b) (j : Nat) (v : Value) : Held (W.setCell ⟨c, j, none⟩ v) b vs := by
  refine ⟨fun i u hu => ⟨?_, by simpa using (h.1 i u hu).2⟩, by simpa using h.2⟩
  rw [World.cell?_setCell_other (h := fun he => hn (Addr.mk.inj he).1)]
  exact (h.1 i u hu).1
theorem Held.fresh {w : World} {b : Nat} (vs : List Value) (T : TypeId) (hb : w.heap.size = b) : Held (w.alloc (.cells vs.toArray T)) b vs := by
  subst hb
  refine ⟨fun i v hv => ⟨?_, ?_⟩, by simp⟩
  · rw [World.cell?_alloc_at _ _ _ _ (by simp)]
    simpa using hv
  · simp
theorem Held.c2 {W : World} {b : Nat} {x y : Value} (h : Held W b [x, y]) : (W.cell? ⟨b, 0, none⟩ = some x ∧ W.cell? ⟨b, 1, none⟩ = some y) ∧ (W.frozen? ⟨b, 0, none⟩ = false ∧ W.frozen? ⟨b, 1, none⟩ = false) :=
  ⟨⟨(h.1 0 _ rfl).1, (h.1 1 _ rfl).1⟩, (h.1 0 _ rfl).2, (h.1 1 _ rfl).2⟩
theorem Held.c3 {W : World} {b : Nat} {x y z : Value} (h : Held W b [x, y, z]) : (W.cell? ⟨b, 0, none⟩ = some x ∧ W.cell? ⟨b, 1, none⟩ = some y ∧ W.cell? ⟨b, 2, none⟩ = some z) ∧ (W.frozen? ⟨b, 0, none⟩ = false ∧ W.frozen? ⟨b, 1, none⟩ = false ∧ W.frozen? ⟨b, 2, none⟩ = false) :=
  ⟨⟨(h.1 0 _ rfl).1, (h.1 1 _ rfl).1, (h.1 2 _ rfl).1⟩, (h.1 0 _ rfl).2, (h.1 1 _ rfl).2, (h.1 2 _ rfl).2⟩
theorem Held.c4 {W : World} {b : Nat} {x y z u : Value} (h : Held W b [x, y, z, u]) : (W.cell? ⟨b, 0, none⟩ = some x ∧ W.cell? ⟨b, 1, none⟩ = some y ∧ W.cell? ⟨b, 2, none⟩ = some z ∧ W.cell? ⟨b, 3, none⟩ = some u) ∧ (W.frozen? ⟨b, 0, none⟩ = false ∧ W.frozen? ⟨b, 1, none⟩ = false ∧ W.frozen? ⟨b, 2, none⟩ = false ∧ W.frozen? ⟨b, 3, none⟩ = false) :=
  ⟨⟨(h.1 0 _ rfl).1, (h.1 1 _ rfl).1, (h.1 2 _ rfl).1, (h.1 3 _ rfl).1⟩, (h.1 0 _ rfl).2, (h.1 1 _ rfl).2, (h.1 2 _ rfl).2, (h.1 3 _ rfl).2⟩
/-- Rings, and what has four numbers, as rows. -/
def n2 (x y : Int) : List Value := [.int .i64 x, .int .i64 y]
def n3 (x y z : Int) : List Value := [.int .i64 x, .int .i64 y, .int .i64 z]
def n4 (x y z u : Int) : List Value := [.int .i64 x, .int .i64 y, .int .i64 z, .int .i64 u]

end Go.Proofs.YthaicpepgianpakGreatDoor
namespace Go.Proofs.YthaicpepgianpakGreatDoor
open Go.RowKit

theorem heap_put {w : World} {b i : Nat} {cs : Array Value} {T : TypeId} {fr : Nat × Nat} (h : w.heap[b]? = some (.cells cs T fr)) (v : Value) : (w.setCell ⟨b, i, none⟩ v).heap[b]? = some (.cells (cs.setIfInBounds i v) T fr) := by
  simp [World.setCell, Array.getElem?_modify, h]
/-- All that was there is as it was, but the blocks of F; there may be more. -/
structure Kept (F : List Nat) (w w' : World) : Prop where
  os : w'.os = w.os
  tape : w'.tape = w.tape
  output : w'.output = w.output
  size : w.heap.size ≤ w'.heap.size
  block : ∀ k, k < w.heap.size → k ∉ F → w'.heap[k]? = w.heap[k]?
theorem Kept.refl (F : List Nat) (w : World) : Kept F w w := ⟨rfl, rfl, rfl, Nat.le_refl _, fun _ _ _ => rfl⟩
theorem Kept.of {F : List Nat} {w w' : World} (h : Below w.heap.size w w') : Kept F w w' := ⟨h.os, h.tape, h.output, h.size, fun k hk _ => h.block k hk⟩
theorem Kept.trans {F : List Nat} {a b c : World} (h : Kept F a b) (k : Kept F b c) : Kept F a c :=
  ⟨k.os.trans h.os, k.tape.trans h.tape, k.output.trans h.output, Nat.le_trans h.size k.size, fun i hi hn => (k.block i (Nat.lt_of_lt_of_le hi h.size) hn).trans (h.block i hi hn)⟩
theorem Kept.mono {F G : List Nat} {w w' : World} (h : Kept F w w') (hs : ∀ k, k ∈ F → k ∈ G ∨ w.heap.size ≤ k) : Kept G w w' :=
  ⟨h.os, h.tape, h.output, h.size, fun k hk hn => h.block k hk (fun hf => by rcases hs k hf with q | q; exact hn q; omega)⟩
/-- Two steps, the second on blocks that the first made besides. -/
theorem Kept.step {F G : List Nat} {a b c : World} (h : Kept F a b) (k : Kept G b c) (hs : ∀ i, i ∈ G → i ∈ F ∨ a.heap.size ≤ i) : Kept F a c :=
  ⟨k.os.trans h.os, k.tape.trans h.tape, k.output.trans h.output, Nat.le_trans h.size k.size, fun i hi hn => (k.block i (Nat.lt_of_lt_of_le hi h.size) (fun hg => by rcases hs i hg with q | q; exact hn q; omega)).trans (h.block i hi hn)⟩
theorem Kept.alloc {F : List Nat} {a w : World} (h : Kept F a w) (o : Obj) : Kept F a (w.alloc o) :=
  h.trans ⟨rfl, rfl, rfl, by simp, fun _ hk _ => Below.heap_alloc _ _ _ hk⟩
theorem Kept.setCell {F : List Nat} {a w : World} (h : Kept F a w) {p : Addr} (hp : p.block ∈ F ∨ a.heap.size ≤ p.block) (u : Value) : Kept F a (w.setCell p u) :=
  ⟨h.os, h.tape, h.output, by have := h.size; simpa [World.setCell] using this, fun k hk hn => by
    rw [Below.heap_setCell _ _ _ _ (by rcases hp with q | q; exact fun e => hn (e ▸ q); omega)]
    exact h.block k hk hn⟩
theorem Kept.drew {F : List Nat} {a w : World} (h : Kept F a w) : Kept F a w.drew := ⟨h.os, h.tape, h.output, h.size, h.block⟩
theorem Kept.cell {F : List Nat} {w w' : World} (h : Kept F w w') {b o : Nat} (hb : b < w.heap.size) (hn : b ∉ F) : w'.cell? ⟨b, o, none⟩ = w.cell? ⟨b, o, none⟩ :=
  World.cell?_of_block (w := w) (h.block b hb hn)
theorem Kept.frozen {F : List Nat} {w w' : World} (h : Kept F w w') {b o : Nat} (hb : b < w.heap.size) (hn : b ∉ F) : w'.frozen? ⟨b, o, none⟩ = w.frozen? ⟨b, o, none⟩ :=
  World.frozen?_of_block (w := w) (h.block b hb hn)
theorem Kept.held {F : List Nat} {w w' : World} {b : Nat} {vs : List Value} (h : Kept F w w') (hh : Held w b vs) (hn : b ∉ F) : Held w' b vs :=
  ⟨fun i v hv => ⟨by rw [h.cell hh.2 hn]; exact (hh.1 i v hv).1, by rw [h.frozen hh.2 hn]; exact (hh.1 i v hv).2⟩, by have := h.size; have := hh.2; omega⟩
/-- What lay below B is as it was, where the thing's blocks are newer. -/
theorem Kept.below {F : List Nat} {B : Nat} {w0 w w' : World} (h : Kept F w w') (hb : Below B w0 w) (hB : B ≤ w.heap.size) (hF : ∀ k, k ∈ F → B ≤ k) : Below B w0 w' :=
  hb.trans ⟨h.os, h.tape, h.output, h.size, fun k hk => h.block k (by omega) (fun q => by have := hF k q; omega)⟩
theorem Kept.ints {F : List Nat} {w w' : World} {a : Option Addr} {zs : List Int} (h : Kept F w w') (hi : Ints w a zs) (hn : ∀ b off, a = some ⟨b, off, none⟩ → b < w.heap.size ∧ b ∉ F) : Ints w' a zs :=
  ⟨hi.1, fun k hk => by
    obtain ⟨b, off, e, hc⟩ := hi.2 k hk
    exact ⟨b, off, e, by rw [h.cell (hn b off e).1 (hn b off e).2]; exact hc⟩⟩
theorem Kept.grows {b : Nat} {w w' : World} (h : Kept [b] w w') : w.grownBy w' (some b) :=
  ⟨h.os, h.tape, h.output, h.size, fun k hk hn => h.block k hk (fun q => hn (by rw [List.mem_singleton.1 q]))⟩
/-- An own row stays, where the thing is elder. -/
theorem Kept.row {b base n : Nat} {e : TypeId} {size : Nat} {v : Value} {xs : List Value} {w w' : World} (h : Kept [b] w w') (ho : w.ownsRow base e size v n xs) (hb : b < base) : w'.ownsRow base e size v n xs :=
  ho.kept h.grows (.inr (fun q => by have := (ho.lt b q).1; omega))
theorem Held.grew {W W' : World} {b : Nat} {vs : List Value} {row : Option Nat} (h : Held W b vs) (hg : W.grownBy W' row) (hne : some b ≠ row) : Held W' b vs :=
  ⟨fun i v hv => ⟨(World.cell?_of_block (a := ⟨b, i, none⟩) (hg.block b h.2 hne)).trans (h.1 i v hv).1, (World.frozen?_of_block (a := ⟨b, i, none⟩) (hg.block b h.2 hne)).trans (h.1 i v hv).2⟩, Nat.lt_of_lt_of_le h.2 hg.size⟩
theorem own_took {w : World} {base n : Nat} {e : TypeId} {v : Value} {zs : List Int} (h : w.ownsRow base e 1 v n (zs.map (Value.int .i64))) (hn : n ≤ 60) :
    ∃ a cap, v = .slice a n cap ∧ zs.length = n ∧ Ints w a zs := by
  have hl : zs.length = n := by have := h.1; simpa using this
  rcases h.2 with ⟨rfl, h0⟩ | ⟨g, cap, cur, rfl, _⟩
  · have : zs = [] := List.length_eq_zero_iff.1 (by omega)
    subst this
    exact ⟨none, 0, by rw [h0], hl, nil_ints w⟩
  · exact ⟨_, cap, rfl, hl, (own_ints h (by unfold maxLen; omega)).2⟩
end Go.Proofs.YthaicpepgianpakGreatDoor
