/-
  A thing behind a pointer that has a slice of pairs of its own: where it lies, what a call on it leaves.
-/
import Derived.Test.YthaicpepgianpakGreatDoorJoinedHeld
import Derived.Test.YthaicpepgianpakGreatDoorQueueMath
import Derived.Lib.Builder
import Derived.Lib.SmallJoins
import Derived.Lib.SliceRun
import Derived.Deep.AppendLies
namespace Go.Proofs.YthaicpepgianpakGreatDoor
open Go.RowKit

theorem infoConn : (Tryz.prog.info? 78).map (fun i => (i.zero, i.size, i.bytes)) = some (some (.agg #[.int .i64 0, .int .i64 0]), 2, 16) := by kernel_rfl

/-- It lies at b; its row is the block o, if it has one; these wait; nothing of it lies below B. -/
def QAt (T : TypeId) (B : Nat) (w : World) (b : Nat) (o : Option Nat) (L : List (Int × Int)) : Prop :=
  B ≤ b ∧ ∃ v, v.ownBlock = o ∧ w.heap[b]? = some (.cells #[v] T (0, 0)) ∧ w.ownsRow B 78 2 v L.length (flat L)
/-- What a call on it leaves: its row is the one it was, or a new block; nothing else was written. -/
def QStep (T : TypeId) (B : Nat) (w w' : World) (b : Nat) (o : Option Nat) (L : List (Int × Int)) : Prop :=
  ∃ o', QAt T B w' b o' L ∧ (∀ k, o' = some k → o = some k ∨ w.heap.size ≤ k) ∧ Kept (b :: o.toList) w w'

theorem heap_puts {b : Nat} {T : TypeId} {fr : Nat × Nat} : ∀ (vs : List Value) (i : Nat) (w : World) (cs : Array Value), w.heap[b]? = some (.cells cs T fr) → (w.setCells b i vs).heap[b]? = some (.cells (Go.Lib.lay cs i vs) T fr)
  | [], _, _, _, h => h
  | v :: r, i, _, _, h => heap_puts r (i + 1) _ _ (heap_put h v)
theorem kept_puts {F : List Nat} {b : Nat} {a : World} (hb : b ∈ F) : ∀ (vs : List Value) (i : Nat) (w : World), Kept F a w → Kept F a (w.setCells b i vs)
  | [], _, _, h => h
  | v :: r, i, _, h => kept_puts hb r (i + 1) _ (h.setCell (p := ⟨b, i, none⟩) (.inl hb) v)

theorem row_not {w : World} {B b n : Nat} {e T : TypeId} {size : Nat} {v : Value} {xs : List Value} {cs : Array Value} {fr : Nat × Nat} (h : w.ownsRow B e size v n xs) (h2 : w.heap[b]? = some (.cells cs T fr)) (hT : T ≠ e) : v.ownBlock ≠ some b := by
  intro hb
  rcases h.2 with ⟨rfl, _⟩ | ⟨g, cap, cur, rfl, _, hg, _⟩
  · simp [Value.ownBlock] at hb
  · simp only [Value.ownBlock, Option.some.injEq] at hb
    subst hb
    rw [h2] at hg
    simp only [Option.some.injEq, Obj.cells.injEq] at hg
    exact hT hg.2.1
theorem QAt.lt {T : TypeId} {B : Nat} {w : World} {b : Nat} {o : Option Nat} {L : List (Int × Int)} (h : QAt T B w b o L) : b < w.heap.size := by
  obtain ⟨_, v, _, h2, _⟩ := h
  exact (Array.getElem?_eq_some_iff.1 h2).1
theorem QAt.row {T : TypeId} {B : Nat} {w : World} {b : Nat} {o : Option Nat} {L : List (Int × Int)} (h : QAt T B w b o L) {k : Nat} (hk : o = some k) : B ≤ k ∧ k < w.heap.size := by
  obtain ⟨_, v, h1, _, h3⟩ := h
  exact h3.lt k (h1.trans hk)
theorem QAt.kept {T : TypeId} {B : Nat} {w w' : World} {b : Nat} {o : Option Nat} {L : List (Int × Int)} {F : List Nat} (h : QAt T B w b o L) (hk : Kept F w w') (hb : b ∉ F) (ho : ∀ k, o = some k → k ∉ F) : QAt T B w' b o L := by
  have hl := h.lt
  obtain ⟨h0, v, h1, h2, h3⟩ := h
  refine ⟨h0, v, h1, by rw [hk.block b hl hb]; exact h2, h3.1, ?_⟩
  rcases h3.2 with q | ⟨g, cap, cur, rfl, q1, q2, q3⟩
  · exact .inl q
  · refine .inr ⟨g, cap, cur, rfl, q1, ?_, q3⟩
    rw [hk.block g (Array.getElem?_eq_some_iff.1 q2).1 (ho g (by rw [← h1]; rfl))]
    exact q2
theorem QAt.later {T : TypeId} {B : Nat} {w w' : World} {b : Nat} {o : Option Nat} {L : List (Int × Int)} (h : QAt T B w b o L) (hb : Below w.heap.size w w') : QAt T B w' b o L :=
  h.kept (F := []) (Kept.of hb) (by simp) (by simp)
theorem QAt.down {T : TypeId} {B B' : Nat} {w : World} {b : Nat} {o : Option Nat} {L : List (Int × Int)} (h : QAt T B w b o L) (hB : B' ≤ B) : QAt T B' w b o L := by
  obtain ⟨h0, v, h1, h2, h3⟩ := h
  exact ⟨by omega, v, h1, h2, own_base h3 hB⟩
theorem QAt.apart {T : TypeId} {B : Nat} {w : World} {b : Nat} {o : Option Nat} {L : List (Int × Int)} (h : QAt T B w b o L) (hT : T ≠ 78) : o ≠ some b := by
  obtain ⟨h0, v, h1, h2, h3⟩ := h
  rw [← h1]
  exact row_not h3 h2 hT
theorem QStep.same {T : TypeId} {B : Nat} {w w' : World} {b : Nat} {o : Option Nat} {L : List (Int × Int)} (h : QAt T B w b o L) (hb : Below w.heap.size w w') : QStep T B w w' b o L :=
  ⟨o, h.later hb, fun _ hk => .inl hk, Kept.of hb⟩
/-- A step behind calls that left all as it was. -/
theorem QStep.behind {T : TypeId} {B : Nat} {w w1 w' : World} {b : Nat} {o : Option Nat} {L : List (Int × Int)} (hb : Below w.heap.size w w1) (h : QStep T B w1 w' b o L) : QStep T B w w' b o L := by
  obtain ⟨o', h1, h2, h3⟩ := h
  exact ⟨o', h1, fun k hk => (h2 k hk).imp_right (fun q => Nat.le_trans hb.size q), (Kept.of hb).trans h3⟩
/-- Calls behind a step that left all as it was. -/
theorem QStep.ahead {T : TypeId} {B : Nat} {w w1 w' : World} {b : Nat} {o : Option Nat} {L : List (Int × Int)} (h : QStep T B w w1 b o L) (hb : Below w1.heap.size w1 w') : QStep T B w w' b o L := by
  obtain ⟨o', h1, h2, h3⟩ := h
  exact ⟨o', h1.later hb, h2, h3.trans (Kept.of hb)⟩
theorem QStep.below {T : TypeId} {B : Nat} {w0 w w' : World} {b : Nat} {o : Option Nat} {L L' : List (Int × Int)} (hs : QStep T B w w' b o L') (h : QAt T B w b o L) (hb : Below B w0 w) (hB : B ≤ w.heap.size) : Below B w0 w' := by
  obtain ⟨o', _, _, h3⟩ := hs
  refine h3.below hb hB (fun k hk => ?_)
  rcases List.mem_cons.1 hk with rfl | hk
  · exact h.1
  · exact (h.row (by simpa using hk)).1
/-- The thing as it is behind a new slice: stored into its only cell. -/
theorem QAt.put {T : TypeId} {B : Nat} {w w1 : World} {b : Nat} {v v' : Value} {L' : List (Int × Int)} (h0 : B ≤ b) (h2 : w.heap[b]? = some (.cells #[v] T (0, 0))) (hT : T ≠ 78)
    (hk : Kept v.ownBlock.toList w w1) (hne : v.ownBlock ≠ some b) (hown : w1.ownsRow B 78 2 v' L'.length (flat L')) (hf : ∀ k, v'.ownBlock = some k → v.ownBlock = some k ∨ w.heap.size ≤ k) :
    QStep T B w (w1.setCell ⟨b, 0, none⟩ v') b v.ownBlock L' := by
  have hl : b < w.heap.size := (Array.getElem?_eq_some_iff.1 h2).1
  have k2 : w1.heap[b]? = some (.cells #[v] T (0, 0)) := by rw [hk.block b hl (by simpa using hne)]; exact h2
  have hne' : v'.ownBlock ≠ some b := row_not hown k2 hT
  refine ⟨v'.ownBlock, ⟨h0, v', rfl, heap_put k2 _, ?_⟩, hf, ?_⟩
  · exact hown.kept (row := some b) ⟨rfl, rfl, rfl, by simp [World.setCell], fun k _ hk => Below.heap_setCell _ _ _ _ (fun e => hk (by simp [e]))⟩ (.inr hne')
  · exact Kept.setCell (F := b :: v.ownBlock.toList) (hk.mono (fun k hk => .inl (List.mem_cons_of_mem _ hk))) (p := ⟨b, 0, none⟩) (.inl (List.mem_cons_self ..)) _
/-- Stores into a block that the call made itself, behind the step. -/
theorem QStep.far {T : TypeId} {B R : Nat} {w W w1 w2 : World} {b : Nat} {o : Option Nat} {L L' : List (Int × Int)} (hs : QStep T B W w1 b o L') (hw : Below w.heap.size w W) (hq : QAt T B w b o L) (hR : w.heap.size ≤ R) (hR2 : R < W.heap.size) (hk : Kept [R] w1 w2) : QStep T B w w2 b o L' := by
  obtain ⟨o', h1, h2, h3⟩ := hs
  have hl := hq.lt
  refine ⟨o', h1.kept hk (by simp; omega) (fun k hk' => ?_), fun k hk' => (h2 k hk').imp_right (fun q => Nat.le_trans hw.size q), ((Kept.of hw).trans h3).step hk (fun i hi => .inr (by rw [List.mem_singleton.1 hi]; exact hR))⟩
  rcases h2 k hk' with q | q
  · have := (hq.row q).2
    simp; omega
  · simp; omega
theorem QAt.held {T : TypeId} {B R : Nat} {w W w1 : World} {b : Nat} {o : Option Nat} {L L' : List (Int × Int)} {vs : List Value} (hq : QAt T B w b o L) (hs : QStep T B W w1 b o L') (hh : Held W R vs) (hR : w.heap.size ≤ R) : Held w1 R vs := by
  obtain ⟨o', _, _, h3⟩ := hs
  have hl := hq.lt
  refine h3.held hh (fun hm => ?_)
  rcases List.mem_cons.1 hm with e | e
  · omega
  · have := (hq.row (k := R) (by simpa using e)).2
    omega
theorem grown_kept {w w' : World} {o : Option Nat} (h : w.grownBy w' o) : Kept o.toList w w' :=
  ⟨h.os, h.tape, h.output, h.size, fun k hk hn => h.block k hk (fun e => hn (by rw [← e]; simp))⟩

/-- The thing behind an append of one to its row (the pair lay in a block of its own), stored into its only cell. -/
theorem QAt.grew {T : TypeId} {B g n cap : Nat} {w w1 : World} {b : Nat} {v : Value} {L : List (Int × Int)} {x t : Int} {ob : Obj} (hn : L.length = n) (h0 : B ≤ b) (h2 : w.heap[b]? = some (.cells #[v] T (0, 0))) (hT : T ≠ 78) (hne : v.ownBlock ≠ some b)
    (hown : w1.ownsRow B 78 2 (.slice (some ⟨g, 0, none⟩) (n + 1) cap) (n + 1) (flat L ++ [.int .i64 x, .int .i64 t])) (hg : (w.drew.alloc ob).grownBy w1 v.ownBlock) (hat : v.ownBlock = some g ∨ g = w.heap.size + 1) :
    QStep T B w (w1.setCell ⟨b, 0, none⟩ (.slice (some ⟨g, 0, none⟩) (n + 1) cap)) b v.ownBlock (L ++ [(x, t)]) := by
  subst hn
  refine QAt.put h0 h2 hT (((Kept.refl _ w).drew.alloc ob).trans (grown_kept hg)) hne ?_ (fun k hk => ?_)
  · rw [flat_append, List.length_append]; exact hown
  · simp only [Value.ownBlock, Option.some.injEq] at hk
    subst hk
    rcases hat with q | q
    · exact .inl q
    · exact .inr (by omega)
theorem grew_cell {w w1 : World} {b : Nat} {v : Value} {T : TypeId} {o : Option Nat} {ob : Obj} (h2 : w.heap[b]? = some (.cells #[v] T (0, 0))) (hne : o ≠ some b) (hg : (w.drew.alloc ob).grownBy w1 o) : w1.cell? ⟨b, 0, none⟩ = some v ∧ w1.frozen? ⟨b, 0, none⟩ = false ∧ b < w1.heap.size := by
  have hl : b < w.heap.size := (Array.getElem?_eq_some_iff.1 h2).1
  have k2 : w1.heap[b]? = some (.cells #[v] T (0, 0)) := by
    rw [hg.block b (by simp; omega) (Ne.symm hne), Below.heap_alloc _ _ _ (show b < w.drew.heap.size from hl)]
    exact h2
  exact ⟨by rw [Go.Lib.cell_of_heap k2]; rfl, Go.Lib.frozen_of_heap k2 0, (Array.getElem?_eq_some_iff.1 k2).1⟩
/-- The thing beside a slice of pairs whose row is another block. -/
def QIn (T : TypeId) (B : Nat) (w : World) (b : Nat) (L : List (Int × Int)) (v : Value) (M : List (Int × Int)) : Prop :=
  ∃ o, QAt T B w b o L ∧ w.ownsRow B 78 2 v M.length (flat M) ∧ ∀ j, o = some j → v.ownBlock ≠ some j
theorem QIn.later {T : TypeId} {B : Nat} {w w' : World} {b : Nat} {L M : List (Int × Int)} {v : Value} (h : QIn T B w b L v M) (hb : Below w.heap.size w w') : QIn T B w' b L v M := by
  obtain ⟨o, h1, h2, h3⟩ := h
  exact ⟨o, h1.later hb, own_later h2 hb, h3⟩
/-- A step of the thing leaves the slice. -/
theorem QIn.step {T : TypeId} {B : Nat} {w w' : World} {b : Nat} {o : Option Nat} {L L' M : List (Int × Int)} {v : Value} (hT : T ≠ 78) (h1 : QAt T B w b o L) (h2 : w.ownsRow B 78 2 v M.length (flat M)) (h3 : ∀ j, o = some j → v.ownBlock ≠ some j) (hs : QStep T B w w' b o L') : QIn T B w' b L' v M := by
  obtain ⟨o', q1, q2, q3⟩ := hs
  have hnb : v.ownBlock ≠ some b := by
    obtain ⟨_, u, _, p2, _⟩ := h1
    exact row_not h2 p2 hT
  refine ⟨o', q1, ⟨h2.1, ?_⟩, fun j hj => ?_⟩
  · rcases h2.2 with q | ⟨g, cap, cur, rfl, p1, p2, p3⟩
    · exact .inl q
    · refine .inr ⟨g, cap, cur, rfl, p1, ?_, p3⟩
      rw [q3.block g (Array.getElem?_eq_some_iff.1 p2).1 (fun hm => ?_)]
      · exact p2
      · rcases List.mem_cons.1 hm with e | e
        · exact hnb (by rw [← e]; rfl)
        · exact h3 g (by simpa using e) rfl
  · rcases q2 j hj with e | e
    · exact h3 j e
    · intro hv
      have := (h2.lt j hv).2
      omega
/-- An append to the slice leaves the thing. -/
theorem QIn.snoc {T : TypeId} {B g n cap : Nat} {w w1 : World} {b : Nat} {v : Value} {L M : List (Int × Int)} {x t : Int} {ob : Obj} (hT : T ≠ 78) (hn : M.length = n) (h : QIn T B w b L v M)
    (hown : w1.ownsRow B 78 2 (.slice (some ⟨g, 0, none⟩) (n + 1) cap) (n + 1) (flat M ++ [.int .i64 x, .int .i64 t])) (hg : (w.alloc ob).grownBy w1 v.ownBlock) (hat : v.ownBlock = some g ∨ g = w.heap.size + 1) :
    QIn T B w1 b L (.slice (some ⟨g, 0, none⟩) (n + 1) cap) (M ++ [(x, t)]) := by
  obtain ⟨o, h1, h2, h3⟩ := h
  have hnb : v.ownBlock ≠ some b := by
    obtain ⟨_, u, _, p2, _⟩ := h1
    exact row_not h2 p2 hT
  refine ⟨o, h1.kept (((Kept.refl _ w).alloc ob).trans (grown_kept hg)) (by simpa using hnb) (fun k hk => by simpa using h3 k hk), by rw [flat_append, List.length_append, hn]; exact hown, fun j hj => ?_⟩
  have hjl := (h1.row hj).2
  rcases hat with q | q
  · rw [← show v.ownBlock = Value.ownBlock (.slice (some ⟨g, 0, none⟩) (n + 1) cap) from q]; exact h3 j hj
  · simp [Value.ownBlock]; omega
theorem QIn.below {T : TypeId} {B : Nat} {w w1 : World} {b : Nat} {L M : List (Int × Int)} {v : Value} {w0 : World} {ob : Obj} (h : QIn T B w b L v M) (hb : Below B w0 w) (hB : B ≤ w.heap.size) (hg : (w.alloc ob).grownBy w1 v.ownBlock) : Below B w0 w1 := by
  obtain ⟨o, _, h2, _⟩ := h
  exact (Below.alloc hb hB _).grown hg (by simp; omega) (fun k hk => (h2.lt k hk).1)
/-- 'clear' of pairs: the cells hold zero values; nothing else turns. -/
theorem run_clear_pairs {P : Program} (w : World) (t e ty : TypeId) (z : Value) (ht : P.underlying t = some (.slice e)) (hv : ∀ w, (zeroValue e).run P w = .ok z w) (b o n c : Nat) (hn : 0 < n)
    (h1 : ∀ u ∈ (Builtin.zeroCells z.cells n).toList, u.oneCell' = true)
    (hc : ∀ j, j < (Builtin.zeroCells z.cells n).toList.length → (w.cell? ⟨b, o + j, none⟩).isSome = true) (hf : ∀ j, j < (Builtin.zeroCells z.cells n).toList.length → w.frozen? ⟨b, o + j, none⟩ = false) :
    (Builtin.clear_ #[t] ty #[.slice (some ⟨b, o, none⟩) n c]).run P w = .ok (.tuple #[]) (w.setCells b o (Builtin.zeroCells z.cells n).toList) := by
  have hst := Go.run_storeCells_cells (P := P) b o (Builtin.zeroCells z.cells n).toList 0 w (by simpa using hc) (by simpa using hf) h1
  simp only [Nat.add_zero] at hst
  obtain ⟨m, rfl⟩ : ∃ m, n = m + 1 := ⟨n - 1, by omega⟩
  simp [Builtin.clear_, run_underlying ht, hv, hst]
end Go.Proofs.YthaicpepgianpakGreatDoor
