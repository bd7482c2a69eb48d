/-
  A log beside the rows that a play keeps of it: what the records come to one by one, and how many bytes they have.
-/
import Derived.Test.YtfhpfdlbgmgclakDoorLogCrash
import Derived.Test.YtfhpfdlbgmgclakDoorRefSpent
namespace Go.Proofs.YtfhpfdlbgmgclakDoor
open Go.RowKit

def slcV (d : Option Addr × Nat × Nat) : Value := .slice d.1 d.2.1 d.2.2
def markV (m : Nat) : List Value := (List.range m).map fun i : Nat => Value.int .i64 ((9 * i : Nat) : Int)
theorem markV_length (m : Nat) : (markV m).length = m := by simp [markV]
theorem markV_succ (m : Nat) : markV (m + 1) = markV m ++ [.int .i64 ((9 * m : Nat) : Int)] := by simp [markV, List.range_succ]
theorem markV_take {m q : Nat} (h : q ≤ m) : (markV m).take q = markV q := by
  unfold markV
  rw [← List.map_take, List.take_range, Nat.min_eq_left h]
theorem markV_at {m k : Nat} (h : k < m) : (markV m)[k]? = some (.int .i64 ((9 * k : Nat) : Int)) := by simp [markV, h]
/-- The rows of what the first records come to. -/
def Rows2 (W : World) (R : List LogM.Rec) (DL : List (Option Addr × Nat × Nat)) : Prop := DL.length = R.length + 1 ∧ ∀ k, k < DL.length → KRow W (DL.getD k (none, 0, 0)).1 (DL.getD k (none, 0, 0)).2.1 (DL.getD k (none, 0, 0)).2.2 (LogM.hist (R.take k))
theorem Rows2.still {S : List TypeId} {W W' : World} {R : List LogM.Rec} {DL : List (Option Addr × Nat × Nat)} (h : Rows2 W R DL) (hs : Still S W W') (hT : 34 ∉ S) : Rows2 W' R DL := ⟨h.1, fun k hk => (h.2 k hk).still hs hT⟩
theorem Rows2.later {W W' : World} {R : List LogM.Rec} {DL : List (Option Addr × Nat × Nat)} (h : Rows2 W R DL) (hb : Below W.heap.size W W') : Rows2 W' R DL := ⟨h.1, fun k hk => (h.2 k hk).later hb⟩
theorem Rows2.snoc {W : World} {R : List LogM.Rec} {r : LogM.Rec} {DL : List (Option Addr × Nat × Nat)} {a : Option Addr} {n c : Nat} (h : Rows2 W R DL) (hk : KRow W a n c (LogM.hist (R ++ [r]))) : Rows2 W (R ++ [r]) (DL ++ [(a, n, c)]) := by
  refine ⟨by simp [h.1], fun k hlt => ?_⟩
  by_cases q : k < DL.length
  · have e : (DL ++ [(a, n, c)]).getD k (none, 0, 0) = DL.getD k (none, 0, 0) := by simp [List.getD, List.getElem?_append_left q]
    have h1 := h.1
    rw [e, List.take_append_of_le_length (by omega)]
    exact h.2 k q
  · obtain rfl : k = DL.length := by simp at hlt; omega
    have e : (DL ++ [(a, n, c)]).getD DL.length (none, 0, 0) = (a, n, c) := by simp [List.getD]
    rw [e, List.take_of_length_le (by simp [h.1])]
    exact hk
theorem Rows2.take {W : World} {R : List LogM.Rec} {DL : List (Option Addr × Nat × Nat)} (h : Rows2 W R DL) {q : Nat} (hq : q ≤ R.length) : Rows2 W (R.take q) (DL.take (q + 1)) := by
  have h1 := h.1
  refine ⟨by simp; omega, fun k hk => ?_⟩
  have hk' : k < q + 1 ∧ k < DL.length := by simpa [Nat.lt_min] using hk
  have e : (DL.take (q + 1)).getD k (none, 0, 0) = DL.getD k (none, 0, 0) := by simp [List.getD, hk'.1]
  rw [e, List.take_take, Nat.min_eq_left (by omega)]
  exact h.2 k hk'.2
/-- The play's two rows. -/
def Two2 (B : Nat) (W : World) (R : List LogM.Rec) (gd cd gm cm : Nat) (DL : List (Option Addr × Nat × Nat)) : Prop :=
  W.ownsRow B 31 1 (.slice (some ⟨gd, 0, none⟩) (R.length + 1) cd) (R.length + 1) (DL.map slcV) ∧ W.ownsRow B 3 1 (.slice (some ⟨gm, 0, none⟩) (R.length + 1) cm) (R.length + 1) (markV (R.length + 1)) ∧ Rows2 W R DL
theorem Two2.still {S : List TypeId} {B : Nat} {W W' : World} {R : List LogM.Rec} {gd cd gm cm : Nat} {DL : List (Option Addr × Nat × Nat)} (h : Two2 B W R gd cd gm cm DL) (hs : Still S W W') (h1 : 31 ∉ S) (h2 : 3 ∉ S) (h3 : 34 ∉ S) : Two2 B W' R gd cd gm cm DL :=
  ⟨hs.own h.1 h1, hs.own h.2.1 h2, h.2.2.still hs h3⟩
theorem Two2.later {B : Nat} {W W' : World} {R : List LogM.Rec} {gd cd gm cm : Nat} {DL : List (Option Addr × Nat × Nat)} (h : Two2 B W R gd cd gm cm DL) (hb : Below W.heap.size W W') : Two2 B W' R gd cd gm cm DL :=
  h.still (S := []) (Still.of hb) (by simp) (by simp) (by simp)
theorem Two2.log {B : Nat} {W W' : World} {R : List LogM.Rec} {gd cd gm cm : Nat} {DL : List (Option Addr × Nat × Nat)} (h : Two2 B W R gd cd gm cm DL) (hs : Still logS W W') : Two2 B W' R gd cd gm cm DL :=
  h.still hs (by decide) (by decide) (by decide)
theorem Two2.take {B : Nat} {W : World} {R : List LogM.Rec} {gd cd gm cm q : Nat} {DL : List (Option Addr × Nat × Nat)} (h : Two2 B W R gd cd gm cm DL) (hq : q ≤ R.length) : Two2 B W (R.take q) gd cd gm cm (DL.take (q + 1)) := by
  have hl : (R.take q).length = q := by rw [List.length_take]; omega
  refine ⟨?_, ?_, h.2.2.take hq⟩
  · rw [hl, List.map_take]; exact own_cut h.1 (by omega)
  · rw [hl, ← markV_take (m := R.length + 1) (by omega)]; exact own_cut h.2.1 (by omega)
/-- What is read of them. -/
theorem Two2.at {B : Nat} {W : World} {R : List LogM.Rec} {gd cd gm cm : Nat} {DL : List (Option Addr × Nat × Nat)} (h : Two2 B W R gd cd gm cm DL) {k : Nat} (hk : k ≤ R.length) :
    (∃ a n c, W.cell? ⟨gd, k, none⟩ = some (.slice a n c) ∧ KRow W a n c (LogM.hist (R.take k))) ∧ W.cell? ⟨gm, k, none⟩ = some (.int .i64 ((9 * k : Nat) : Int)) := by
  have hl := h.2.2.1
  refine ⟨⟨_, _, _, ?_, h.2.2.2 k (by omega)⟩, ?_⟩
  · rw [h.1.cellAt k (by omega)]
    have hk' : k < DL.length := by omega
    simp [slcV, List.getD, hk']
  · rw [h.2.1.cellAt k (by omega), markV_at (by omega)]
theorem Two2.new {B gd gm : Nat} {W : World} (h1 : B ≤ gd) (h2 : B ≤ gm) (e1 : W.heap[gd]? = some (.cells #[.slice none 0 0] 31 (0, 0))) (e2 : W.heap[gm]? = some (.cells #[.int .i64 0] 3 (0, 0))) : Two2 B W [] gd 1 gm 1 [(none, 0, 0)] := by
  refine ⟨⟨rfl, .inr ⟨gd, 1, _, rfl, h1, e1, Nat.le_refl _, by unfold maxLen; omega, rfl, rfl⟩⟩, ⟨rfl, .inr ⟨gm, 1, _, rfl, h2, e2, Nat.le_refl _, by unfold maxLen; omega, rfl, rfl⟩⟩, rfl, fun k hk => ?_⟩
  obtain rfl : k = 0 := by simpa using hk
  exact nil_krow W
/-- An array of three numbers. -/
def Arr3 (W : World) (b : Nat) (n u t : Int) : Prop := W.heap[b]? = some (.cells #[.int .i64 n, .int .i64 u, .int .i64 t] 37 (0, 0))
theorem Arr3.held {W : World} {b : Nat} {n u t : Int} (h : Arr3 W b n u t) : Held W b (n3 n u t) := by
  refine ⟨fun i v hv => ⟨?_, Go.Lib.frozen_of_heap h i⟩, (Array.getElem?_eq_some_iff.1 h).1⟩
  rw [Go.Lib.cell_of_heap h]
  simpa [n3] using hv
theorem Arr3.at {W : World} {b j : Nat} {n u t : Int} (h : Arr3 W b n u t) (hj : j < 3) : (∃ z, W.cell? ⟨b, j, none⟩ = some (.int .i64 z)) ∧ W.frozen? ⟨b, j, none⟩ = false ∧ b < W.heap.size := by
  have hh := h.held
  match j, hj with
  | 0, _ => exact ⟨⟨_, (hh.1 0 _ rfl).1⟩, (hh.1 0 _ rfl).2, hh.2⟩
  | 1, _ => exact ⟨⟨_, (hh.1 1 _ rfl).1⟩, (hh.1 1 _ rfl).2, hh.2⟩
  | 2, _ => exact ⟨⟨_, (hh.1 2 _ rfl).1⟩, (hh.1 2 _ rfl).2, hh.2⟩
theorem Arr3.put {W : World} {b j : Nat} {n u t : Int} (h : Arr3 W b n u t) (hj : j < 3) (z : Int) : ∃ n' u' t', Arr3 (W.setCell ⟨b, j, none⟩ (.int .i64 z)) b n' u' t' := by
  match j, hj with
  | 0, _ => exact ⟨z, u, t, heap_put h _⟩
  | 1, _ => exact ⟨n, z, t, heap_put h _⟩
  | 2, _ => exact ⟨n, u, z, heap_put h _⟩
theorem Arr3.still {S : List TypeId} {W W' : World} {b : Nat} {n u t : Int} (h : Arr3 W b n u t) (hs : Still S W W') (hT : 37 ∉ S) : Arr3 W' b n u t := hs.block _ _ _ _ h hT
/-- All of it: the log, and the rows. -/
def Keep (B : Nat) (W : World) (J : Nat) (x : LogM.St) (gd cd gm cm : Nat) (DL : List (Option Addr × Nat × Nat)) : Prop := LogAt B W J x ∧ Two2 B W x.R gd cd gm cm DL
theorem Keep.later {B J : Nat} {W W' : World} {x : LogM.St} {gd cd gm cm : Nat} {DL : List (Option Addr × Nat × Nat)} (h : Keep B W J x gd cd gm cm DL) (hb : Below W.heap.size W W') : Keep B W' J x gd cd gm cm DL := ⟨h.1.later hb, h.2.later hb⟩
/-- A call on the log that leaves the records. -/
theorem Keep.same {B J : Nat} {W W' : World} {x x' : LogM.St} {gd cd gm cm : Nat} {DL : List (Option Addr × Nat × Nat)} (h : Keep B W J x gd cd gm cm DL) (hl : LogAt B W' J x') (hR : x'.R = x.R) (hs : Still logS W W') : Keep B W' J x' gd cd gm cm DL := ⟨hl, by rw [hR]; exact h.2.log hs⟩
theorem Keep.arr {B J b i : Nat} {n u t z : Int} {W : World} {x : LogM.St} {gd cd gm cm : Nat} {DL : List (Option Addr × Nat × Nat)} (h : Keep B W J x gd cd gm cm DL) (ha : Arr3 W b n u t) : Keep B (W.setCell ⟨b, i, none⟩ (.int .i64 z)) J x gd cd gm cm DL := by
  have hs : Still [37] W (W.setCell ⟨b, i, none⟩ (.int .i64 z)) := Still.set ha (by simp) i _
  exact ⟨h.1.still hs (by decide) (by decide) (by decide), h.2.still hs (by decide) (by decide) (by decide)⟩
end Go.Proofs.YtfhpfdlbgmgclakDoor
