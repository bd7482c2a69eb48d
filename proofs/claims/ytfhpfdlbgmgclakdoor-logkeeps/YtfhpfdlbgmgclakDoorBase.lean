/-
  Small helpers of my own for the walks: facts kept from the walk, slices of ints as lists, endings.
-/
import Derived.Test.YtfhpfdlbgmgclakDoorRows
import Derived.WalkKit
import Derived.WalkSpells
import Derived.WalkLawsBesides
import Derived.OpenShut
namespace Go.Proofs.YtfhpfdlbgmgclakDoor
open Go.RowKit

theorem hide {p : Prop} (h : p) : Hid p := h
theorem unhide {p : Prop} (h : Hid p) : p := h
theorem ret_int {k : IntKind} {a b : Int} (h : a = b) : Ending.returned (.int k a) = .returned (.int k b) := by rw [h]
theorem ret_pair {a b : Int} {v : Value} (h : a = b) : Ending.returned (.tuple #[.int .i64 a, v]) = .returned (.tuple #[.int .i64 b, v]) := by rw [h]

/-- What lay below reads as before: two rules that a walk uses by itself. -/
theorem lies {W w1 : World} (hb : Below W.heap.size W w1) : (∀ b o, b < W.heap.size → w1.cell? ⟨b, o, none⟩ = W.cell? ⟨b, o, none⟩) ∧ (∀ b o, b < W.heap.size → w1.frozen? ⟨b, o, none⟩ = W.frozen? ⟨b, o, none⟩) ∧ W.heap.size ≤ w1.heap.size :=
  ⟨fun b o h => hb.cell (p := ⟨b, o, none⟩) h, fun b o h => hb.frozen (p := ⟨b, o, none⟩) h, hb.size⟩

theorem bel3 {w wr W1 w1 : World} (h : Below w.heap.size w wr) (ha : Below wr.heap.size wr W1) (hb : Below W1.heap.size W1 w1) : Below w.heap.size w w1 := h.trans ((ha.trans (hb.mono ha.size)).mono h.size)

/-- A slice of ints that reads as 'zs' (its elements up to its length). -/
def Ints (w : World) (a : Option Addr) (zs : List Int) : Prop :=
  zs.length ≤ 9223372036854775807 ∧ ∀ k, k < zs.length → ∃ b off, a = some ⟨b, off, none⟩ ∧ w.cell? ⟨b, off + k, none⟩ = some (.int .i64 (zs.getD k 0))

theorem Ints.row {w : World} {a : Option Addr} {zs : List Int} (h : Ints w a zs) (hz : 0 < zs.length) :
    ∃ b off, a = some ⟨b, off, none⟩ ∧ ∀ k, k < zs.length → w.cell? ⟨b, off + k, none⟩ = some (.int .i64 (zs.getD k 0)) := by
  obtain ⟨b, off, rfl, _⟩ := h.2 0 hz
  refine ⟨b, off, rfl, fun k hk => ?_⟩
  obtain ⟨b', off', he, hc⟩ := h.2 k hk
  simp only [Option.some.injEq, Addr.mk.injEq] at he
  obtain ⟨rfl, rfl, _⟩ := he
  exact hc

theorem Ints.later {w w' : World} {a : Option Addr} {zs : List Int} (h : Ints w a zs) (hb : Below w.heap.size w w') : Ints w' a zs :=
  ⟨h.1, fun k hk => by obtain ⟨b, off, e, hc⟩ := h.2 k hk; exact ⟨b, off, e, cell_later hb hc⟩⟩

theorem nil_ints (w : World) : Ints w none [] := ⟨by simp, fun k hk => by simp at hk⟩

theorem own_ints {w : World} {base g n cap : Nat} {e : TypeId} {zs : List Int} (h : w.ownsRow base e 1 (.slice (some ⟨g, 0, none⟩) n cap) n (zs.map (Value.int .i64))) (hn : n ≤ maxLen) :
    zs.length = n ∧ Ints w (some ⟨g, 0, none⟩) zs := by
  have hl : zs.length = n := by have := h.1; simpa using this
  refine ⟨hl, by unfold maxLen at hn; omega, fun k hk => ⟨g, 0, rfl, ?_⟩⟩
  rw [Nat.zero_add, h.cellAt k (by omega)]
  simp [hk, List.getD]

theorem Ints.cells {w : World} {b off : Nat} {zs : List Int} (h : Ints w (some ⟨b, off, none⟩) zs) : ∀ j u, (zs.map (Value.int .i64))[j]? = some u → w.cell? ((⟨b, off, none⟩ : Addr).add j) = some u := by
  intro j u hu
  rw [List.getElem?_map] at hu
  cases hz : zs[j]? with
  | none => rw [hz] at hu; simp at hu
  | some z =>
    rw [hz] at hu
    have hj : j < zs.length := (List.getElem?_eq_some_iff.1 hz).1
    obtain ⟨b', off', he, hc⟩ := h.2 j hj
    simp only [Option.some.injEq, Addr.mk.injEq] at he
    obtain ⟨rfl, rfl, _⟩ := he
    rw [Go.WideShapes.add_plain, hc]
    rw [← hu]
    simp [List.getD, hz]

theorem ints_one (zs : List Int) : ∀ u ∈ zs.map (Value.int .i64), u.oneCell' = true := by
  intro u hu
  obtain ⟨_, _, rfl⟩ := List.mem_map.1 hu
  rfl

theorem own_shape {w : World} {base n : Nat} {e : TypeId} {size : Nat} {v : Value} {xs : List Value} (h : w.ownsRow base e size v n xs) (hn : 0 < n) :
    ∃ g cap, v = .slice (some ⟨g, 0, none⟩) n cap ∧ base ≤ g ∧ n ≤ maxLen := by
  rcases h.2 with ⟨_, h0⟩ | ⟨g, cap, cur, rfl, hb, _, h1, h2, _⟩
  · omega
  · exact ⟨g, cap, rfl, hb, by omega⟩

/-- The frame's own word for a slice of ints that came in, as a list. -/
theorem row_ints {k : IntKind} {w : World} {a : Option Addr} {len cap : Nat} {zs : List Int} (hk : k = .i64)
    (h : (a = none ∧ len = 0 ∧ cap = 0 ∧ zs = []) ∨ ∃ x, a = some x ∧ len ≤ cap ∧ cap ≤ maxLen ∧ zs.length = cap ∧ (∀ i, i < zs.length → w.cell? (x.add i) = some (.int k (zs.getD i 0))) ∧ ∀ n ∈ zs, (Lit.int k n).wf = true) :
    ∃ l, l.length = len ∧ Ints w a l ∧ (∀ n ∈ l, (Lit.int .i64 n).wf = true) ∧ (0 < len → ∃ x, a = some x) := by
  subst hk
  rcases h with ⟨rfl, rfl, rfl, rfl⟩ | ⟨x, rfl, hl, hm, hz, hc, hw⟩
  · exact ⟨[], rfl, nil_ints w, by simp, by simp⟩
  · refine ⟨zs.take len, by simp; omega, ⟨by unfold maxLen at hm; simp; omega, fun j hj => ?_⟩, fun n hn => hw n (List.mem_of_mem_take hn), fun _ => ⟨x, rfl⟩⟩
    have hj' : j < len ∧ j < zs.length := by simp at hj; omega
    obtain ⟨b, off, rfl, hc'⟩ := Go.ints_at hc (by omega)
    refine ⟨b, off, rfl, ?_⟩
    rw [hc' j hj'.2]
    simp [List.getD, hj'.1]

end Go.Proofs.YtfhpfdlbgmgclakDoor
