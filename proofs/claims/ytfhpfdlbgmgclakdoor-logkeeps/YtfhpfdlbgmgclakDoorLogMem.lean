/-
  A log in memory; and what stays where only blocks of some types are written.
-/
import Derived.Test.YtfhpfdlbgmgclakDoorKept
import Derived.Test.YtfhpfdlbgmgclakDoorSpendWalks
import Derived.Test.YtfhpfdlbgmgclakDoorLogMath
import Derived.Lib.Builder
import Derived.Lib.SmallJoins
namespace Go.Proofs.YtfhpfdlbgmgclakDoor
open Go.RowKit

/-- All rows of cells are as they were, but those of the types of S. -/
structure Still (S : List TypeId) (w w' : World) : Prop where
  size : w.heap.size ≤ w'.heap.size
  block : ∀ (k : Nat) (cs : Array Value) (T : TypeId) (fr : Nat × Nat), w.heap[k]? = some (Obj.cells cs T fr) → T ∉ S → w'.heap[k]? = some (.cells cs T fr)
theorem Still.of {S : List TypeId} {w w' : World} (hb : Below w.heap.size w w') : Still S w w' :=
  ⟨hb.size, fun k _ _ _ h _ => (hb.block k (Array.getElem?_eq_some_iff.1 h).1).trans h⟩
theorem Still.refl (S : List TypeId) (w : World) : Still S w w := Still.of (Below.refl _ _)
theorem Still.trans {S : List TypeId} {a b c : World} (h : Still S a b) (k : Still S b c) : Still S a c :=
  ⟨Nat.le_trans h.size k.size, fun i cs T fr hi hT => k.block i cs T fr (h.block i cs T fr hi hT) hT⟩
theorem Still.mono {S S' : List TypeId} {w w' : World} (h : Still S w w') (hs : ∀ T, T ∈ S → T ∈ S') : Still S' w w' :=
  ⟨h.size, fun k cs T fr hk hT => h.block k cs T fr hk (fun q => hT (hs T q))⟩
theorem Still.set {S : List TypeId} {w : World} {b : Nat} {cs : Array Value} {T : TypeId} {fr : Nat × Nat} (h : w.heap[b]? = some (.cells cs T fr)) (hT : T ∈ S) (i : Nat) (v : Value) : Still S w (w.setCell ⟨b, i, none⟩ v) := by
  refine ⟨by simp [World.setCell], fun k cs' T' fr' hk hT' => ?_⟩
  have hne : k ≠ b := by
    rintro rfl
    rw [h] at hk
    simp only [Option.some.injEq, Obj.cells.injEq] at hk
    obtain ⟨_, rfl, _⟩ := hk
    exact hT' hT
  rw [Below.heap_setCell _ _ _ _ hne]
  exact hk
theorem Still.grown {S : List TypeId} {w w' : World} {B n size : Nat} {e : TypeId} {v : Value} {xs : List Value} (ho : w.ownsRow B e size v n xs) (he : e ∈ S) (hg : w.grownBy w' v.ownBlock) : Still S w w' := by
  refine ⟨hg.size, fun k cs T fr hk hT => ?_⟩
  rw [hg.block k (Array.getElem?_eq_some_iff.1 hk).1 ?_]
  · exact hk
  · intro q
    rcases ho.2 with ⟨rfl, _⟩ | ⟨g, cap, cur, rfl, _, h1, _⟩
    · simp [Value.ownBlock] at q
    · simp only [Value.ownBlock, Option.some.injEq] at q
      subst q
      rw [hk] at h1
      simp only [Option.some.injEq, Obj.cells.injEq] at h1
      obtain ⟨_, rfl, _⟩ := h1
      exact hT he
theorem Still.own {S : List TypeId} {w w' : World} {B n size : Nat} {e : TypeId} {v : Value} {xs : List Value} (hs : Still S w w') (ho : w.ownsRow B e size v n xs) (he : e ∉ S) : w'.ownsRow B e size v n xs := by
  refine ⟨ho.1, ?_⟩
  rcases ho.2 with q | ⟨g, cap, cur, h0, h1, h2, h3⟩
  · exact .inl q
  · exact .inr ⟨g, cap, cur, h0, h1, hs.block g _ _ _ h2 he, h3⟩
theorem row_typed {w w' : World} {a : Option Addr} {n c : Nat} {l : List (Int × Int)} {T : TypeId} (h : PRow w a n c l) (hb : BlkOf T w a) (hh : ∀ (k : Nat) (cs : Array Value) (fr : Nat × Nat), w.heap[k]? = some (Obj.cells cs T fr) → w'.heap[k]? = some (.cells cs T fr)) : PRow w' a n c l ∧ BlkOf T w' a := by
  refine ⟨⟨h.1, h.2.1, fun k hk => ?_⟩, fun g off ha => ?_⟩
  · obtain ⟨b, off, e, h1, h2⟩ := h.2.2 k hk
    obtain ⟨cs, fr, hc⟩ := hb b off e
    have hq : w'.heap[b]? = w.heap[b]? := (hh b cs fr hc).trans hc.symm
    exact ⟨b, off, e, (World.cell?_of_block (w := w) (a := ⟨b, _, none⟩) hq).trans h1, (World.cell?_of_block (w := w) (a := ⟨b, _, none⟩) hq).trans h2⟩
  · obtain ⟨cs, fr, hc⟩ := hb g off ha
    exact ⟨cs, fr, hh g cs fr hc⟩
theorem Still.row {S : List TypeId} {w w' : World} {a : Option Addr} {n c : Nat} {l : List (Int × Int)} {T : TypeId} (hs : Still S w w') (h : PRow w a n c l ∧ BlkOf T w a) (hT : T ∉ S) : PRow w' a n c l ∧ BlkOf T w' a :=
  row_typed h.1 h.2 (fun k cs fr hk => hs.block k cs T fr hk hT)

/-- What spent a slice holds, in a block of its type. -/
def KRow (w : World) (a : Option Addr) (n c : Nat) (l : List (Int × Int)) : Prop := PRow w a n c l ∧ BlkOf 34 w a
theorem KRow.later {w w' : World} {a : Option Addr} {n c : Nat} {l : List (Int × Int)} (h : KRow w a n c l) (hb : Below w.heap.size w w') : KRow w' a n c l := ⟨h.1.later hb, h.2.later hb⟩
theorem KRow.still {S : List TypeId} {w w' : World} {a : Option Addr} {n c : Nat} {l : List (Int × Int)} (h : KRow w a n c l) (hs : Still S w w') (hT : 34 ∉ S) : KRow w' a n c l := hs.row h hT
theorem nil_krow (w : World) : KRow w none 0 0 [] := ⟨nil_row w, nil_blk _ w⟩
/-- A log's bytes. -/
def LogBytes (x : LogM.St) : List Value := (LogM.bytes x.R ++ x.h).map (Value.int .u8)
/-- Its block, whatever lies beyond. -/
def logCells (a : Option Addr) (n c : Nat) (v : Value) (x : LogM.St) : Array Value := #[.slice a n c, v, .int .i64 ((9 * x.s : Nat) : Int), .int .i64 x.left, .bool x.stop]
/-- A log lies at j. -/
structure LogIn (B : Nat) (w : World) (j : Nat) (x : LogM.St) (a : Option Addr) (n c : Nat) (v : Value) : Prop where
  good : LogM.Good x
  base : B ≤ j
  cells : w.heap[j]? = some (.cells (logCells a n c v x) 66 (0, 0))
  known : KRow w a n c (LogM.hist x.R)
  row : w.ownsRow B 5 1 v (LogM.size x) (LogBytes x)
def LogAt (B : Nat) (w : World) (j : Nat) (x : LogM.St) : Prop := ∃ a n c v, LogIn B w j x a n c v
theorem LogIn.lt {B j : Nat} {w : World} {x : LogM.St} {a : Option Addr} {n c : Nat} {v : Value} (h : LogIn B w j x a n c v) : j < w.heap.size := (Array.getElem?_eq_some_iff.1 h.cells).1
theorem LogAt.lt {B j : Nat} {w : World} {x : LogM.St} (h : LogAt B w j x) : j < w.heap.size := by
  obtain ⟨a, n, c, v, h⟩ := h
  exact h.lt
theorem LogAt.good {B j : Nat} {w : World} {x : LogM.St} (h : LogAt B w j x) : LogM.Good x := by
  obtain ⟨a, n, c, v, h⟩ := h
  exact h.good
theorem LogIn.still {S : List TypeId} {B j : Nat} {w w' : World} {x : LogM.St} {a : Option Addr} {n c : Nat} {v : Value} (h : LogIn B w j x a n c v) (hs : Still S w w') (h1 : 66 ∉ S) (h2 : 5 ∉ S) (h3 : 34 ∉ S) : LogIn B w' j x a n c v :=
  ⟨h.good, h.base, hs.block _ _ _ _ h.cells h1, h.known.still hs h3, hs.own h.row h2⟩
theorem LogIn.later {B j : Nat} {w w' : World} {x : LogM.St} {a : Option Addr} {n c : Nat} {v : Value} (h : LogIn B w j x a n c v) (hb : Below w.heap.size w w') : LogIn B w' j x a n c v :=
  h.still (S := []) (Still.of hb) (by simp) (by simp) (by simp)
theorem LogAt.later {B j : Nat} {w w' : World} {x : LogM.St} (h : LogAt B w j x) (hb : Below w.heap.size w w') : LogAt B w' j x := by
  obtain ⟨a, n, c, v, h⟩ := h
  exact ⟨a, n, c, v, h.later hb⟩
theorem LogAt.still {S : List TypeId} {B j : Nat} {w w' : World} {x : LogM.St} (h : LogAt B w j x) (hs : Still S w w') (h1 : 66 ∉ S) (h2 : 5 ∉ S) (h3 : 34 ∉ S) : LogAt B w' j x := by
  obtain ⟨a, n, c, v, h⟩ := h
  exact ⟨a, n, c, v, h.still hs h1 h2 h3⟩
theorem LogAt.down {B B' j : Nat} {w : World} {x : LogM.St} (h : LogAt B w j x) (hB : B' ≤ B) : LogAt B' w j x := by
  obtain ⟨a, n, c, v, h⟩ := h
  exact ⟨a, n, c, v, h.good, Nat.le_trans hB h.base, h.cells, h.known, own_base h.row hB⟩
/-- What a call on it leaves, of all else. -/
def logS : List TypeId := [66, 5]
/-- The log behind a store into one of its cells. -/
theorem LogIn.put {B j : Nat} {w : World} {x x' : LogM.St} {a : Option Addr} {n c : Nat} {v : Value} (h : LogIn B w j x a n c v) (i : Nat) (u : Value) (hg : LogM.Good x') (hc : (logCells a n c v x).setIfInBounds i u = logCells a n c v x') (hR : x'.R = x.R) (hh : x'.h = x.h) : LogIn B (w.setCell ⟨j, i, none⟩ u) j x' a n c v ∧ Still logS w (w.setCell ⟨j, i, none⟩ u) := by
  have hs : Still [66] w (w.setCell ⟨j, i, none⟩ u) := Still.set h.cells (by simp) i u
  refine ⟨⟨hg, h.base, by rw [← hc]; exact heap_put h.cells u, ?_, ?_⟩, hs.mono (fun T hT => by simp [logS] at hT ⊢; exact .inl hT)⟩
  · rw [hR]; exact h.known.still hs (by decide)
  · have e1 : LogM.size x' = LogM.size x := by unfold LogM.size; rw [hR, hh]
    have e2 : LogBytes x' = LogBytes x := by unfold LogBytes; rw [hR, hh]
    rw [e1, e2]; exact hs.own h.row (by decide)
/-- The cells, one by one. -/
theorem LogIn.at {B j : Nat} {w : World} {x : LogM.St} {a : Option Addr} {n c : Nat} {v : Value} (h : LogIn B w j x a n c v) :
    (w.cell? ⟨j, 0, none⟩ = some (.slice a n c) ∧ w.cell? ⟨j, 1, none⟩ = some v ∧ w.cell? ⟨j, 2, none⟩ = some (.int .i64 ((9 * x.s : Nat) : Int)) ∧ w.cell? ⟨j, 3, none⟩ = some (.int .i64 x.left) ∧ w.cell? ⟨j, 4, none⟩ = some (.bool x.stop)) ∧ (∀ i, w.frozen? ⟨j, i, none⟩ = false) :=
  ⟨⟨by rw [Go.Lib.cell_of_heap h.cells]; rfl, by rw [Go.Lib.cell_of_heap h.cells]; rfl, by rw [Go.Lib.cell_of_heap h.cells]; rfl, by rw [Go.Lib.cell_of_heap h.cells]; rfl, by rw [Go.Lib.cell_of_heap h.cells]; rfl⟩, fun i => Go.Lib.frozen_of_heap h.cells i⟩
theorem LogIn.form {B j : Nat} {w : World} {x : LogM.St} {a : Option Addr} {n c : Nat} {v : Value} (h : LogIn B w j x a n c v) : ∃ b cap, v = .slice b (LogM.size x) cap ∧ (b = none → cap = 0 ∧ LogM.size x = 0) ∧ (∀ ad, b = some ad → ∃ g, ad = ⟨g, 0, none⟩) := by
  rcases Go.Joins.ownsRow_forms h.row with ⟨hv, h0⟩ | ⟨g, cap, hv⟩
  · exact ⟨none, 0, by rw [hv, h0], fun _ => ⟨rfl, h0⟩, fun ad q => by cases q⟩
  · exact ⟨_, cap, hv, fun q => by (cases q), fun ad q => by cases q; exact ⟨g, rfl⟩⟩
end Go.Proofs.YtfhpfdlbgmgclakDoor
