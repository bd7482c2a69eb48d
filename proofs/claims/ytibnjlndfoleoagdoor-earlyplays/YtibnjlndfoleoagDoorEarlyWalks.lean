/-
  What the calls of package early come to, said of how many may come yet and of the bytes that are there: New, Put, Take, Left.
-/
import Derived.Test.YtibnjlndfoleoagDoorKept
import Derived.Lib.AppendStr
import Derived.Lib.SlBytesRow
import Derived.Lib.BufferRead
import Derived.Lib.Builder
import Derived.Lib.SmallJoins
import Derived.Laws.Concat
namespace Go.Proofs.YtibnjlndfoleoagDoor
open Go.RowKit

/-- So many may come yet, and these bytes are there; nothing of it lies below B. -/
def EarlyAt (B : Nat) (w : World) (b : Nat) (left : Int) (d : ByteArray) : Prop :=
  B ≤ b ∧ ∃ v, w.heap[b]? = some (.cells #[v, .int .i64 left] 37 (0, 0)) ∧ w.ownsRow B 5 1 v d.size (Go.Lib.strCells d)
/-- A slice of strings that reads as 'zs' (its elements up to its length). -/
def Strs (w : World) (a : Option Addr) (zs : List ByteArray) : Prop :=
  zs.length ≤ 9223372036854775807 ∧ ∀ k, k < zs.length → (zs.getD k ByteArray.empty).size ≤ 9223372036854775807 ∧ ∃ b off, a = some ⟨b, off, none⟩ ∧ w.cell? ⟨b, off + k, none⟩ = some (.string (zs.getD k ByteArray.empty))
theorem row_strs {w : World} {a : Option Addr} {len cap : Nat} {zs : List ByteArray}
    (h : (a = none ∧ len = 0 ∧ cap = 0 ∧ zs = []) ∨ ∃ x, a = some x ∧ len ≤ cap ∧ cap ≤ maxLen ∧ zs.length = cap ∧ (∀ i, i < zs.length → w.cell? (x.add i) = some (.string (zs.getD i ByteArray.empty))) ∧ ∀ s ∈ zs, s.size ≤ maxLen) :
    ∃ l, l.length = len ∧ Strs w a l := by
  rcases h with ⟨rfl, rfl, rfl, rfl⟩ | ⟨x, rfl, hl, hm, hz, hc, hw⟩
  · exact ⟨[], rfl, by simp, fun k hk => by simp at hk⟩
  · refine ⟨zs.take len, by simp; omega, by unfold maxLen at hm; simp; omega, fun j hj => ?_⟩
    have hj' : j < len ∧ j < zs.length := by simp at hj; omega
    have hg : (zs.take len).getD j ByteArray.empty = zs.getD j ByteArray.empty := by simp [List.getD, hj'.1]
    rw [hg]
    refine ⟨?_, ?_⟩
    · have := hw _ (List.getElem_mem hj'.2)
      unfold maxLen at this
      simpa [List.getD, hj'.2] using this
    · obtain ⟨b, off, spot⟩ := x
      have hspot : spot = none := by simpa [Addr.add] using World.cell?_spot (hc 0 (by omega))
      subst hspot
      exact ⟨b, off, rfl, by rw [← Go.WideShapes.add_plain]; exact hc j hj'.2⟩
theorem str_cut {c t d : ByteArray} (h : c = t ++ d) : c.extract 0 t.size = t := by
  subst h
  apply ByteArray.ext
  simp [ByteArray.data_extract]
theorem str_nil (s : ByteArray) : (⟨#[]⟩ : ByteArray) ++ s = s := by
  apply ByteArray.ext
  simp
theorem str_end (s : ByteArray) : s ++ (⟨#[]⟩ : ByteArray) = s := by
  apply ByteArray.ext
  simp
theorem str_assoc (a b c : ByteArray) : a ++ b ++ c = a ++ (b ++ c) := by
  apply ByteArray.ext
  simp
theorem str_ne {a b : ByteArray} (h : a.size ≠ b.size) : (a.toList == b.toList) = false := by
  rw [beq_eq_false_iff_ne]
  intro e
  rw [ByteArray.toList_eq, ByteArray.toList_eq] at e
  have q := congrArg List.length e
  exact h (by simpa using q)
theorem str_some {a : ByteArray} (h : ¬ a.size = 0) : (a.toList == []) = false := by
  have := str_ne (a := a) (b := ⟨#[]⟩) h
  rwa [ByteArray.toList_mk []] at this
theorem infoByte : (Tryd.prog.info? 5).map (fun i => (i.zero, i.size, i.bytes)) = some (some (.int .u8 0), 1, 1) := by kernel_rfl
theorem EarlyAt.later {B b : Nat} {w w' : World} {left : Int} {d : ByteArray} (h : EarlyAt B w b left d) (hb : Below w.heap.size w w') : EarlyAt B w' b left d := by
  obtain ⟨h1, v, h2, h3⟩ := h
  have hl : b < w.heap.size := (Array.getElem?_eq_some_iff.1 h2).1
  refine ⟨h1, v, by rw [hb.block b hl]; exact h2, h3.kept (row := none) ⟨hb.os, hb.tape, hb.output, hb.size, fun k hk _ => hb.block k hk⟩ (by cases hv : v.ownBlock <;> simp)⟩
theorem EarlyAt.down {B B' b : Nat} {w : World} {left : Int} {d : ByteArray} (h : EarlyAt B w b left d) (hB : B' ≤ B) : EarlyAt B' w b left d := by
  obtain ⟨h1, v, h2, h3⟩ := h
  exact ⟨by omega, v, h2, Go.Joins.ownsRow_le h3 hB⟩
theorem heap_put {w : World} {b i : Nat} {cs : Array Value} {T : TypeId} {fr : Nat × Nat} (h : w.heap[b]? = some (.cells cs T fr)) (v : Value) : (w.setCell ⟨b, i, none⟩ v).heap[b]? = some (.cells (cs.setIfInBounds i v) T fr) := by
  simp [World.setCell, Array.getElem?_modify, h]
theorem own_put {w : World} {B n b : Nat} {e : TypeId} {v : Value} {xs : List Value} (h : w.ownsRow B e 1 v n xs) (hn : v.ownBlock ≠ some b) (i : Nat) (u : Value) : (w.setCell ⟨b, i, none⟩ u).ownsRow B e 1 v n xs :=
  h.kept (row := some b) ⟨rfl, rfl, rfl, by simp [World.setCell], fun k _ hk => Below.heap_setCell _ _ _ _ (fun e => hk (by simp [e]))⟩ (Or.inr hn)
theorem strCells_add (d s : ByteArray) : Go.Lib.strCells (d ++ s) = Go.Lib.strCells d ++ Go.Lib.strCells s := by simp [Go.Lib.strCells]
theorem row_bytes {w : World} {B g cap : Nat} {e : TypeId} {d : ByteArray} (h : w.ownsRow B e 1 (.slice (some ⟨g, 0, none⟩) d.size cap) d.size (Go.Lib.strCells d)) : Go.Lib.Bytes w g 0 d := by
  intro i hi
  rw [Nat.zero_add, h.cellAt i (by omega)]
  have hd : i < d.data.size := hi
  simp only [Go.Lib.strCells, List.getElem?_map, Array.getElem?_toList, Array.getElem?_eq_getElem hd]
  rfl

theorem enew_yes (n : Int) (w : World) (h0 : 0 ≤ n) (h1 : n ≤ 40) :
    Calls Tryd.prog 4 #[.int .i64 n] w fun e w' => e = .returned (.tuple #[.pointer (some ⟨w.heap.size, 0, none⟩), .nilIface]) ∧ EarlyAt w.heap.size w' w.heap.size n ⟨#[]⟩ ∧ Below w.heap.size w w' := by
  go_enter Tryd.func4, Tryd.ntmps4
  go_wp2
  go_ret2
  exact ⟨rfl, ⟨Nat.le_refl _, _, heap_alloc_new w _, World.ownsRow_nil _ _ _ _⟩, (by (repeat' (first | exact Below.refl _ _ | refine Below.alloc ?_ ?_ _ | refine Below.setCell ?_ ?_ _ | refine Below.drew ?_)); all_goals (first | exact Nat.le_refl _ | omega | (simp; done) | (simp; omega)))⟩

theorem enew_no (n : Int) (w : World) (h0 : n < 0 ∨ 40 < n) :
    Calls Tryd.prog 4 #[.int .i64 n] w fun e w' => e = .returned (.tuple #[.pointer none, .iface 34 (.int .i64 1)]) ∧ w' = w := by
  rcases h0 with h0 | h0
  · go_enter Tryd.func4, Tryd.ntmps4
    go_wp2
    go_ret2
    exact ⟨rfl, rfl⟩
  · have h1 : ¬ n < 0 := by omega
    go_enter Tryd.func4, Tryd.ntmps4
    go_wp2
    go_ret2
    exact ⟨rfl, rfl⟩

theorem eleft_any (B b : Nat) (n : Int) (d : ByteArray) (w : World) (h : EarlyAt B w b n d) :
    Calls Tryd.prog 8 #[.pointer (some ⟨b, 0, none⟩)] w fun e w' => e = .returned (.int .i64 n) ∧ w' = w := by
  obtain ⟨_, v, h2, _⟩ := h
  have c1 : w.cell? ⟨b, 1, none⟩ = some (.int .i64 n) := by rw [Go.Lib.cell_of_heap h2]; rfl
  have hl : b < w.heap.size := (Array.getElem?_eq_some_iff.1 h2).1
  clear h2
  go_enter Tryd.func8, Tryd.ntmps8
  go_wp2
  go_ret
  exact ⟨rfl, rfl⟩

theorem etake_any (B b : Nat) (n : Int) (d : ByteArray) (w w0 : World) (h : EarlyAt B w b n d) (hB : Below B w0 w) :
    Calls Tryd.prog 7 #[.pointer (some ⟨b, 0, none⟩)] w fun e w' => e = .returned (.string d) ∧ EarlyAt B w' b n ⟨#[]⟩ ∧ Below B w0 w' := by
  obtain ⟨h1, v, h2, h3⟩ := h
  have hl : b < w.heap.size := (Array.getElem?_eq_some_iff.1 h2).1
  have c0 : w.cell? ⟨b, 0, none⟩ = some v := by rw [Go.Lib.cell_of_heap h2]; rfl
  have f0 : w.frozen? ⟨b, 0, none⟩ = false := Go.Lib.frozen_of_heap h2 0
  have hx : (convert 35 9 v).run Tryd.prog w = .ok (.string d) w := by
    rcases h3.2 with ⟨rfl, h0⟩ | ⟨g, cap, cur, rfl, _⟩
    · have : d = ⟨#[]⟩ := ByteArray.ext (Array.eq_empty_of_size_eq_zero h0)
      subst this
      exact Go.Lib.run_convert_nil_bytes w _ _ 5 0 Tryd.underlying35 Tryd.underlying5 Tryd.underlying9
    · exact Go.Lib.run_convert_whole w _ 5 _ Tryd.underlying35 Tryd.underlying5 Tryd.underlying9 g 0 d (row_bytes h3) cap
  have H2 := hide h2
  have HB := hide hB
  rcases Go.Joins.ownsRow_forms h3 with ⟨rfl, -⟩ | ⟨g, cap, rfl⟩
  all_goals
    clear h2 h3 hB
    go_enter Tryd.func7, Tryd.ntmps7
    go_wp2
    go_ret
    exact ⟨rfl, ⟨h1, _, heap_put (unhide H2) _, World.ownsRow_nil _ _ _ _⟩, Below.setCell (unhide HB) h1 _⟩

theorem eput_full (B b : Nat) (n : Int) (d s : ByteArray) (w : World) (h : EarlyAt B w b n d) (hs : n < (s.size : Int)) :
    Calls Tryd.prog 6 #[.pointer (some ⟨b, 0, none⟩), .string s] w fun e w' => e = .returned (.iface 34 (.int .i64 4)) ∧ w' = w := by
  obtain ⟨_, v, h2, _⟩ := h
  have c1 : w.cell? ⟨b, 1, none⟩ = some (.int .i64 n) := by rw [Go.Lib.cell_of_heap h2]; rfl
  have hl : b < w.heap.size := (Array.getElem?_eq_some_iff.1 h2).1
  clear h2
  go_enter Tryd.func6, Tryd.ntmps6
  go_wp2
  go_ret
  exact ⟨rfl, rfl⟩

set_option maxRecDepth 8000 in
theorem eput_yes (B b : Nat) (n : Int) (d s : ByteArray) (w w0 : World) (h : EarlyAt B w b n d) (hs : (s.size : Int) ≤ n) (hn : n ≤ 40) (hd : d.size ≤ 40) (hB : Below B w0 w) (hB0 : B ≤ w.heap.size) :
    Calls Tryd.prog 6 #[.pointer (some ⟨b, 0, none⟩), .string s] w fun e w' => e = .returned .nilIface ∧ EarlyAt B w' b (n - s.size) (d ++ s) ∧ Below B w0 w' := by
  obtain ⟨h1, v, h2, h3⟩ := h
  have hl : b < w.heap.size := (Array.getElem?_eq_some_iff.1 h2).1
  have c0 : w.cell? ⟨b, 0, none⟩ = some v := by rw [Go.Lib.cell_of_heap h2]; rfl
  have c1 : w.cell? ⟨b, 1, none⟩ = some (.int .i64 n) := by rw [Go.Lib.cell_of_heap h2]; rfl
  have hne : v.ownBlock ≠ some b := Go.Lib.ownBlock_ne h3 h2 (by decide)
  have hlt := h3.lt
  have hs1 : ¬ n < (s.size : Int) := by omega
  obtain ⟨i0, hi, hz0, hz1, hz2⟩ := info_parts infoByte
  have H2 := hide h2
  have HB := hide hB
  have HO := hide h3
  have HLT := hide hlt
  have HNE := hide hne
  have hforms := Go.Joins.ownsRow_forms h3
  clear h2 h3 hB hlt hne
  rcases hforms with ⟨rfl, -⟩ | ⟨g, cap, rfl⟩
  all_goals
    go_enter Tryd.func6, Tryd.ntmps6
    go_wp2_with (at_builtin; refine Go.Lib.wpList_append_own_string _ rfl _ _ 35 9 rfl B 5 i0 Tryd.underlying35 Tryd.underlying9 hi hz0 hz1 hz2 _ _ _ rfl (unhide HO) s rfl ?c3 ?c4 ?c5 ?_)
    case c3 => unfold maxLen; omega
    case c4 => omega
    intro v' w1 hown' hgrow _
    have hk : w1.heap[b]? = w.heap[b]? := hgrow.block b hl (fun e => unhide HNE e.symm)
    have k2 := hk.trans (unhide H2)
    have hne' : v'.ownBlock ≠ some b := Go.Lib.ownBlock_ne hown' k2 (by decide)
    have hl1 : b < w1.heap.size := (Array.getElem?_eq_some_iff.1 k2).1
    have d0 := Go.Lib.cell_of_heap k2 0
    have d1 : w1.cell? ⟨b, 1, none⟩ = some (.int .i64 n) := by rw [Go.Lib.cell_of_heap k2]; rfl
    have g0 : w1.frozen? ⟨b, 0, none⟩ = false := Go.Lib.frozen_of_heap k2 0
    have g1 : w1.frozen? ⟨b, 1, none⟩ = false := Go.Lib.frozen_of_heap k2 1
    have HB1 := hide (Below.grown (unhide HB) hgrow hB0 (fun k hk => (unhide HLT k hk).1))
    have R : EarlyAt B ((w1.setCell ⟨b, 0, none⟩ v').setCell ⟨b, 1, none⟩ (.int .i64 (n - s.size))) b (n - s.size) (d ++ s) :=
      ⟨h1, v', heap_put (heap_put k2 _) _, by (have q := own_put (own_put hown' hne' 0 v') hne' 1 (.int .i64 (n - s.size)); rw [strCells_add, show (d ++ s).size = d.size + s.size by simp]; exact q)⟩
    have HR := hide R
    have hforms' := Go.Joins.ownsRow_forms hown'
    clear hown' hgrow hk k2 hne' R
    rcases hforms' with ⟨rfl, -⟩ | ⟨g', cap', rfl⟩
    all_goals
      go_wp2
      go_ret
      exact ⟨rfl, unhide HR, Below.setCell (Below.setCell (unhide HB1) h1 _) h1 _⟩
end Go.Proofs.YtibnjlndfoleoagDoor
