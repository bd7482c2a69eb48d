/-
  The lines of a text, one by one: the iterator that run.lines hands back.
-/
import Derived.RangeFuncNested
import Derived.RangeFuncBound
import Derived.RangeFuncCalls
import Derived.RangeFuncLeaves
import Derived.RangeFuncBox
import Derived.RangeFuncWrites
import Derived.Shelf.Abstract
import Derived.Shelf.RegionOpen
import Derived.WalkKit
import Derived.OwnWalkIn
import Derived.TacticsInMore
import Derived.LoopNIn
import Derived.LoopIn
import Derived.Test.YthaicpepgianpakGreatDoorRunLib
namespace Go.Proofs.YthaicpepgianpakGreatDoor
open Go.RowKit Go.Shelf
attribute [local go_sem] Oper.semAt_some
set_option linter.unusedVariables false

/-- The lines that came, as bytes. -/
def lns (pre : List { s : ByteArray // s.size ≤ 3000 }) : List (List UInt8) := pre.map fun s => s.1.data.toList
theorem lns_snoc (pre : List { s : ByteArray // s.size ≤ 3000 }) (x : { s : ByteArray // s.size ≤ 3000 }) : lns (pre ++ [x]) = lns pre ++ [x.1.data.toList] := by simp [lns]
theorem lns_len (pre : List { s : ByteArray // s.size ≤ 3000 }) : (lns pre).length = pre.length := by simp [lns]
def lineVs (s : { s : ByteArray // s.size ≤ 3000 }) : Array Value := #[.string s.1]
def strLen : Value → Nat
  | .string s => s.size
  | _ => 0
theorem grown_none9 {w w' : World} (h : Below w.heap.size w w') : w.grownBy w' none := ⟨h.os, h.tape, h.output, h.size, fun k hk _ => h.block k hk⟩

set_option maxRecDepth 100000 in
set_option maxHeartbeats 2000000 in
theorem lines1_in (l Bs : Nat) (t : ByteArray) (ht : t.size ≤ 3000) (n : Nat) (hn : 2 ≤ n) (J Jx : List { s : ByteArray // s.size ≤ 3000 } → World → Prop) (W : World) (hJ : AbidesFrom W.heap.size J)
    (hY : ∀ pre x W1, J pre W1 → pre.length < (RunM.lines t.data.toList).length → YieldAt Fence.wide (n - 1) Tryz.prog l (lineVs x) W1 fun e W' =>
      (e = .returned (.bool true) ∧ J (pre ++ [x]) W' ∧ True) ∨ (e = .returned (.bool false) ∧ Jx (pre ++ [x]) W'))
    (hBs : W.cell? ⟨Bs, 0, none⟩ = some (.string t)) (h0 : J [] W) :
    CallsIn Fence.wide n Tryz.prog 31 #[.func (.yield l) #[] #[], .pointer (some ⟨Bs, 0, none⟩)] W fun e W' => (∃ v, e = .returned v) ∧ ((∃ ys, lns ys = RunM.lines t.data.toList ∧ J ys W') ∨ (∃ pre, True ∧ Jx pre W')) := by
  refine callsIn_of_wp Tryz.func31 rfl trivial ?_ rfl
  simp only [Tryz.ntmps31, List.size_toArray, List.length_cons, List.length_nil, Nat.reduceAdd, Nat.reduceSub, Array.replicate_succ, Array.replicate_zero, List.push_toArray, List.append_toArray, List.nil_append, List.cons_append]
  have HY := hide hY
  have HJ := hide hJ
  clear hY hJ
  gi_wp2
  gi_loopw [3] (fun i wr => ∃ (pre : List { s : ByteArray // s.size ≤ 3000 }) (rest : ByteArray), i = .string rest ∧ rest.size ≤ 3000 ∧ Hid (lns pre ++ RunM.lines rest.data.toList = RunM.lines t.data.toList) ∧ Hid (J pre wr)) (fun i _ => strLen i)
  case atStart => exact ⟨[], t, rfl, ht, hide rfl, hide h0⟩
  case round =>
    obtain ⟨pre, rest, rfl, hrs, HE, HJ0⟩ := hrel
    by_cases hr : rest.size = 0
    · have he : rest.data.toList = [] := List.length_eq_zero_iff.1 (by rw [← Go.Lib.size_eq]; exact hr)
      have k1 : (rest.toList == []) = true := by rw [ByteArray.toList_eq, he]; rfl
      have HE2 := hide (show lns pre = RunM.lines t.data.toList by rw [← unhide HE, he, RunM.lines_nil, List.append_nil])
      clear he hr
      gi_wp2
      go_end0
      exact ⟨⟨_, rfl⟩, .inl ⟨pre, unhide HE2, unhide HJ0⟩⟩
    · have hne : rest.data.toList ≠ [] := fun e => hr (by rw [Go.Lib.size_eq, e]; rfl)
      have k1 : (rest.toList == []) = false := by rw [ByteArray.toList_eq]; simpa using hne
      have hl := RunM.lines_step hne
      obtain ⟨hb1, hb2⟩ := RunM.brk_len 10 _ hne
      rw [← Go.Lib.size_eq] at hb1 hb2
      obtain ⟨x, hx⟩ : ∃ x : { s : ByteArray // s.size ≤ 3000 }, x.1 = RunM.bs (RunM.brk 10 rest.data.toList).1 := ⟨⟨RunM.bs (RunM.brk 10 rest.data.toList).1, by rw [RunM.bs_size]; omega⟩, rfl⟩
      have CC := hide (cut_any rest wr hrs)
      obtain ⟨nx, hnx⟩ : ∃ nx, RunM.bs (RunM.brk 10 rest.data.toList).2 = nx := ⟨_, rfl⟩
      rw [← hx, hnx] at CC
      have hnl : nx.size < rest.size := by rw [← hnx, RunM.bs_size]; exact hb2
      have HNL := hide hnl
      have hlt : pre.length < (RunM.lines t.data.toList).length := by
        rw [← unhide HE, hl, List.length_append, lns_len]; simp
      have HE3 := hide (show lns (pre ++ [x]) ++ RunM.lines nx.data.toList = RunM.lines t.data.toList by
        rw [← unhide HE, hl, lns_snoc, hx, ← hnx]
        simp [RunM.bs])
      have hn3 : nx.size ≤ 3000 := by omega
      clear hl hb1 hb2 hx hnx hne hr hnl
      gi_wp2_with (refine ⟨trivial, fun _ => by omega, ?_⟩; refine (callsIn_wide.2 (unhide CC)).mono ?_; rintro e W1 ⟨f, rfl, hb1⟩; obtain ⟨fn, tmps, assign, body, hy, hR⟩ := unhide HY pre x W1 (unhide HJ _ _ _ none (unhide HJ0) (grown_none9 hb1) (fun r q => by cases q)) hlt; dsimp only [lineVs] at hy)
      refine ⟨fun _ => by omega, hR.mono ?_⟩
      rintro e W3 (⟨rfl, hJ3, -⟩ | ⟨rfl, hJx3⟩)
      · have HJ3 := hide hJ3
        clear hb1 hJ3
        gi_wp2
        go_roundw
        case rel => exact ⟨pre ++ [x], nx, rfl, hn3, HE3, HJ3⟩
        case measure => exact unhide HNL
      · gi_wp2
        refine bodyPost_ret (results_none rfl _ _ _) rfl ?_
        exact ⟨⟨_, rfl⟩, .inr ⟨_, trivial, hJx3⟩⟩
theorem rlines_any (t : ByteArray) (w : World) :
    Calls Tryz.prog 13 #[.string t] w fun e w' => e = .returned (.func (.func 31) #[] #[.pointer (some ⟨w.heap.size, 0, none⟩)]) ∧ w' = w.alloc (.cells #[.string t] 9) := by
  go_enter Tryz.func13, Tryz.ntmps13
  go_wp2
  go_ret
  exact ⟨rfl, rfl⟩
theorem lines_stops (n : Nat) (hn : 2 ≤ n) (Bs : Nat) (t : ByteArray) (ht : t.size ≤ 3000) (w : World) (hBl : Bs < w.heap.size) (hBs : w.cell? ⟨Bs, 0, none⟩ = some (.string t)) :
    SeqStopsK Fence.wide n Tryz.prog 31 #[.pointer (some ⟨Bs, 0, none⟩)] lineVs (fun _ _ => True) (fun ys => lns ys = RunM.lines t.data.toList) (fun _ => True) (RunM.lines t.data.toList).length w := fun l J Jx W hW hJ _ hY h0 =>
  lines1_in l Bs t ht n hn J Jx W hJ hY ((hW.cell (p := ⟨Bs, 0, none⟩) hBl).trans hBs) h0
end Go.Proofs.YthaicpepgianpakGreatDoor
