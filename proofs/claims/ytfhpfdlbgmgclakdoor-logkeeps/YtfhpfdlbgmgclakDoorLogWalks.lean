/-
  What the calls of package log come to, said of a log's records: New, Fail, Bytes, Safe, All, Spend, Sync, Crash.
-/
import Derived.Test.YtfhpfdlbgmgclakDoorLogSeq
import Derived.Deep.RegionHeld3
import Derived.Deep.DrawnRows
import Derived.Deep.RegionLaw
import Derived.Deep.AppendLies
import Derived.Deep.Cut
import Derived.Lib.SliceRun
namespace Go.Proofs.YtfhpfdlbgmgclakDoor
open Go.RowKit
attribute [local go_sem ↓] Go.wp_at_zero Go.wp_at_succ

theorem lnew_log (w : World) : Calls Tryd.prog 5 #[] w fun e w' => e = .returned (.pointer (some ⟨w.heap.size, 0, none⟩)) ∧ LogAt w.heap.size w' w.heap.size LogM.new ∧ Below w.heap.size w w' := by
  go_enter Tryd.func5, Tryd.ntmps5
  go_wp2
  go_ret
  exact ⟨rfl, ⟨none, 0, 0, .slice none 0 0, LogM.new_good, Nat.le_refl _, heap_alloc_new w _, nil_krow _, World.ownsRow_nil _ _ _ _⟩, (by (repeat' (first | exact Below.refl _ _ | refine Below.alloc ?_ ?_ _ | refine Below.setCell ?_ ?_ _ | refine Below.drew ?_)); all_goals (first | exact Nat.le_refl _ | omega | (simp; done) | (simp; omega)))⟩

theorem lbytes_any {B j : Nat} {x : LogM.St} (w : World) (h : LogAt B w j x) :
    Calls Tryd.prog 10 #[.pointer (some ⟨j, 0, none⟩)] w fun e w' => e = .returned (.int .i64 (LogM.size x : Nat)) ∧ w' = w := by
  obtain ⟨a, n, c, v, h⟩ := h
  obtain ⟨b, cap, rfl, -, -⟩ := h.form
  obtain ⟨⟨-, c1, -, -, -⟩, -⟩ := h.at
  have hl := h.lt
  clear h
  go_enter Tryd.func10, Tryd.ntmps10
  go_wp2
  go_ret
  exact ⟨rfl, rfl⟩
theorem lsafe_any {B j : Nat} {x : LogM.St} (w : World) (h : LogAt B w j x) :
    Calls Tryd.prog 11 #[.pointer (some ⟨j, 0, none⟩)] w fun e w' => e = .returned (.int .i64 ((9 * x.s : Nat) : Int)) ∧ w' = w := by
  obtain ⟨a, n, c, v, h⟩ := h
  obtain ⟨⟨-, -, c2, -, -⟩, -⟩ := h.at
  have hl := h.lt
  clear h
  generalize ((9 * x.s : Nat) : Int) = q at c2 ⊢
  go_enter Tryd.func11, Tryd.ntmps11
  go_wp2
  go_ret
  exact ⟨rfl, rfl⟩
theorem lfail_any {B j : Nat} {x : LogM.St} (m : Int) (w w0 : World) (h : LogAt B w j x) (h1 : -9223372036854775808 ≤ m) (h2 : m ≤ 9223372036854775807) (hB : Below B w0 w) :
    Calls Tryd.prog 12 #[.pointer (some ⟨j, 0, none⟩), .int .i64 m] w fun e w' => e = .returned (.tuple #[]) ∧ LogAt B w' j (LogM.fail x m) ∧ Below B w0 w' ∧ Still logS w w' := by
  obtain ⟨a, n, c, v, h⟩ := h
  obtain ⟨⟨-, -, -, c3, -⟩, hf⟩ := h.at
  have f3 := hf 3
  have hl := h.lt
  have hj := h.base
  have R := hide (h.put 3 (.int .i64 m) (LogM.fail_good h.good h1 h2) (x' := LogM.fail x m) rfl rfl rfl)
  have HB := hide hB
  clear h hf h1 h2 hB
  go_enter Tryd.func12, Tryd.ntmps12
  go_wp2
  go_end0
  exact ⟨rfl, ⟨_, _, _, _, (unhide R).1⟩, (unhide HB).setCell (p := ⟨j, 3, none⟩) hj _, (unhide R).2⟩

theorem pairs_cells {w : World} {b off : Nat} : ∀ {l : List (Int × Int)}, Pairs w (some ⟨b, off, none⟩) l → ∀ j u, (flat l)[j]? = some u → w.cell? ((⟨b, off, none⟩ : Addr).add j) = some u := by
  intro l h j u hu
  have hj : j < (flat l).length := (List.getElem?_eq_some_iff.1 hu).1
  rw [flat_length] at hj
  obtain ⟨f1, f2⟩ := flat_at l (j / 2) (by omega)
  obtain ⟨b', off', he, h1, h2⟩ := h (j / 2) (by omega)
  simp only [Option.some.injEq, Addr.mk.injEq] at he
  obtain ⟨rfl, rfl, _⟩ := he
  rw [Go.WideShapes.add_plain]
  rcases Nat.mod_two_eq_zero_or_one j with q | q
  · rw [show j / 2 * 2 = j by omega] at f1 h1
    rw [f1] at hu
    rw [h1]; exact hu
  · rw [show j / 2 * 2 + 1 = j by omega] at f2
    rw [show off + j / 2 * 2 + 1 = off + j by omega] at h2
    rw [f2] at hu
    rw [h2]; exact hu
set_option maxHeartbeats 1600000 in
set_option maxRecDepth 8000 in
theorem lclone_any {l : List (Int × Int)} {a : Option Addr} {n cap : Nat} (w : World) (hl : l.length ≤ 16) (hp : PRow w a n cap l) :
    Calls Tryd.prog 33 #[.slice a n cap] w fun e w' => ∃ a' n' c', e = .returned (.slice a' n' c') ∧ KRow w' a' n' c' l ∧ Below w.heap.size w w' := by
  obtain ⟨i0, hi, hz0, hz1, hz2⟩ := info_parts infoSpent
  have q22 : ∀ (w : World) (a : Option Addr) (n c n' c' : Nat), (binOp .eql 31 (.slice a n c) (.slice none n' c')).run Tryd.prog w = .ok (.bool a.isNone) w := fun w a n c n' c' => Go.Lib.run_eql_slice_nil w _ _ a n c n' c' Tryd.underlying31
  have hn := hp.1
  cases a with
  | none =>
    have : l = [] := by
      by_cases h : 0 < l.length
      · obtain ⟨b, off, e, _⟩ := hp.2.2 0 h; cases e
      · exact List.length_eq_zero_iff.1 (by omega)
    subst this
    clear hp hn
    go_enter Tryd.func33, Tryd.ntmps33
    go_wp2
    go_ret
    exact ⟨none, 0, 0, rfl, nil_krow _, Below.refl _ _⟩
  | some ad =>
    have HC : Hid (∀ j u, (flat l)[j]? = some u → w.cell? (ad.add j) = some u ∧ ad.block < w.heap.size) := hide (by
      intro j u hu
      have hj : 0 < l.length := by have := (List.getElem?_eq_some_iff.1 hu).1; rw [flat_length] at this; omega
      obtain ⟨b, off, e, hb, _⟩ := hp.2.2.row hj
      cases e
      exact ⟨pairs_cells hp.2.2 j u hu, hb⟩)
    have H1 := hide (flat_one l)
    have HL := hide (flat_length l)
    have hle := hp.2.1
    clear hp
    rw [hn] at hl HL
    go_enter Tryd.func33, Tryd.ntmps33
    go_wp2_with (at_builtin; refine wpList_append_own _ rfl _ _ 31 rfl w.heap.size 34 i0 (.agg #[.int .i64 0, .int .i64 0]) 2 16 Tryd.underlying31 hi hz0 hz1 hz2 rfl (by decide) (.slice (some ⟨w.heap.size, 0, none⟩) 0 0) 0 [] rfl (World.ownsRow_made (base := w.heap.size) (e := 34) (size := 2) w #[] 0 (Nat.le_refl _) (by unfold maxLen; omega) rfl) ad n cap (flat l) rfl (unhide HL) ?c1 ?c2 ?c3 ?c4 ?c5 ?_)
    case c1 => exact fun j u hu => by (have q := unhide HC j u hu; rw [World.cell?_of_block (w := w) (Below.heap_alloc _ _ _ (by rw [show (ad.add j).block = ad.block by (unfold Addr.add; split <;> rfl)]; exact q.2))]; exact q.1)
    case c2 => exact unhide H1
    case c3 => unfold maxLen; omega
    case c4 => omega
    case c5 => simp
    · intro v' w1 hown' hgrow _
      have hown' : w1.ownsRow w.heap.size 34 2 v' n (flat l) := by simpa using hown'
      obtain ⟨a1, cap1, rfl, hr1⟩ := own_row hown'
      have HR := hide (show KRow w1 a1 n cap1 l from ⟨hr1, own_blk hown'⟩)
      have HB := hide (show Below w.heap.size w w1 from (show Below w.heap.size w (w.alloc _) from (by (repeat' (first | exact Below.refl _ _ | refine Below.alloc ?_ ?_ _ | refine Below.setCell ?_ ?_ _ | refine Below.drew ?_)); all_goals (first | exact Nat.le_refl _ | omega | (simp; done) | (simp; omega)))).grown hgrow (by simp) (fun k hk => by simp [Value.ownBlock] at hk; omega))
      clear hown' hgrow hr1
      go_wp2
      go_ret
      exact ⟨_, _, _, rfl, unhide HR, unhide HB⟩
theorem lall_any {B j : Nat} {x : LogM.St} (w : World) (h : LogAt B w j x) :
    Calls Tryd.prog 9 #[.pointer (some ⟨j, 0, none⟩)] w fun e w' => ∃ a' n' c', e = .returned (.slice a' n' c') ∧ KRow w' a' n' c' (LogM.hist x.R) ∧ Below w.heap.size w w' := by
  obtain ⟨a, n, c, v, h⟩ := h
  obtain ⟨⟨c0, -, -, -, -⟩, -⟩ := h.at
  have hl := h.lt
  have C := hide (lclone_any w (LogM.hist_len x.R) h.known.1)
  clear h
  go_enter Tryd.func9, Tryd.ntmps9
  go_wp2_with fail
  refine (unhide C).mono ?_
  rintro e w1 ⟨a', n', c', rfl, hk, hb⟩
  have HK := hide hk
  have HB := hide hb
  clear hk hb
  go_wp2
  go_ret
  exact ⟨_, _, _, rfl, unhide HK, unhide HB⟩
end Go.Proofs.YtfhpfdlbgmgclakDoor
