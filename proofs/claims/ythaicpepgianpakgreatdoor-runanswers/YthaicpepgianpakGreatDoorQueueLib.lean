/-
  What the library's Index, Contains, Delete and Clone come to at slices of pairs.
-/
import Derived.Test.YthaicpepgianpakGreatDoorQueueMem
import Derived.Deep.RegionHeld3
import Derived.Deep.DrawnRows
import Derived.Deep.RegionLaw
import Derived.Deep.QuietTactic
import Derived.BigQuiet
import Derived.WalkSmall
namespace Go.Proofs.YthaicpepgianpakGreatDoor
open Go.RowKit
attribute [local go_sem ↓] Go.wp_at_zero Go.wp_at_succ

set_option maxHeartbeats 1600000 in
set_option maxRecDepth 8000 in
/-- Where one stands, or -1. -/
theorem qindex_any {l : List (Int × Int)} {a : Option Addr} {len cap : Nat} (s m : Int) (w : World) (hl : len ≤ 8) (hp : PRow w a len cap l) :
    Calls Tryz.prog 156 #[.slice a len cap, .agg #[.int .i64 s, .int .i64 m]] w fun e w' => e = .returned (.int .i64 (QueueM.place l (s, m))) ∧ Below w.heap.size w w' := by
  have HL := hide hp.1
  have HP := hide hp
  generalize hq : QueueM.place l (s, m) = E
  have HQ := hide hq
  clear hp hq
  go_enter Tryz.func156, Tryz.ntmps156
  go_wp2
  have HC := hide (Held.fresh (w := w) [.int .i64 s, .int .i64 m] 78 rfl)
  have HB0 := hide (show Below w.heap.size w (w.alloc (.cells #[.int .i64 s, .int .i64 m] 78)) from (by (repeat' (first | exact Below.refl _ _ | refine Below.alloc ?_ ?_ _ | refine Below.setCell ?_ ?_ _ | refine Below.drew ?_)); all_goals (first | exact Nat.le_refl _ | omega | (simp; done) | (simp; omega))))
  go_loopw [8] (fun i wr => ∃ k : Nat, k ≤ len ∧ i = .int .i64 k ∧ Hid ((s, m) ∉ l.take k) ∧ Hid (Held wr w.heap.size [.int .i64 s, .int .i64 m]) ∧ Hid (Below w.heap.size w wr)) (fun i _ => len - (intOf i).toNat)
  case atStart => exact ⟨0, Nat.zero_le _, rfl, hide (by simp), HC, HB0⟩
  case round =>
    obtain ⟨k, hk, rfl, HN, HC, HB⟩ := hrel
    by_cases hlt : k < len
    · skip
      have hs := hide (QueueM.place_at (l := l) (k := k) (c := (s, m)) (by rw [unhide HL]; exact hlt) (unhide HN))
      have hn := hide (QueueM.no_step (l := l) (k := k) (c := (s, m)) (by rw [unhide HL]; exact hlt) (unhide HN))
      obtain ⟨b, off, rfl, c1, c2⟩ := ((unhide HP).later (unhide HB)).2.2 k (by rw [unhide HL]; exact hlt)
      generalize l.getD k (0, 0) = p at c1 c2 hs hn
      obtain ⟨x, t⟩ := p
      dsimp only at c1 c2 hs hn
      obtain ⟨d1, d2⟩ := (unhide HC).c2.1
      have hk0 : (0 : Int) ≤ (k : Int) := by omega
      have hkc : (k : Int) < (len : Int) := by omega
      by_cases hx : x = s ∧ t = m
      · obtain ⟨rfl, rfl⟩ := hx
        have HE := hide (show E = (k : Int) by rw [← unhide HQ]; exact unhide hs rfl)
        clear hs hn
        have e1 : (x == x) = true := by simp
        have e2 : (t == t) = true := by simp
        go_wp2
        go_quiet (fail)
        go_wp2
        go_ret
        exact ⟨by rw [unhide HE]; rfl, below_drewN (unhide HB) _⟩
      · have hn' := hide (unhide hn (fun e => hx ⟨congrArg Prod.fst e, congrArg Prod.snd e⟩))
        clear hs hn
        by_cases hy : s = x
        · have hz : ¬ m = t := fun e => hx ⟨hy.symm, e.symm⟩
          subst hy
          have e1 : (s == s) = true := by simp
          have e2 : (m == t) = false := by simp [hz]
          go_wp2
          go_quiet (fail)
          go_wp2
          go_roundw
          case rel => exact ⟨k + 1, by omega, by go_num, hn', hide (unhide HC), hide (below_drewN (unhide HB) _)⟩
          case measure => simp [intOf]; omega
        · have e1 : (s == x) = false := by simp [hy]
          go_wp2
          go_quiet (fail)
          go_wp2
          go_roundw
          case rel => exact ⟨k + 1, by omega, by go_num, hn', hide (unhide HC), hide (below_drewN (unhide HB) _)⟩
          case measure => simp [intOf]; omega
    · have HE := hide (show E = -1 by rw [← unhide HQ]; exact QueueM.place_no (QueueM.no_all (by rw [unhide HL]; omega) (unhide HN)))
      go_wp2
      go_ret
      exact ⟨by rw [unhide HE]; rfl, unhide HB⟩

theorem qcontains_any {l : List (Int × Int)} {a : Option Addr} {len cap : Nat} (s m : Int) (w : World) (hl : len ≤ 8) (hp : PRow w a len cap l) :
    Calls Tryz.prog 142 #[.slice a len cap, .agg #[.int .i64 s, .int .i64 m]] w fun e w' => e = .returned (.bool (decide ((s, m) ∈ l))) ∧ Below w.heap.size w w' := by
  have HP := hide hp
  have Q := hide (fun W (h : Below w.heap.size w W) => qindex_any s m W hl (hp.later h))
  by_cases hm : (s, m) ∈ l
  · rw [QueueM.place_yes hm] at Q
    rw [decide_eq_true hm]
    generalize l.idxOf (s, m) = k at Q
    have hk0 : (0 : Int) ≤ (k : Int) := by omega
    clear hp HP hm
    go_enter Tryz.func142, Tryz.ntmps142
    go_wp2_with fail
    refine (unhide Q _ (by (repeat' (first | exact Below.refl _ _ | refine Below.alloc ?_ ?_ _ | refine Below.setCell ?_ ?_ _ | refine Below.drew ?_)); all_goals (first | exact Nat.le_refl _ | omega | (simp; done) | (simp; omega)))).mono ?_
    rintro e w1 ⟨rfl, hb⟩
    have HB := hide (show Below w.heap.size w w1 from bel3 (Below.refl _ _) (show Below w.heap.size w (w.alloc _) from (by (repeat' (first | exact Below.refl _ _ | refine Below.alloc ?_ ?_ _ | refine Below.setCell ?_ ?_ _ | refine Below.drew ?_)); all_goals (first | exact Nat.le_refl _ | omega | (simp; done) | (simp; omega)))) hb)
    clear hb
    go_wp2
    go_ret
    exact ⟨rfl, unhide HB⟩
  · rw [QueueM.place_no hm] at Q
    rw [decide_eq_false hm]
    clear hp HP hm
    go_enter Tryz.func142, Tryz.ntmps142
    go_wp2_with fail
    refine (unhide Q _ (by (repeat' (first | exact Below.refl _ _ | refine Below.alloc ?_ ?_ _ | refine Below.setCell ?_ ?_ _ | refine Below.drew ?_)); all_goals (first | exact Nat.le_refl _ | omega | (simp; done) | (simp; omega)))).mono ?_
    rintro e w1 ⟨rfl, hb⟩
    have HB := hide (show Below w.heap.size w w1 from bel3 (Below.refl _ _) (show Below w.heap.size w (w.alloc _) from (by (repeat' (first | exact Below.refl _ _ | refine Below.alloc ?_ ?_ _ | refine Below.setCell ?_ ?_ _ | refine Below.drew ?_)); all_goals (first | exact Nat.le_refl _ | omega | (simp; done) | (simp; omega)))) hb)
    clear hb
    go_wp2
    go_ret
    exact ⟨rfl, unhide HB⟩

set_option maxHeartbeats 1600000 in
set_option maxRecDepth 8000 in
theorem qclone_any {B : Nat} {l : List (Int × Int)} {v : Value} (w : World) (hl : l.length ≤ 8) (ho : w.ownsRow B 78 2 v l.length (flat l)) :
    Calls Tryz.prog 92 #[v] w fun e w' => ∃ a cap, e = .returned (.slice a l.length cap) ∧ PRow w' a l.length cap l ∧ Below w.heap.size w w' := by
  obtain ⟨i0, hi, hz0, hz1, hz2⟩ := info_parts infoConn
  have q22 : ∀ (w : World) (a : Option Addr) (n c n' c' : Nat), (binOp .eql 57 (.slice a n c) (.slice none n' c')).run Tryz.prog w = .ok (.bool a.isNone) w := fun w a n c n' c' => Go.Lib.run_eql_slice_nil w _ _ a n c n' c' Tryz.underlying57
  obtain ⟨a, cap, rfl, hr⟩ := own_row ho
  rcases ho.2 with ⟨hv, h0⟩ | ⟨g, cap', cur, hv, hg, _⟩
  · have : l = [] := List.length_eq_zero_iff.1 h0
    subst this
    obtain ⟨rfl, rfl⟩ : a = none ∧ cap = 0 := by simpa using hv
    clear ho hr
    go_enter Tryz.func92, Tryz.ntmps92
    go_wp2
    go_ret
    exact ⟨none, 0, rfl, nil_row _, Below.refl _ _⟩
  · obtain ⟨rfl, rfl⟩ : a = some ⟨g, 0, none⟩ ∧ cap = cap' := by simpa using hv
    have HO := hide ho
    have HG := hide (ho.lt g rfl).2
    have hc := hide (ho.cells (g := g) rfl)
    have H1 := hide (flat_one l)
    have HL := hide (flat_length l)
    clear ho hr hv hg
    generalize hn : l.length = n at hl HO HL
    go_enter Tryz.func92, Tryz.ntmps92
    go_wp2_with (at_builtin; refine wpList_append_own _ rfl _ _ 57 rfl w.heap.size 78 i0 (.agg #[.int .i64 0, .int .i64 0]) 2 16 Tryz.underlying57 hi hz0 hz1 hz2 rfl (by decide) (.slice (some ⟨w.heap.size, 0, none⟩) 0 0) 0 [] rfl (World.ownsRow_made (base := w.heap.size) (e := 78) (size := 2) w #[] 0 (Nat.le_refl _) (by unfold maxLen; omega) rfl) ⟨g, 0, none⟩ n cap (flat l) rfl (unhide HL) ?c1 ?c2 ?c3 ?c4 ?c5 ?_)
    case c1 => exact fun j u hu => by (have q := unhide hc j u hu; rw [Go.WideShapes.add_plain] at q ⊢; rw [World.cell?_of_block (w := w) (Below.heap_alloc _ _ _ (unhide HG))]; exact q)
    case c2 => exact unhide H1
    case c3 => unfold maxLen; omega
    case c4 => omega
    case c5 => simp
    · intro v' w1 hown' hgrow _
      have hown' : w1.ownsRow w.heap.size 78 2 v' n (flat l) := by simpa using hown'
      obtain ⟨a1, cap1, rfl, hr1⟩ := own_row hown'
      have HR := hide hr1
      have HB := hide (show Below w.heap.size w w1 from (show Below w.heap.size w (w.alloc _) from (by (repeat' (first | exact Below.refl _ _ | refine Below.alloc ?_ ?_ _ | refine Below.setCell ?_ ?_ _ | refine Below.drew ?_)); all_goals (first | exact Nat.le_refl _ | omega | (simp; done) | (simp; omega)))).grown hgrow (by simp) (fun k hk => by simp [Value.ownBlock] at hk; omega))
      clear hown' hgrow hr1
      go_wp2
      go_ret
      exact ⟨_, _, rfl, unhide HR, unhide HB⟩

set_option maxHeartbeats 4000000 in
set_option maxRecDepth 100000 in
/-- What stood from i up to j is out; the row is the same block. -/
theorem qdelete_any {B g n cap i j : Nat} {l : List (Int × Int)} (w : World) (hij : i < j) (hj : j ≤ n) (ho : w.ownsRow B 78 2 (.slice (some ⟨g, 0, none⟩) n cap) n (flat l)) :
    Calls Tryz.prog 123 #[.slice (some ⟨g, 0, none⟩) n cap, .int .i64 i, .int .i64 j] w fun e w' =>
      e = .returned (.slice (some ⟨g, 0, none⟩) (i + (n - j)) cap) ∧ w'.ownsRow B 78 2 (.slice (some ⟨g, 0, none⟩) (i + (n - j)) cap) (i + (n - j)) (flat (l.take i ++ l.drop j)) ∧ Kept [g] w w' := by
  obtain ⟨i0, hi0, hz0, hz1, hz2⟩ := info_parts infoConn
  have hln : l.length = n := by have := ho.1; rw [flat_length] at this; omega
  obtain ⟨hB, cur, hg, hnc, hcm, hcs, htk⟩ : B ≤ g ∧ ∃ cur, w.heap[g]? = some (.cells cur 78 (0, 0)) ∧ n ≤ cap ∧ cap ≤ maxLen ∧ cur.size = cap * 2 ∧ cur.toList.take (n * 2) = flat l := by
    rcases ho.2 with ⟨h, _⟩ | ⟨g', cap', cur, h, q1, q2, q3, q4, q5, q6⟩
    · simp at h
    · simp only [Value.slice.injEq, Option.some.injEq, Addr.mk.injEq] at h
      obtain ⟨⟨rfl, _⟩, _, rfl⟩ := h
      exact ⟨q1, cur, q2, q3, q4, q5, q6⟩
  have hcell : ∀ t, t < cap * 2 → (w.cell? ⟨g, t, none⟩).isSome = true := fun t ht => by
    rw [Go.Lib.cell_of_heap hg]
    simp [hcs, ht]
  have hfroz : ∀ t, w.frozen? ⟨g, t, none⟩ = false := fun t => Go.Lib.frozen_of_heap hg t
  obtain ⟨news, hnews⟩ : ∃ news, news = flat (l.drop j) := ⟨_, rfl⟩
  have hlen : news.length = (n - j) * 2 := by rw [hnews, flat_length]; simp [hln]
  have hget : ∀ t u, news[t]? = some u → w.cell? ⟨g, j * 2 + t, none⟩ = some u := by
    intro t u hu
    rw [hnews, flat_drop, List.getElem?_drop] at hu
    have hlt := (List.getElem?_eq_some_iff.1 hu).1
    rw [flat_length] at hlt
    have q := ho.cellAt (j * 2 + t) (by omega)
    rw [q, hu]
  obtain ⟨A, hA, hsrc⟩ : ∃ A : Addr, (if cap = j then some (⟨g, 0, none⟩ : Addr) else some ⟨g, j * 2, none⟩) = some A ∧ Hid (∀ t u, news[t]? = some u → w.drew.cell? (A.add t) = some u) := by
    by_cases h : cap = j
    · refine ⟨⟨g, 0, none⟩, by simp [h], fun t u hu => ?_⟩
      have := (List.getElem?_eq_some_iff.1 hu).1
      omega
    · refine ⟨⟨g, j * 2, none⟩, by simp [h], fun t u hu => ?_⟩
      rw [Addr.add_lit]
      exact hget t u hu
  have s1 : Hid (news.length = (n - j) * 2) := hlen
  have s2 : Hid (∀ u ∈ news, u.oneCell' = true) := by rw [hnews]; exact flat_one _
  have s3 : Hid (∀ t, t < news.length → (w.drew.cell? ⟨g, 0 + i * 2 + t, none⟩).isSome = true ∧ w.drew.frozen? ⟨g, 0 + i * 2 + t, none⟩ = false) := by
    intro t ht
    rw [hlen] at ht
    exact ⟨hcell _ (by omega), hfroz _⟩
  obtain ⟨W1, hW1⟩ : ∃ W1, W1 = w.drew.setCells g (0 + i * 2) news := ⟨_, rfl⟩
  have hg1 : W1.heap[g]? = some (.cells (Go.Lib.lay cur (i * 2) news) 78 (0, 0)) := by rw [hW1, Nat.zero_add]; exact heap_puts news _ _ _ hg
  have hk1 : Kept [g] w W1 := by rw [hW1]; exact kept_puts (List.mem_singleton.2 rfl) _ _ _ (Kept.refl [g] w).drew
  obtain ⟨zs, hzs⟩ : ∃ zs, zs = (Builtin.zeroCells (Value.agg #[.int .i64 0, .int .i64 0]).cells (n - (i + (n - j)))).toList := ⟨_, rfl⟩
  have hzl : zs.length = (j - i) * 2 := by rw [hzs]; simp [size_zeroCells, Value.cells]; omega
  have hz1' : ∀ u ∈ zs, u.oneCell' = true := by
    rw [hzs]
    intro u hu
    simp [Builtin.zeroCells, Value.cells] at hu
    obtain ⟨t, ht, rfl⟩ := hu
    rcases Nat.mod_two_eq_zero_or_one t with h | h <;> simp [h, Value.oneCell']
  have hv : ∀ w, (zeroValue 78).run Tryz.prog w = .ok (.agg #[.int .i64 0, .int .i64 0]) w := Tryz.zeroValue78
  have hcl : ∀ ty, (Builtin.clear_ #[57] ty #[.slice (some ⟨g, (i + (n - j)) * 2, none⟩) (n - (i + (n - j))) (cap - (i + (n - j)))]).run Tryz.prog W1 = .ok (.tuple #[]) (W1.setCells g ((i + (n - j)) * 2) zs) := fun ty => by
    rw [hzs]
    exact run_clear_pairs W1 _ _ ty _ Tryz.underlying57 hv g _ _ _ (by omega) (by rw [← hzs]; exact hz1')
      (fun t ht => by rw [← hzs, hzl] at ht; rw [Go.Lib.cell_of_heap hg1]; simp [Go.Lib.lay_size, hcs]; omega) (fun t _ => Go.Lib.frozen_of_heap hg1 _)
  have HR : Hid ((W1.setCells g ((i + (n - j)) * 2) zs).ownsRow B 78 2 (.slice (some ⟨g, 0, none⟩) (i + (n - j)) cap) (i + (n - j)) (flat (l.take i ++ l.drop j))) := by
    refine ⟨by rw [flat_length]; simp [hln]; omega, .inr ⟨g, cap, _, rfl, hB, heap_puts zs _ _ _ hg1, by omega, hcm, by rw [Go.Lib.lay_size, Go.Lib.lay_size]; exact hcs, ?_⟩⟩
    rw [hnews]
    exact row_cut hln hcs hnc (by omega) hj htk hzl
  have HK : Hid (Kept [g] w (W1.setCells g ((i + (n - j)) * 2) zs)) := kept_puts (List.mem_singleton.2 rfl) _ _ _ hk1
  have hW : Hid (W1 = w.drew.setCells g (0 + i * 2) news) := hW1
  have hcap : cap ≤ 9223372036854775807 := by unfold maxLen at hcm; omega
  have hic : i ≤ cap := by omega
  have hjc : j ≤ cap := by omega
  have hne : ¬ i = j := by omega
  have hne' : ¬ (i : Int) = (j : Int) := by omega
  clear hW1 hg1 hk1 hzs hzl hz1' hv hget hnews hlen hcell hfroz ho hg hcs htk hcm
  go_enter Tryz.func123, Tryz.ntmps123
  go_wp2_with fail
  go_region_law (refine step_append_room rfl (.tmp 22) (.tmp 25) 57 rfl 78 i0 2 Tryz.underlying57 hi0 hz1 g 0 i cap (by simp [Act.eval, Act.put]) A (n - j) (cap - j) news (by simp [Act.eval, Act.put]) s1.out hsrc.out s2.out (by omega) s3.out ?_; rw [← hW.out])
  go_wp2
  go_ret
  exact ⟨rfl, unhide HR, unhide HK⟩
end Go.Proofs.YthaicpepgianpakGreatDoor
