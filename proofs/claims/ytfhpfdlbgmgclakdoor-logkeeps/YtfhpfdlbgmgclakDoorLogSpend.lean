/-
  What a log's Spend comes to, every way.
-/
import Derived.Test.YtfhpfdlbgmgclakDoorLogCalls
namespace Go.Proofs.YtfhpfdlbgmgclakDoor
open Go.RowKit
attribute [local go_sem ↓] Go.wp_at_zero Go.wp_at_succ

theorem news_head {w : World} {A m : Nat} {cs : Array Value} {T : TypeId} {fr : Nat × Nat} (h : w.heap[A]? = some (.cells cs T fr)) : ∀ i u, (cs.toList.take m)[i]? = some u → w.drew.cell? ((⟨A, 0, none⟩ : Addr).add i) = some u := fun i u hu => by
  rw [World.cell?_drew]
  refine World.news_of_block h i u ?_
  have hi : i < (cs.toList.take m).length := (List.getElem?_eq_some_iff.1 hu).1
  rw [List.length_take] at hi
  rw [List.getElem?_take_of_lt (by omega)] at hu
  exact hu
/-- The log behind an append to its bytes, stored. -/
theorem LogIn.grew {B j n c m gg cp : Nat} {y : LogM.St} {a : Option Addr} {v : Value} {W w3 w0 : World} {news : List Value} (h : LogIn B W j y a n c v) (hB : Below B w0 W) (hBs : B ≤ W.heap.size)
    (hown : w3.ownsRow B 5 1 (.slice (some ⟨gg, 0, none⟩) (LogM.size y + m) cp) (LogM.size y + m) (LogBytes y ++ news)) (hg : W.drew.grownBy w3 v.ownBlock) :
    (w3.cell? ⟨j, 1, none⟩ = some v ∧ w3.frozen? ⟨j, 1, none⟩ = false ∧ j < w3.heap.size) ∧
    (w3.setCell ⟨j, 1, none⟩ (.slice (some ⟨gg, 0, none⟩) (LogM.size y + m) cp)).heap[j]? = some (.cells (logCells a n c (.slice (some ⟨gg, 0, none⟩) (LogM.size y + m) cp) y) 66 (0, 0)) ∧
    (w3.setCell ⟨j, 1, none⟩ (.slice (some ⟨gg, 0, none⟩) (LogM.size y + m) cp)).ownsRow B 5 1 (.slice (some ⟨gg, 0, none⟩) (LogM.size y + m) cp) (LogM.size y + m) (LogBytes y ++ news) ∧
    Below B w0 (w3.setCell ⟨j, 1, none⟩ (.slice (some ⟨gg, 0, none⟩) (LogM.size y + m) cp)) ∧ Still logS W (w3.setCell ⟨j, 1, none⟩ (.slice (some ⟨gg, 0, none⟩) (LogM.size y + m) cp)) := by
  have hr : W.drew.ownsRow B 5 1 v (LogM.size y) (LogBytes y) := h.row.drew
  have hs1 : Still [5] W w3 := (Still.of ((Below.refl _ W).drew)).trans (Still.grown hr (by simp) hg)
  have hh := hs1.block _ _ _ _ h.cells (by decide)
  have hs2 : Still [66] w3 (w3.setCell ⟨j, 1, none⟩ (.slice (some ⟨gg, 0, none⟩) (LogM.size y + m) cp)) := Still.set hh (by simp) 1 _
  refine ⟨⟨by rw [Go.Lib.cell_of_heap hh]; rfl, Go.Lib.frozen_of_heap hh 1, (Array.getElem?_eq_some_iff.1 hh).1⟩, heap_put hh _, hs2.own hown (by decide), ?_, (hs1.mono (fun T hT => by simp [logS] at hT ⊢; exact .inr hT)).trans (hs2.mono (fun T hT => by simp [logS] at hT ⊢; exact .inl hT))⟩
  refine Below.setCell (p := ⟨j, 1, none⟩) ?_ h.base _
  exact (hB.drew).grown hg hBs (fun k hk => (hr.lt k hk).1)

def encV (n u t : Int) : List Value := [.int .u8 (n % 256), .int .u8 (n / 256 % 256), .int .u8 (n / 65536), .int .u8 (u % 256), .int .u8 (u / 256 % 256), .int .u8 (u / 65536), .int .u8 (t % 256), .int .u8 (t / 256 % 256), .int .u8 (t / 65536)]
theorem encV_eq (n u t : Int) : encV n u t = (LogM.enc (n, u, t)).map (Value.int .u8) := rfl
theorem encV_one (n u t : Int) : ∀ v ∈ encV n u t, v.oneCell' = true := by simp [encV, Value.oneCell']
theorem encV_half (n u t : Int) : ∀ v ∈ (encV n u t).take 4, v.oneCell' = true := fun v hv => encV_one n u t v (List.mem_of_mem_take hv)

set_option maxHeartbeats 1600000 in
set_option maxRecDepth 8000 in
/-- The three ways that come to no step. -/
theorem lspend_no {B j : Nat} {x : LogM.St} (n u t : Int) (w w0 : World) (h : LogAt B w j x) (hB : Below B w0 w) (hBs : B ≤ w.heap.size)
    (hno : x.stop = true ∨ (x.stop = false ∧ ¬ LogM.err (LogM.hist x.R) (n, u, t) = 0) ∨ (x.stop = false ∧ LogM.err (LogM.hist x.R) (n, u, t) = 0 ∧ x.R.length = 30)) :
    Calls Tryd.prog 6 #[.pointer (some ⟨j, 0, none⟩), .int .i64 n, .int .i64 u, .int .i64 t] w fun e w' => e = .returned (errV (LogM.spendErr x (n, u, t))) ∧ LogAt B w' j (LogM.spend x (n, u, t)) ∧ Below B w0 w' ∧ Still logS w w' := by
  obtain ⟨a, k, c, v, h⟩ := h
  obtain ⟨⟨c0, c1, -, -, c4⟩, -⟩ := h.at
  have hl := h.lt
  have hj := h.base
  unfold LogM.spendErr LogM.spend
  rcases hno with hs | ⟨hs, he⟩ | ⟨hs, he, hf⟩
  · rw [if_pos hs, if_pos hs, errV_pos (by omega)]
    rw [hs] at c4
    have H := hide h
    have HB := hide hB
    clear h hB hs
    go_enter Tryd.func6, Tryd.ntmps6
    go_wp2
    go_ret
    exact ⟨rfl, ⟨_, _, _, _, unhide H⟩, unhide HB, Still.refl _ _⟩
  · rw [if_neg (by simp [hs]), if_pos he, if_neg (by simp [hs]), if_pos he, errV_pos he]
    rw [hs] at c4
    have C := hide (sspend_typed n u t w h.known.1)
    rw [errV_pos (show ¬ SpentM.spendErr (LogM.hist x.R) n u t = 0 from he)] at C
    rw [show LogM.err (LogM.hist x.R) (n, u, t) = SpentM.spendErr (LogM.hist x.R) n u t from rfl]
    generalize SpentM.spendErr (LogM.hist x.R) n u t = E at C ⊢
    have H := hide h
    have HB := hide hB
    clear h hB hs he c1
    go_enter Tryd.func6, Tryd.ntmps6
    go_wp2_with fail
    refine (unhide C).mono ?_
    rintro e w1 ⟨a1, n1, m1, rfl, -, -, hb1⟩
    have HB1 := hide hb1
    clear hb1
    go_wp2
    go_ret
    exact ⟨rfl, ⟨_, _, _, _, (unhide H).later (unhide HB1)⟩, (unhide HB).trans ((unhide HB1).mono hBs), Still.of (unhide HB1)⟩
  · rw [if_neg (by simp [hs]), if_neg (by simp [he]), if_pos hf, if_neg (by simp [hs]), if_neg (by simp [he]), if_pos hf, errV_pos (by omega)]
    have hh := h.good.whole hs
    rw [hs] at c4
    have C := hide (sspend_typed n u t w h.known.1)
    rw [errV_zero (show SpentM.spendErr (LogM.hist x.R) n u t = 0 from he)] at C
    obtain ⟨b, cap, rfl, -, -⟩ := h.form
    have hsz : LogM.size x = 270 := by unfold LogM.size; rw [hh, hf]; rfl
    rw [hsz] at c1
    have HC1 := hide c1
    have H := hide h
    rw [hsz] at H
    have HB := hide hB
    clear h hB hs he c1 hh hf hsz
    go_enter Tryd.func6, Tryd.ntmps6
    go_wp2_with fail
    refine (unhide C).mono ?_
    rintro e w1 ⟨a1, n1, m1, rfl, -, -, hb1⟩
    have d1 := cell_later hb1 (unhide HC1)
    have hl1 : j < w1.heap.size := Nat.lt_of_lt_of_le hl hb1.size
    have HB1 := hide hb1
    clear hb1 c0 c4
    go_wp2
    go_ret
    exact ⟨rfl, ⟨_, _, _, _, (unhide H).later (unhide HB1)⟩, (unhide HB).trans ((unhide HB1).mono hBs), Still.of (unhide HB1)⟩

theorem half_row {x : LogM.St} {n u t : Int} (h : x.h = []) : LogM.size { x with h := LogM.half (n, u, t), stop := true } = LogM.size { x with stop := true } + 4 ∧ LogBytes { x with h := LogM.half (n, u, t), stop := true } = LogBytes { x with stop := true } ++ (encV n u t).take 4 := by
  constructor
  · simp [LogM.size, h, LogM.half_length]
  · unfold LogBytes
    rw [encV_eq, ← List.map_take]
    simp [h, LogM.half]
theorem whole_row {x : LogM.St} {n u t : Int} (h : x.h = []) : LogM.size { x with R := x.R ++ [(n, u, t)], left := LogM.down x.left } = LogM.size { x with left := LogM.down x.left } + 9 ∧ LogBytes { x with R := x.R ++ [(n, u, t)], left := LogM.down x.left } = LogBytes { x with left := LogM.down x.left } ++ encV n u t := by
  constructor
  · simp [LogM.size, h]; omega
  · unfold LogBytes
    rw [encV_eq, LogM.bytes_snoc]
    simp [h]

set_option maxHeartbeats 3200000 in
set_option maxRecDepth 8000 in
/-- It stops. -/
theorem lspend_stop {B j : Nat} {x : LogM.St} (n u t : Int) (w w0 : World) (h : LogAt B w j x) (hB : Below B w0 w) (hBs : B ≤ w.heap.size)
    (hs : x.stop = false) (he : LogM.err (LogM.hist x.R) (n, u, t) = 0) (hf : ¬ x.R.length = 30) (hz : x.left = 0) :
    Calls Tryd.prog 6 #[.pointer (some ⟨j, 0, none⟩), .int .i64 n, .int .i64 u, .int .i64 t] w fun e w' => e = .returned (.iface 67 (.int .i64 6)) ∧ LogAt B w' j { x with h := LogM.half (n, u, t), stop := true } ∧ Below B w0 w' ∧ Still logS w w' := by
  obtain ⟨a, k, c, v, h⟩ := h
  obtain ⟨⟨c0, c1, -, -, c4⟩, -⟩ := h.at
  have hl := h.lt
  have hj := h.base
  have hh := h.good.whole hs
  have g := hide h.good
  have hfit := LogM.err_fits he
  rw [hs] at c4
  have C := hide (sspend_typed n u t w h.known.1)
  rw [errV_zero (show SpentM.spendErr (LogM.hist x.R) n u t = 0 from he)] at C
  obtain ⟨b, cap, rfl, -, -⟩ := h.form
  have hsz : LogM.size x = 9 * x.R.length := by unfold LogM.size; rw [hh]; rfl
  have hlt : ((LogM.size x : Nat) : Int) < 270 := by have := h.good.len; omega
  have hlt2 : LogM.size x < 270 := by omega
  have CW := hide (fun w => lwritten_any n u t w hfit)
  obtain ⟨i0, hi0, hz0, hz1, hz2⟩ := info_parts infoLogByte
  have HC1 := hide c1
  have HC4 := hide c4
  have H := hide h
  have HB := hide hB
  have HH := hide hh
  have HZ := hide hz
  clear h hB hs he c1 hh hf hsz hfit hz c4
  go_enter Tryd.func6, Tryd.ntmps6
  have c4 := unhide HC4
  go_wp2_with fail
  refine (unhide C).mono ?_
  rintro e w1 ⟨a1, n1, m1, rfl, -, -, hb1⟩
  have d1 := cell_later hb1 (unhide HC1)
  have hl1 : j < w1.heap.size := Nat.lt_of_lt_of_le hl hb1.size
  have HB1 := hide hb1
  clear hb1 c0 c4
  go_wp2_with fail
  refine (unhide CW _).mono ?_
  rintro e w2 ⟨rfl, hb2⟩
  have HB2 := hide ((unhide HB1).trans (hb2.mono (unhide HB1).size))
  clear hb2 d1
  obtain ⟨W2, hW2⟩ : ∃ W2, w2.alloc (.cells #[.int .u8 (n % 256), .int .u8 (n / 256 % 256), .int .u8 (n / 65536), .int .u8 (u % 256), .int .u8 (u / 256 % 256), .int .u8 (u / 65536), .int .u8 (t % 256), .int .u8 (t / 256 % 256), .int .u8 (t / 65536)] 70) = W2 := ⟨_, rfl⟩
  go_wp2_with fail
  have hbW : Below w.heap.size w W2 := by rw [← hW2]; exact (unhide HB2).alloc (unhide HB2).size _
  have HA2 := hide (show W2.heap[w2.heap.size]? = some (.cells #[.int .u8 (n % 256), .int .u8 (n / 256 % 256), .int .u8 (n / 65536), .int .u8 (u % 256), .int .u8 (u / 256 % 256), .int .u8 (u / 65536), .int .u8 (t % 256), .int .u8 (t / 256 % 256), .int .u8 (t / 65536)] 70 (0, 0)) from by rw [← hW2]; exact heap_alloc_new w2 _)
  clear hW2
  generalize w2.heap.size = A at HA2 ⊢
  have HBW := hide hbW
  refine (lstops_yes W2 w0 ((unhide H).later hbW) (unhide HZ) ((unhide HB).trans (hbW.mono hBs))).mono ?_
  rintro e W3 ⟨rfl, h3, hb3, hs3⟩
  have HA3 := hide (hs3.block _ _ _ _ (unhide HA2) (by decide))
  obtain ⟨⟨d0, d1, -, -, -⟩, hf3⟩ := h3.at
  have e0 := hf3 0
  have hl3 := h3.lt
  have H3 := hide h3
  have HB3 := hide hb3
  have HS3 := hide ((Still.of (S := logS) (unhide HBW)).trans hs3)
  have hB3 : B ≤ W3.heap.size := Nat.le_trans (Nat.le_trans hBs (unhide HBW).size) hs3.size
  have hA3 : A < W3.heap.size := (Array.getElem?_eq_some_iff.1 (unhide HA3)).1
  clear h3 hb3 hs3 hf3 hbW
  go_wp2_with fail
  go_region_law ((refine step_append_lies _ (by rfl) _ _ _ (by rfl) B 5 i0 _ 1 1 Tryd.underlying64 hi0 hz0 hz1 hz2 rfl (by omega) (.slice b (LogM.size x) cap) (LogM.size x) (LogBytes { x with stop := true }) (by rfl) ((unhide H3).row.drew) ⟨A, 0, none⟩ 4 9 ((encV n u t).take 4) (by rfl) (by rfl) (news_head (m := 4) (unhide HA3)) (encV_half n u t) (by omega) (by unfold maxLen; omega) (by omega) hB3 (W3.heap.size) (by rfl) ?_; intro gg cp w4 hown1 hgrow hat hlt; have q4 := (unhide H3).grew (m := 4) (unhide HB3) hB3 hown1 hgrow; obtain ⟨p1, p2, p3⟩ := q4.1; have Q4 := hide q4.2; clear q4 hown1 hgrow hat hlt))
  all_goals
    go_wp2
    go_ret
    refine ⟨rfl, ⟨a, k, c, .slice (some ⟨gg, 0, none⟩) (LogM.size x + 4) cp, ⟨(unhide g).well, (unhide g).len, (unhide g).safe, by simp [LogM.half_length], fun q => (by simp at q), (unhide g).lo, (unhide g).hi⟩, hj, (unhide Q4).1, (unhide H3).known.still (unhide Q4).2.2.2 (by decide), ?_⟩, (unhide Q4).2.2.1, (unhide HS3).trans (unhide Q4).2.2.2⟩
    obtain ⟨r1, r2⟩ := half_row (n := n) (u := u) (t := t) (unhide HH)
    rw [r1, r2]
    exact (unhide Q4).2.1

set_option maxHeartbeats 3200000 in
set_option maxRecDepth 8000 in
/-- It goes well. -/
theorem lspend_yes {B j : Nat} {x : LogM.St} (n u t : Int) (w w0 : World) (h : LogAt B w j x) (hB : Below B w0 w) (hBs : B ≤ w.heap.size)
    (hs : x.stop = false) (he : LogM.err (LogM.hist x.R) (n, u, t) = 0) (hf : ¬ x.R.length = 30) (hz : ¬ x.left = 0) :
    Calls Tryd.prog 6 #[.pointer (some ⟨j, 0, none⟩), .int .i64 n, .int .i64 u, .int .i64 t] w fun e w' => e = .returned .nilIface ∧ LogAt B w' j { x with R := x.R ++ [(n, u, t)], left := LogM.down x.left } ∧ Below B w0 w' ∧ Still logS w w' := by
  obtain ⟨a, k, c, v, h⟩ := h
  obtain ⟨⟨c0, c1, -, -, c4⟩, -⟩ := h.at
  have hl := h.lt
  have hj := h.base
  have hh := h.good.whole hs
  have g := hide h.good
  have hfit := LogM.err_fits he
  rw [hs] at c4
  have C := hide (sspend_typed n u t w h.known.1)
  rw [errV_zero (show SpentM.spendErr (LogM.hist x.R) n u t = 0 from he)] at C
  obtain ⟨b, cap, rfl, -, -⟩ := h.form
  have hsz : LogM.size x = 9 * x.R.length := by unfold LogM.size; rw [hh]; rfl
  have hlt : ((LogM.size x : Nat) : Int) < 270 := by have := h.good.len; omega
  have hlt2 : LogM.size x < 270 := by omega
  have CW := hide (fun w => lwritten_any n u t w hfit)
  obtain ⟨i0, hi0, hz0, hz1, hz2⟩ := info_parts infoLogByte
  have HC1 := hide c1
  have HC4 := hide c4
  have H := hide h
  have HB := hide hB
  have HS := hide hs
  have HE := hide he
  have HF := hide hf
  have HN := hide (show SpentM.spend (LogM.hist x.R) n u t = LogM.hist (x.R ++ [(n, u, t)]) by rw [LogM.hist_snoc, LogM.next_yes he])
  rw [unhide HN] at C
  have HH := hide hh
  have HZ := hide hz
  clear h hB hs he c1 hh hf hsz hfit hz c4
  go_enter Tryd.func6, Tryd.ntmps6
  have c4 := unhide HC4
  go_wp2_with fail
  refine (unhide C).mono ?_
  rintro e w1 ⟨a1, n1, m1, rfl, hp1, ⟨-, hk1⟩, hb1⟩
  have HK1 := hide (show KRow w1 a1 n1 m1 (LogM.hist (x.R ++ [(n, u, t)])) from ⟨hp1, hk1⟩)
  clear hp1 hk1
  have d1 := cell_later hb1 (unhide HC1)
  have hl1 : j < w1.heap.size := Nat.lt_of_lt_of_le hl hb1.size
  have HB1 := hide hb1
  clear hb1 c0 c4
  go_wp2_with fail
  refine (unhide CW _).mono ?_
  rintro e w2 ⟨rfl, hb2⟩
  have HB2 := hide ((unhide HB1).trans (hb2.mono (unhide HB1).size))
  have HK2 := hide ((unhide HK1).later hb2)
  clear hb2 d1
  obtain ⟨W2, hW2⟩ : ∃ W2, w2.alloc (.cells #[.int .u8 (n % 256), .int .u8 (n / 256 % 256), .int .u8 (n / 65536), .int .u8 (u % 256), .int .u8 (u / 256 % 256), .int .u8 (u / 65536), .int .u8 (t % 256), .int .u8 (t / 256 % 256), .int .u8 (t / 65536)] 70) = W2 := ⟨_, rfl⟩
  go_wp2_with fail
  have hbW : Below w.heap.size w W2 := by rw [← hW2]; exact (unhide HB2).alloc (unhide HB2).size _
  have HK3 := hide (show KRow W2 a1 n1 m1 (LogM.hist (x.R ++ [(n, u, t)])) from by rw [← hW2]; exact (unhide HK2).later ((Below.refl _ _).alloc (Nat.le_refl _) _))
  have HA2 := hide (show W2.heap[w2.heap.size]? = some (.cells #[.int .u8 (n % 256), .int .u8 (n / 256 % 256), .int .u8 (n / 65536), .int .u8 (u % 256), .int .u8 (u / 256 % 256), .int .u8 (u / 65536), .int .u8 (t % 256), .int .u8 (t / 256 % 256), .int .u8 (t / 65536)] 70 (0, 0)) from by rw [← hW2]; exact heap_alloc_new w2 _)
  clear hW2
  generalize w2.heap.size = A at HA2 ⊢
  have HBW := hide hbW
  refine (lstops_no W2 w0 ((unhide H).later hbW) (unhide HS) (unhide HZ) ((unhide HB).trans (hbW.mono hBs))).mono ?_
  rintro e W3 ⟨rfl, h3, hb3, hs3⟩
  have HA3 := hide (hs3.block _ _ _ _ (unhide HA2) (by decide))
  obtain ⟨⟨d0, d1, -, -, -⟩, hf3⟩ := h3.at
  have e0 := hf3 0
  have hl3 := h3.lt
  have H3 := hide h3
  have HB3 := hide hb3
  have HK4 := hide ((unhide HK3).still hs3 (by decide))
  have HS3 := hide ((Still.of (S := logS) (unhide HBW)).trans hs3)
  have hB3 : B ≤ W3.heap.size := Nat.le_trans (Nat.le_trans hBs (unhide HBW).size) hs3.size
  have hA3 : A < W3.heap.size := (Array.getElem?_eq_some_iff.1 (unhide HA3)).1
  clear h3 hb3 hs3 hf3 hbW
  go_wp2_with fail
  go_region_law ((refine step_append_lies _ (by rfl) _ _ _ (by rfl) B 5 i0 _ 1 1 Tryd.underlying64 hi0 hz0 hz1 hz2 rfl (by omega) (.slice b (LogM.size x) cap) (LogM.size x) (LogBytes { x with left := LogM.down x.left }) (by rfl) ((unhide H3).row.drew) ⟨A, 0, none⟩ 9 9 (encV n u t) (by rfl) (by rfl) (news_head (m := 9) (unhide HA3)) (encV_one n u t) (by omega) (by unfold maxLen; omega) (by omega) hB3 (W3.heap.size) (by rfl) ?_; intro gg cp w4 hown1 hgrow hat hlt; have q4 := (unhide H3).grew (m := 9) (unhide HB3) hB3 hown1 hgrow; obtain ⟨p1, p2, p3⟩ := q4.1; have Q4 := hide q4.2; clear q4 hown1 hgrow hat hlt))
  all_goals
    rw [show LogM.size { x with left := LogM.down x.left } = LogM.size x from rfl] at Q4
    have HL5 := hide ((Array.getElem?_eq_some_iff.1 (unhide Q4).1).1)
    generalize w4.setCell ⟨j, 1, none⟩ (.slice (some ⟨gg, 0, none⟩) (LogM.size x + 9) cp) = w5 at Q4 HL5 ⊢
    have hl5 := unhide HL5
    have s0 : w5.cell? ⟨j, 0, none⟩ = some (.slice a k c) := by rw [Go.Lib.cell_of_heap (unhide Q4).1]; rfl
    have s1 : w5.frozen? ⟨j, 0, none⟩ = false := Go.Lib.frozen_of_heap (unhide Q4).1 0
    clear p1 p2 p3 d0 d1 e0
    go_wp2
    go_ret
    have hs6 : Still [66] w5 (w5.setCell ⟨j, 0, none⟩ (.slice a1 n1 m1)) := Still.set (unhide Q4).1 (by simp) 0 _
    refine ⟨rfl, ⟨a1, n1, m1, .slice (some ⟨gg, 0, none⟩) (LogM.size x + 9) cp, ⟨(unhide g).well.snoc (unhide HE), (by have := (unhide g).len; have := unhide HF; show (x.R ++ [(n, u, t)]).length ≤ 30; rw [List.length_append]; simp only [List.length_cons, List.length_nil]; omega), (by have := (unhide g).safe; show x.s ≤ (x.R ++ [(n, u, t)]).length; rw [List.length_append]; omega), (unhide g).half, (unhide g).whole, LogM.down_lo (unhide g).lo, LogM.down_hi (unhide g).hi⟩, hj, heap_put (unhide Q4).1 _, ((unhide HK4).still (unhide Q4).2.2.2 (by decide)).still hs6 (by decide), ?_⟩, (unhide Q4).2.2.1.setCell (p := ⟨j, 0, none⟩) hj _, ((unhide HS3).trans (unhide Q4).2.2.2).trans (hs6.mono (fun T hT => by simp [logS] at hT ⊢; exact .inl hT))⟩
    obtain ⟨r1, r2⟩ := whole_row (n := n) (u := u) (t := t) (unhide HH)
    rw [r1, r2]
    exact hs6.own (unhide Q4).2.1 (by decide)

/-- Spend, every way. -/
theorem lspend_any {B j : Nat} {x : LogM.St} (n u t : Int) (w w0 : World) (h : LogAt B w j x) (hB : Below B w0 w) (hBs : B ≤ w.heap.size) :
    Calls Tryd.prog 6 #[.pointer (some ⟨j, 0, none⟩), .int .i64 n, .int .i64 u, .int .i64 t] w fun e w' => e = .returned (errV (LogM.spendErr x (n, u, t))) ∧ LogAt B w' j (LogM.spend x (n, u, t)) ∧ Below B w0 w' ∧ Still logS w w' := by
  rcases LogM.spend_ways x (n, u, t) with ⟨h1, -, -⟩ | ⟨h1, h2, -, -⟩ | ⟨h1, h2, h3, -, -⟩ | ⟨h1, h2, h3, h4, q1, q2⟩ | ⟨h1, h2, h3, h4, q1, q2⟩
  · exact lspend_no n u t w w0 h hB hBs (.inl h1)
  · exact lspend_no n u t w w0 h hB hBs (.inr (.inl ⟨h1, h2⟩))
  · exact lspend_no n u t w w0 h hB hBs (.inr (.inr ⟨h1, h2, h3⟩))
  · rw [q1, q2, errV_pos (by omega)]
    exact lspend_stop n u t w w0 h hB hBs h1 h2 h3 h4
  · rw [q1, q2, errV_zero rfl]
    exact lspend_yes n u t w w0 h hB hBs h1 h2 h3 h4
end Go.Proofs.YtfhpfdlbgmgclakDoor
