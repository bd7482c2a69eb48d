/-
  The calls of package vault once more, with the blocks in which its rows lie: for a vault that lies beside other things.
-/
import Derived.Test.YthaicpepgianpakGreatDoorVaultWalks
import Derived.Test.YthaicpepgianpakGreatDoorJoinedRunAs
namespace Go.Proofs.YthaicpepgianpakGreatDoor
open Go.RowKit
set_option linter.unusedVariables false

/-- A block is a row of cells. -/
def Cel (w : World) (g : Nat) : Prop := ∃ cs T fr, w.heap[g]? = some (.cells cs T fr)
theorem Cel.kept {F : List Nat} {w w' : World} {g : Nat} (h : Cel w g) (hk : Kept F w w') (hl : g < w.heap.size) (hn : g ∉ F) : Cel w' g := by
  obtain ⟨cs, T, fr, e⟩ := h
  exact ⟨cs, T, fr, by rw [hk.block g hl hn]; exact e⟩
theorem Cel.lt {w : World} {g : Nat} (h : Cel w g) : g < w.heap.size := by
  obtain ⟨cs, T, fr, e⟩ := h
  exact (Array.getElem?_eq_some_iff.1 e).1
theorem cel_cell {w : World} {g o : Nat} {v : Value} (h : w.cell? ⟨g, o, none⟩ = some v) : Cel w g := by
  unfold World.cell? at h
  cases e : w.heap[g]? with
  | none => rw [e] at h; simp at h
  | some ob =>
    rw [e] at h
    cases ob with
    | cells cs T fr => exact ⟨cs, T, fr, e⟩
    | _ => simp at h
/-- A vault lies at v, its rows in the blocks of R; nothing of it lies below B. -/
def VOwn (B : Nat) (w : World) (v : Nat) (R : List Nat) (L K : List (Int × Int)) : Prop :=
  B ≤ v ∧ (∃ a n c a' n' c', w.heap[v]? = some (.cells #[.slice a n c, .slice a' n' c'] 159 (0, 0)) ∧ PRow w a n c L ∧ PRow w a' n' c' K ∧ InR R a ∧ InR R a') ∧ ∀ g, g ∈ R → B ≤ g ∧ g < w.heap.size ∧ g ≠ v ∧ Cel w g
def VStep (B : Nat) (w w' : World) (v : Nat) (R : List Nat) (L K : List (Int × Int)) : Prop :=
  ∃ R', VOwn B w' v R' L K ∧ (∀ g, g ∈ R' → g ∈ R ∨ w.heap.size ≤ g) ∧ Kept [v] w w'
theorem VOwn.at {B : Nat} {w : World} {v : Nat} {R : List Nat} {L K : List (Int × Int)} (h : VOwn B w v R L K) : VAt w v L K := by
  obtain ⟨_, ⟨a, n, c, a', n', c', h1, h2, h3, _⟩, _⟩ := h
  exact ⟨a, n, c, a', n', c', h1, h2, h3⟩
theorem VOwn.lt {B : Nat} {w : World} {v : Nat} {R : List Nat} {L K : List (Int × Int)} (h : VOwn B w v R L K) : v < w.heap.size := h.at.lt
theorem VOwn.kept {B : Nat} {F : List Nat} {w w' : World} {v : Nat} {R : List Nat} {L K : List (Int × Int)} (h : VOwn B w v R L K) (hk : Kept F w w') (hv : v ∉ F) (hR : ∀ g, g ∈ R → g ∉ F) : VOwn B w' v R L K := by
  have hl := h.lt
  obtain ⟨h0, ⟨a, n, c, a', n', c', h1, h2, h3, h4, h5⟩, h6⟩ := h
  exact ⟨h0, ⟨a, n, c, a', n', c', by rw [hk.block v hl hv]; exact h1, h2.keptIn h4 hk hR, h3.keptIn h5 hk hR, h4, h5⟩, fun g hg => ⟨(h6 g hg).1, Nat.lt_of_lt_of_le (h6 g hg).2.1 hk.size, (h6 g hg).2.2.1, (h6 g hg).2.2.2.kept hk (h6 g hg).2.1 (hR g hg)⟩⟩
theorem VOwn.later {B : Nat} {w w' : World} {v : Nat} {R : List Nat} {L K : List (Int × Int)} (h : VOwn B w v R L K) (hb : Below w.heap.size w w') : VOwn B w' v R L K :=
  h.kept (F := []) (Kept.of hb) (by simp) (by simp)
theorem VStep.same {B : Nat} {w w' : World} {v : Nat} {R : List Nat} {L K : List (Int × Int)} (h : VOwn B w v R L K) (hb : Below w.heap.size w w') : VStep B w w' v R L K :=
  ⟨R, h.later hb, fun _ hg => .inl hg, Kept.of hb⟩
theorem VStep.behind {B : Nat} {w w1 w' : World} {v : Nat} {R : List Nat} {L K : List (Int × Int)} (hb : Below w.heap.size w w1) (h : VStep B w1 w' v R L K) : VStep B w w' v R L K := by
  obtain ⟨R', h1, h2, h3⟩ := h
  exact ⟨R', h1, fun g hg => (h2 g hg).imp_right (fun q => Nat.le_trans hb.size q), (Kept.of hb).trans h3⟩

theorem vnew_own (w : World) : Calls Tryz.prog 51 #[] w fun e w' => e = .returned (.pointer (some ⟨w.heap.size, 0, none⟩)) ∧ VOwn w.heap.size w' w.heap.size [] [] [] ∧ Below w.heap.size w w' := by
  go_enter Tryz.func51, Tryz.ntmps51
  go_wp2
  go_ret
  exact ⟨rfl, ⟨Nat.le_refl _, ⟨none, 0, 0, none, 0, 0, heap_alloc_new w _, nil_row _, nil_row _, nil_in _, nil_in _⟩, by simp⟩, (by (repeat' (first | exact Below.refl _ _ | refine Below.alloc ?_ ?_ _ | refine Below.setCell ?_ ?_ _ | refine Below.drew ?_)); all_goals (first | exact Nat.le_refl _ | omega | (simp; done) | (simp; omega)))⟩
theorem vsync_own {B v : Nat} {R : List Nat} {L K : List (Int × Int)} (w : World) (h : VOwn B w v R L K) :
    Calls Tryz.prog 120 #[.pointer (some ⟨v, 0, none⟩)] w fun e w' => e = .returned (.tuple #[]) ∧ VStep B w w' v R L L := by
  have hl := h.lt
  obtain ⟨h0, ⟨a, n, c, a', n', c', hh, h1, h2, h4, h5⟩, h6⟩ := h
  have c0 : w.cell? ⟨v, 0, none⟩ = some (.slice a n c) := by rw [Go.Lib.cell_of_heap hh]; rfl
  have c1 : w.cell? ⟨v, 1, none⟩ = some (.slice a' n' c') := by rw [Go.Lib.cell_of_heap hh]; rfl
  have f1 : w.frozen? ⟨v, 1, none⟩ = false := Go.Lib.frozen_of_heap hh 1
  have hk : Kept [v] w (w.setCell ⟨v, 1, none⟩ (.slice a n c)) := (Kept.refl [v] w).setCell (.inl (by simp)) _
  have hRv : ∀ g, g ∈ R → g ∉ [v] := fun g hg hm => (h6 g hg).2.2.1 (List.mem_singleton.1 hm)
  have S : Hid (VStep B w (w.setCell ⟨v, 1, none⟩ (.slice a n c)) v R L L) := hide ⟨R, ⟨h0, ⟨a, n, c, a, n, c, by rw [heap_put hh _]; rfl, h1.keptIn h4 hk hRv, h1.keptIn h4 hk hRv, h4, h4⟩, fun g hg => ⟨(h6 g hg).1, Nat.lt_of_lt_of_le (h6 g hg).2.1 hk.size, (h6 g hg).2.2.1, (h6 g hg).2.2.2.kept hk (h6 g hg).2.1 (hRv g hg)⟩⟩, fun _ hg => .inl hg, hk⟩
  clear hh h1 h2 h4 h5 h6 hk hRv h0
  go_enter Tryz.func120, Tryz.ntmps120
  go_wp2
  go_end0
  exact ⟨rfl, unhide S⟩
theorem vcrash_own {B v : Nat} {R : List Nat} {L K : List (Int × Int)} (w : World) (h : VOwn B w v R L K) :
    Calls Tryz.prog 65 #[.pointer (some ⟨v, 0, none⟩)] w fun e w' => e = .returned (.tuple #[]) ∧ VStep B w w' v R K K := by
  have hl := h.lt
  obtain ⟨h0, ⟨a, n, c, a', n', c', hh, h1, h2, h4, h5⟩, h6⟩ := h
  have c0 : w.cell? ⟨v, 0, none⟩ = some (.slice a n c) := by rw [Go.Lib.cell_of_heap hh]; rfl
  have c1 : w.cell? ⟨v, 1, none⟩ = some (.slice a' n' c') := by rw [Go.Lib.cell_of_heap hh]; rfl
  have f1 : w.frozen? ⟨v, 0, none⟩ = false := Go.Lib.frozen_of_heap hh 0
  have hk : Kept [v] w (w.setCell ⟨v, 0, none⟩ (.slice a' n' c')) := (Kept.refl [v] w).setCell (.inl (by simp)) _
  have hRv : ∀ g, g ∈ R → g ∉ [v] := fun g hg hm => (h6 g hg).2.2.1 (List.mem_singleton.1 hm)
  have S : Hid (VStep B w (w.setCell ⟨v, 0, none⟩ (.slice a' n' c')) v R K K) := hide ⟨R, ⟨h0, ⟨a', n', c', a', n', c', by rw [heap_put hh _]; rfl, h2.keptIn h5 hk hRv, h2.keptIn h5 hk hRv, h5, h5⟩, fun g hg => ⟨(h6 g hg).1, Nat.lt_of_lt_of_le (h6 g hg).2.1 hk.size, (h6 g hg).2.2.1, (h6 g hg).2.2.2.kept hk (h6 g hg).2.1 (hRv g hg)⟩⟩, fun _ hg => .inl hg, hk⟩
  clear hh h1 h2 h4 h5 h6 hk hRv h0
  go_enter Tryz.func65, Tryz.ntmps65
  go_wp2
  go_end0
  exact ⟨rfl, unhide S⟩
set_option maxHeartbeats 1600000 in
theorem vspend_own_yes {B v : Nat} {R : List Nat} {L K : List (Int × Int)} (n till now : Int) (w : World) (h : VOwn B w v R L K) (he : SpentM.spendErr L n till now = 0) :
    Calls Tryz.prog 119 #[.pointer (some ⟨v, 0, none⟩), .int .i64 n, .int .i64 till, .int .i64 now] w fun e w' => e = .returned .nilIface ∧ VStep B w w' v R (SpentM.spend L n till now) K := by
  have hl := h.lt
  obtain ⟨h0, ⟨a, n0, c, a', n', c', hh, h1, h2, h4, h5⟩, h6⟩ := h
  have c0 : w.cell? ⟨v, 0, none⟩ = some (.slice a n0 c) := by rw [Go.Lib.cell_of_heap hh]; rfl
  have C := hide (sspend_new n till now w h1)
  rw [errV_zero he, SpentM.spend_ok he] at C
  rw [SpentM.spend_ok he]
  have hM : 0 < (SpentM.left L now ++ [(n, till)]).length := by simp
  generalize SpentM.left L now ++ [(n, till)] = M at C hM ⊢
  have HH := hide hh
  have H2 := hide h2
  have H5 := hide h5
  have H6 := hide h6
  clear hh h1 h2 h4 h5 h6 he
  go_enter Tryz.func119, Tryz.ntmps119
  go_wp2_with fail
  refine (unhide C).mono ?_
  rintro e w1 ⟨b1, m1, d1, rfl, hp, hn, hb⟩
  obtain ⟨g, goff, rfl, hgl, hgc⟩ := hp.2.2.row hM
  have hcg : Cel w1 g := cel_cell (hgc 0 hM).1
  have hgn := hn g goff rfl
  have h3 : w1.heap[v]? = _ := (hb.block v hl).trans (unhide HH)
  have d0 : w1.cell? ⟨v, 0, none⟩ = some (.slice a n0 c) := by rw [Go.Lib.cell_of_heap h3]; rfl
  have f0 : w1.frozen? ⟨v, 0, none⟩ = false := Go.Lib.frozen_of_heap h3 0
  have hl1 : v < w1.heap.size := Nat.lt_of_lt_of_le hl hb.size
  have hk : Kept [v] w1 (w1.setCell ⟨v, 0, none⟩ (.slice (some ⟨g, goff, none⟩) m1 d1)) := (Kept.refl [v] w1).setCell (.inl (by simp)) _
  have hRv : ∀ q, q ∈ g :: R → q ∉ [v] := by
    intro q hq hm
    rw [List.mem_singleton.1 hm] at hq
    rcases List.mem_cons.1 hq with e | e
    · omega
    · exact (unhide H6 v e).2.2.1 rfl
  have S : Hid (VStep B w (w1.setCell ⟨v, 0, none⟩ (.slice (some ⟨g, goff, none⟩) m1 d1)) v R M K) := hide ⟨g :: R, ⟨h0, ⟨_, m1, d1, a', n', c', by rw [heap_put h3 _]; rfl, hp.keptIn (R := g :: R) (fun q off e => by cases e; exact List.mem_cons_self ..) hk hRv, ((unhide H2).later hb).keptIn (R := g :: R) (fun q off e => List.mem_cons_of_mem _ (unhide H5 q off e)) hk hRv, fun q off e => by cases e; exact List.mem_cons_self .., fun q off e => List.mem_cons_of_mem _ (unhide H5 q off e)⟩, fun q hq => by
      rcases List.mem_cons.1 hq with e | e
      · rw [e]; exact ⟨by omega, Nat.lt_of_lt_of_le hgl hk.size, by omega, hcg.kept hk hgl (hRv g (List.mem_cons_self ..))⟩
      · exact ⟨(unhide H6 q e).1, Nat.lt_of_lt_of_le (Nat.lt_of_lt_of_le (unhide H6 q e).2.1 hb.size) hk.size, (unhide H6 q e).2.2.1, ((unhide H6 q e).2.2.2.kept (F := []) (Kept.of hb) (unhide H6 q e).2.1 (by simp)).kept hk (Nat.lt_of_lt_of_le (unhide H6 q e).2.1 hb.size) (hRv q (List.mem_cons_of_mem _ e))⟩⟩, fun q hq => by
      rcases List.mem_cons.1 hq with e | e
      · exact .inr (by omega)
      · exact .inl e, (Kept.of hb).trans hk⟩
  clear h3 hp hb hk c0 hRv hgl hgn hn hgc hcg
  go_wp2
  go_ret
  exact ⟨rfl, unhide S⟩
/-- Spend, every way. -/
theorem vspend_own {B v : Nat} {R : List Nat} {L K : List (Int × Int)} (n till now : Int) (w : World) (h : VOwn B w v R L K) :
    Calls Tryz.prog 119 #[.pointer (some ⟨v, 0, none⟩), .int .i64 n, .int .i64 till, .int .i64 now] w fun e w' => e = .returned (errV (SpentM.spendErr L n till now)) ∧ VStep B w w' v R (VaultM.next L n till now) K := by
  by_cases he : SpentM.spendErr L n till now = 0
  · rw [errV_zero he, VaultM.next_yes he]
    exact vspend_own_yes n till now w h he
  · rw [errV_pos he, VaultM.next_no he]
    refine (vspend_no n till now w h.at he).mono ?_
    rintro e w1 ⟨rfl, hb⟩
    exact ⟨rfl, VStep.same h hb⟩
end Go.Proofs.YthaicpepgianpakGreatDoor
