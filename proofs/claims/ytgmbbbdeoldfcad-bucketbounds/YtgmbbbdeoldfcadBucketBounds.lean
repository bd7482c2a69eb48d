/-
  BucketBounds holds for every bucket and whatever is asked for: what was taken is never more than there was, and what came since; and what is left is right. No condition.
-/
import Derived.Test.YtgmbbbdeoldfcadBucketWalks
import Derived.Test.YtgmbbbdeoldfcadHeld
import Derived.ProofKit
import Derived.Lib.SmallJoins
import Derived.Deep.RegionHeld3
import Derived.Deep.DrawnRows
import Derived.Deep.SlicePairs
import Derived.Deep.Matrix
namespace Go.Proofs.Ytgmbbbdeoldfcad.bucketBounds
open Go.ChangeShapes Go.WideShapes Go.ChangeAt Go.RowKit Go.Joins
set_option linter.unusedVariables false

theorem own : ownKnob Try.prog.godebug = none := by kernel_rfl
theorem laidOut : laidOutB Try.prog = true := by kernel_rfl
def IsRow (k : IntKind) (w : World) (a : Option Addr) (len cap : Nat) (zs : List Int) : Prop :=
  (a = none ∧ len = 0 ∧ cap = 0 ∧ zs = []) ∨
  ∃ x, a = some x ∧ len ≤ cap ∧ cap ≤ maxLen ∧ zs.length = cap ∧ (∀ i, i < zs.length → w.cell? (x.add i) = some (.int k (zs.getD i 0))) ∧ ∀ n ∈ zs, (Lit.int k n).wf = true
def IsPairs (w : World) (a : Option Addr) (len cap : Nat) (zs : List (Int × Int)) : Prop :=
  (a = none ∧ len = 0 ∧ cap = 0 ∧ zs = []) ∨
  ∃ x, a = some x ∧ len ≤ cap ∧ cap ≤ maxLen ∧ zs.length = cap ∧ ∀ i, i < cap → w.cell? (x.add (i * 2)) = some (.int .i64 (zs.getD i (0, 0)).1) ∧ w.cell? (x.add (i * 2 + 1)) = some (.int .i64 (zs.getD i (0, 0)).2)
def IsRows (w : World) (a : Option Addr) (len cap : Nat) (A : Nat → Option Addr) (L C : Nat → Nat) (Z : Nat → List Int) : Prop :=
  (a = none ∧ len = 0 ∧ cap = 0) ∨
  ∃ x, a = some x ∧ len ≤ cap ∧ cap ≤ maxLen ∧ ∀ r, r < cap → w.cell? (x.add r) = some (.slice (A r) (L r) (C r)) ∧ L r ≤ C r ∧ C r ≤ maxLen ∧ (Z r).length = C r ∧ (∀ n ∈ Z r, (Lit.int .i64 n).wf = true) ∧ (A r = none → C r = 0) ∧
    ∀ a', A r = some a' → ∀ c, c < C r → w.cell? (a'.add c) = some (.int .i64 ((Z r).getD c 0))

attribute [local go_sem ↓] Go.wp_at_zero Go.wp_at_succ

/-- A row of two numbers. -/
def Two (W : World) (ak : Option Addr) (lk : Nat) : Prop :=
  lk = 2 → ∃ b off x0 x1, ak = some ⟨b, off, none⟩ ∧ W.cell? ⟨b, off, none⟩ = some (.int .i64 x0) ∧ W.cell? ⟨b, off + 1, none⟩ = some (.int .i64 x1)
theorem Two.later {W W' : World} {ak : Option Addr} {lk : Nat} (h : Two W ak lk) (hb : Below W.heap.size W W') : Two W' ak lk := fun h2 => by
  obtain ⟨b, off, x0, x1, e, c0, c1⟩ := h h2
  exact ⟨b, off, x0, x1, e, cell_later hb c0, cell_later hb c1⟩
/-- What came in as rows: where they lie, and each of two numbers. -/
theorem rows_at {w : World} {a : Option Addr} {len cap : Nat} {A : Nat → Option Addr} {L C : Nat → Nat} {Z : Nat → List Int} (h : IsRows w a len cap A L C Z) (hz : 0 < len) :
    ∃ b off, a = some ⟨b, off, none⟩ ∧ ∀ r, r < len → w.cell? ⟨b, off + r, none⟩ = some (.slice (A r) (L r) (C r)) ∧ Two w (A r) (L r) := by
  rcases h with ⟨_, rfl, _⟩ | ⟨⟨b, off, spot⟩, rfl, hl, hm, hr⟩
  · omega
  · have hspot : spot = none := by simpa [Addr.add] using World.cell?_spot (hr 0 (by omega)).1
    subst hspot
    refine ⟨b, off, rfl, fun r hlt => ?_⟩
    obtain ⟨h1, h2, h3, h4, h5, h6, h7⟩ := hr r (by omega)
    rw [Go.WideShapes.add_plain] at h1
    refine ⟨h1, fun h22 => ?_⟩
    cases ha : A r with
    | none => have := h6 ha; omega
    | some a' =>
      obtain ⟨b', off', spot'⟩ := a'
      have q := h7 _ ha
      have hs' : spot' = none := by simpa [Addr.add] using World.cell?_spot (q 0 (by omega))
      subst hs'
      have q0 := q 0 (by omega)
      have q1 := q 1 (by omega)
      rw [Go.WideShapes.add_plain] at q0 q1
      exact ⟨b', off', _, _, rfl, q0, q1⟩
theorem reg_step {W W1 W2 : World} {c0 c1 c2 c3 c4 c5 c6 : Addr} {v0 v1 v2 v3 v4 v5 v6 : Value} (h : Hid (Below W.heap.size W W1) ∧ W1.cell? c0 = some v0 ∧ W1.cell? c1 = some v1 ∧ W1.cell? c2 = some v2 ∧ W1.cell? c3 = some v3 ∧ W1.cell? c4 = some v4 ∧ W1.cell? c5 = some v5 ∧ W1.cell? c6 = some v6) (hb : Below W1.heap.size W1 W2) :
    Hid (Below W.heap.size W W2) ∧ W2.cell? c0 = some v0 ∧ W2.cell? c1 = some v1 ∧ W2.cell? c2 = some v2 ∧ W2.cell? c3 = some v3 ∧ W2.cell? c4 = some v4 ∧ W2.cell? c5 = some v5 ∧ W2.cell? c6 = some v6 := by
  obtain ⟨q, h0, h1, h2, h3, h4, h5, h6⟩ := h
  exact ⟨hide (Below.trans (unhide q) (hb.mono (unhide q).size)), cell_later hb h0, cell_later hb h1, cell_later hb h2, cell_later hb h3, cell_later hb h4, cell_later hb h5, cell_later hb h6⟩
theorem reg_here {W : World} {c0 c1 c2 c3 c4 c5 c6 : Addr} {v0 v1 v2 v3 v4 v5 v6 : Value} (h0 : W.cell? c0 = some v0) (h1 : W.cell? c1 = some v1) (h2 : W.cell? c2 = some v2) (h3 : W.cell? c3 = some v3) (h4 : W.cell? c4 = some v4) (h5 : W.cell? c5 = some v5) (h6 : W.cell? c6 = some v6) :
    Hid (Below W.heap.size W W) ∧ W.cell? c0 = some v0 ∧ W.cell? c1 = some v1 ∧ W.cell? c2 = some v2 ∧ W.cell? c3 = some v3 ∧ W.cell? c4 = some v4 ∧ W.cell? c5 = some v5 ∧ W.cell? c6 = some v6 := ⟨hide (Below.refl _ _), h0, h1, h2, h3, h4, h5, h6⟩
theorem reg_put {W W1 : World} {c0 c1 c2 c3 c4 c5 c6 : Addr} {v0 v1 v2 v3 v4 v5 v6 : Value} {x0 x1 x2 x3 : Value} (h : Hid (Below W.heap.size W W1) ∧ W1.cell? c0 = some v0 ∧ W1.cell? c1 = some v1 ∧ W1.cell? c2 = some v2 ∧ W1.cell? c3 = some v3 ∧ W1.cell? c4 = some v4 ∧ W1.cell? c5 = some v5 ∧ W1.cell? c6 = some v6) (g0 : c0.block < W.heap.size) (g1 : c1.block < W.heap.size) (g2 : c2.block < W.heap.size) (g3 : c3.block < W.heap.size) (g4 : c4.block < W.heap.size) (g5 : c5.block < W.heap.size) (g6 : c6.block < W.heap.size) :
    Hid (Below W.heap.size W ((((W1.setCell ⟨W.heap.size, 0, none⟩ x0).setCell ⟨W.heap.size, 1, none⟩ x1).setCell ⟨W.heap.size, 2, none⟩ x2).setCell ⟨W.heap.size, 3, none⟩ x3)) ∧ ((((W1.setCell ⟨W.heap.size, 0, none⟩ x0).setCell ⟨W.heap.size, 1, none⟩ x1).setCell ⟨W.heap.size, 2, none⟩ x2).setCell ⟨W.heap.size, 3, none⟩ x3).cell? c0 = some v0 ∧ ((((W1.setCell ⟨W.heap.size, 0, none⟩ x0).setCell ⟨W.heap.size, 1, none⟩ x1).setCell ⟨W.heap.size, 2, none⟩ x2).setCell ⟨W.heap.size, 3, none⟩ x3).cell? c1 = some v1 ∧ ((((W1.setCell ⟨W.heap.size, 0, none⟩ x0).setCell ⟨W.heap.size, 1, none⟩ x1).setCell ⟨W.heap.size, 2, none⟩ x2).setCell ⟨W.heap.size, 3, none⟩ x3).cell? c2 = some v2 ∧ ((((W1.setCell ⟨W.heap.size, 0, none⟩ x0).setCell ⟨W.heap.size, 1, none⟩ x1).setCell ⟨W.heap.size, 2, none⟩ x2).setCell ⟨W.heap.size, 3, none⟩ x3).cell? c3 = some v3 ∧ ((((W1.setCell ⟨W.heap.size, 0, none⟩ x0).setCell ⟨W.heap.size, 1, none⟩ x1).setCell ⟨W.heap.size, 2, none⟩ x2).setCell ⟨W.heap.size, 3, none⟩ x3).cell? c4 = some v4 ∧ ((((W1.setCell ⟨W.heap.size, 0, none⟩ x0).setCell ⟨W.heap.size, 1, none⟩ x1).setCell ⟨W.heap.size, 2, none⟩ x2).setCell ⟨W.heap.size, 3, none⟩ x3).cell? c5 = some v5 ∧ ((((W1.setCell ⟨W.heap.size, 0, none⟩ x0).setCell ⟨W.heap.size, 1, none⟩ x1).setCell ⟨W.heap.size, 2, none⟩ x2).setCell ⟨W.heap.size, 3, none⟩ x3).cell? c6 = some v6 := by
  have e : ∀ (c : Addr) (j : Nat), c.block < W.heap.size → (⟨W.heap.size, j, none⟩ : Addr) ≠ c := fun c j hB he => by rw [← he] at hB; exact Nat.lt_irrefl _ hB
  have far : ∀ (c : Addr) (v : Value), c.block < W.heap.size → W1.cell? c = some v → ((((W1.setCell ⟨W.heap.size, 0, none⟩ x0).setCell ⟨W.heap.size, 1, none⟩ x1).setCell ⟨W.heap.size, 2, none⟩ x2).setCell ⟨W.heap.size, 3, none⟩ x3).cell? c = some v := fun c v hB hc => by
    rw [World.cell?_setCell_other (h := e c _ hB), World.cell?_setCell_other (h := e c _ hB), World.cell?_setCell_other (h := e c _ hB), World.cell?_setCell_other (h := e c _ hB)]; exact hc
  obtain ⟨q, h0, h1, h2, h3, h4, h5, h6⟩ := h
  exact ⟨hide (((((unhide q).setCell (Nat.le_refl _) _).setCell (Nat.le_refl _) _).setCell (Nat.le_refl _) _).setCell (Nat.le_refl _) _), far _ _ g0 h0, far _ _ g1 h1, far _ _ g2 h2, far _ _ g3 h3, far _ _ g4 h4, far _ _ g5 h5, far _ _ g6 h6⟩
theorem fresh_after {W W' : World} {x y z u : Value} {T : TypeId} (hb : Below (W.alloc (.cells #[x, y, z, u] T)).drew.heap.size (W.alloc (.cells #[x, y, z, u] T)).drew W') :
    (W'.cell? ⟨W.heap.size, 0, none⟩ = some x ∧ W'.cell? ⟨W.heap.size, 1, none⟩ = some y ∧ W'.cell? ⟨W.heap.size, 2, none⟩ = some z ∧ W'.cell? ⟨W.heap.size, 3, none⟩ = some u) ∧ (W'.frozen? ⟨W.heap.size, 0, none⟩ = false ∧ W'.frozen? ⟨W.heap.size, 1, none⟩ = false ∧ W'.frozen? ⟨W.heap.size, 2, none⟩ = false ∧ W'.frozen? ⟨W.heap.size, 3, none⟩ = false) ∧ W.heap.size < W'.heap.size := by
  have h := (Held.fresh (w := W) [x, y, z, u] T rfl).later ((Below.refl _ _).drew)
  have h' := h.later hb
  exact ⟨h'.c4.1, h'.c4.2, h'.2⟩

set_option maxHeartbeats 12800000 in
set_option maxRecDepth 8000 in
theorem walk_bad (s r H0 T0 : Int) (a : Option Addr) (len cap : Nat) (w : World) (q : ¬ BucketM.fault s r H0 T0 = 0) :
    Calls Try.prog 3 #[.agg #[.int .i64 s, .int .i64 r, .int .i64 H0, .int .i64 T0], .slice a len cap] w fun e w' => e = .returned (.bool true) ∧ Below w.heap.size w w' := by
  have C1 := hide (fun w => btake_any 5 2 1 0 3 5 w)
  rw [BucketM.first.1, BucketM.told_zero rfl, BucketM.told_zero rfl, BucketM.told_zero rfl, BucketM.told_zero rfl, BucketM.first.2, errV_zero rfl, show (5 : Int) - 5 = 0 from rfl] at C1
  have CK := hide (fun w => bcheck_any s r H0 T0 w)
  rw [BucketM.fault_one q, errV_pos (by omega)] at CK
  clear q
  go_enter Try.func3, Try.ntmps3
  go_wp2_with fail
  refine (unhide C1 _).mono ?_
  rintro e w1 ⟨rfl, hb1⟩
  have HP1 : Hid (Held w1 (w.heap.size) (n4 s r H0 T0)) := hide (((Held.fresh (w := w) (n4 s r H0 T0) 23 (by first | rfl | (simp; done))).later (by (repeat' (first | exact Below.refl _ _ | refine Below.alloc ?_ ?_ _ | refine Below.setCell ?_ ?_ _ | refine Below.drew ?_)); all_goals (first | exact Nat.le_refl _ | omega | (simp; done) | (simp; omega)))).later hb1)
  have HB1 := hide (show Below w.heap.size w w1 from Below.trans (by (repeat' (first | exact Below.refl _ _ | refine Below.alloc ?_ ?_ _ | refine Below.setCell ?_ ?_ _ | refine Below.drew ?_)); all_goals (first | exact Nat.le_refl _ | omega | (simp; done) | (simp; omega))) (hb1.mono (by first | exact Nat.le_refl _ | (simp; done) | (simp; omega))))
  clear hb1
  obtain ⟨p0, p1, p2, p3⟩ := (unhide HP1).c4.1
  have pl := (unhide HP1).2
  go_wp2_with fail
  refine (unhide CK _).mono ?_
  rintro e w2 ⟨rfl, hb2⟩
  clear p0 p1 p2 p3 pl
  have HP2 := hide (((unhide HP1).later (by (repeat' (first | exact Below.refl _ _ | refine Below.alloc ?_ ?_ _ | refine Below.setCell ?_ ?_ _ | refine Below.drew ?_)); all_goals (first | exact Nat.le_refl _ | omega | (simp; done) | (simp; omega)))).later hb2)
  have HB2 := hide (show Below w.heap.size w w2 from (by have := (unhide HP1).2; have := (unhide HB1).size; exact Below.trans (by (repeat' (first | exact Below.refl _ _ | refine Below.alloc ?_ ?_ _ | refine Below.setCell ?_ ?_ _ | refine Below.drew ?_ | refine Below.trans ?_ (Below.mono (unhide HB1) ?_))); all_goals (first | exact Nat.le_refl _ | omega | (simp; done) | (simp; omega))) (hb2.mono (by first | omega | (simp; done) | (simp; omega)))))
  clear hb2
  go_wp2
  go_ret
  exact ⟨rfl, (by have := (unhide HB2).size; exact (by (repeat' (first | exact Below.refl _ _ | refine Below.alloc ?_ ?_ _ | refine Below.setCell ?_ ?_ _ | refine Below.drew ?_ | refine Below.trans ?_ (Below.mono (unhide HB2) ?_))); all_goals (first | exact Nat.le_refl _ | omega | (simp; done) | (simp; omega))))⟩
set_option maxHeartbeats 12800000 in
set_option maxRecDepth 8000 in
theorem walk_good (s r H0 T0 : Int) (a : Option Addr) (len cap : Nat) (A : Nat → Option Addr) (L C : Nat → Nat) (Z : Nat → List Int) (w : World) (q : BucketM.fault s r H0 T0 = 0) (hm : IsRows w a len cap A L C Z) :
    Calls Try.prog 3 #[.agg #[.int .i64 s, .int .i64 r, .int .i64 H0, .int .i64 T0], .slice a len cap] w fun e w' => e = .returned (.bool true) ∧ Below w.heap.size w w' := by
  have C1 := hide (fun w => btake_any 5 2 1 0 3 5 w)
  rw [BucketM.first.1, BucketM.told_zero rfl, BucketM.told_zero rfl, BucketM.told_zero rfl, BucketM.told_zero rfl, BucketM.first.2, errV_zero rfl, show (5 : Int) - 5 = 0 from rfl] at C1
  have CK := hide (fun w => bcheck_any s r H0 T0 w)
  rw [q, errV_zero rfl] at CK
  have HM := hide (fun hz => rows_at hm hz)
  have HR0 := hide (BucketM.fault_zero.1 q)
  clear q hm
  go_enter Try.func3, Try.ntmps3
  go_wp2_with fail
  refine (unhide C1 _).mono ?_
  rintro e w1 ⟨rfl, hb1⟩
  have HP1 : Hid (Held w1 (w.heap.size) (n4 s r H0 T0)) := hide (((Held.fresh (w := w) (n4 s r H0 T0) 23 (by first | rfl | (simp; done))).later (by (repeat' (first | exact Below.refl _ _ | refine Below.alloc ?_ ?_ _ | refine Below.setCell ?_ ?_ _ | refine Below.drew ?_)); all_goals (first | exact Nat.le_refl _ | omega | (simp; done) | (simp; omega)))).later hb1)
  have HB1 := hide (show Below w.heap.size w w1 from Below.trans (by (repeat' (first | exact Below.refl _ _ | refine Below.alloc ?_ ?_ _ | refine Below.setCell ?_ ?_ _ | refine Below.drew ?_)); all_goals (first | exact Nat.le_refl _ | omega | (simp; done) | (simp; omega))) (hb1.mono (by first | exact Nat.le_refl _ | (simp; done) | (simp; omega))))
  clear hb1
  obtain ⟨p0, p1, p2, p3⟩ := (unhide HP1).c4.1
  have pl := (unhide HP1).2
  go_wp2_with fail
  refine (unhide CK _).mono ?_
  rintro e w2 ⟨rfl, hb2⟩
  clear p0 p1 p2 p3 pl
  have HP2 := hide (((unhide HP1).later (by (repeat' (first | exact Below.refl _ _ | refine Below.alloc ?_ ?_ _ | refine Below.setCell ?_ ?_ _ | refine Below.drew ?_)); all_goals (first | exact Nat.le_refl _ | omega | (simp; done) | (simp; omega)))).later hb2)
  have HB2 := hide (show Below w.heap.size w w2 from (by have := (unhide HP1).2; have := (unhide HB1).size; exact Below.trans (by (repeat' (first | exact Below.refl _ _ | refine Below.alloc ?_ ?_ _ | refine Below.setCell ?_ ?_ _ | refine Below.drew ?_ | refine Below.trans ?_ (Below.mono (unhide HB1) ?_))); all_goals (first | exact Nat.le_refl _ | omega | (simp; done) | (simp; omega))) (hb2.mono (by first | omega | (simp; done) | (simp; omega)))))
  clear hb2
  obtain ⟨p0, p1, p2, p3⟩ := (unhide HP2).c4.1
  have pl := (unhide HP2).2
  have hp2 := (unhide HP2).2
  have hsz2 := (unhide HB2).size
  go_wp2
  clear p0 p1 p2 p3 pl
  go_loopw [8, 9] (fun v i wr => ∃ (k : Nat) (tk h t : Int), k ≤ 60 ∧ i = .int .i64 k ∧ v = .int .i64 tk ∧ Hid (BucketM.Right s r h t) ∧ T0 ≤ t ∧ 0 ≤ tk ∧ tk ≤ 100 * k ∧ Hid (tk + h ≤ H0 + r * (t - T0)) ∧ Hid (Held wr w.heap.size (n4 s r h t)) ∧ Hid (Held wr w2.heap.size (n4 s r H0 T0)) ∧ Hid (Below w.heap.size w wr)) (fun _ i _ => 60 - (intOf i).toNat)
  case atStart => exact ⟨0, 0, H0, T0, by omega, rfl, rfl, HR0, Int.le_refl _, Int.le_refl _, by omega, hide (by rw [Int.sub_self, Int.mul_zero]; omega), hide ((unhide HP2).later (by (repeat' (first | exact Below.refl _ _ | refine Below.alloc ?_ ?_ _ | refine Below.setCell ?_ ?_ _ | refine Below.drew ?_)); all_goals (first | exact Nat.le_refl _ | omega | (simp; done) | (simp; omega)))), hide (Held.fresh (n4 s r H0 T0) _ rfl), hide (by (repeat' (first | exact Below.refl _ _ | refine Below.alloc ?_ ?_ _ | refine Below.setCell ?_ ?_ _ | refine Below.drew ?_ | refine Below.trans ?_ (Below.mono (unhide HB2) ?_))); all_goals (first | exact Nat.le_refl _ | omega | (simp; done) | (simp; omega)))⟩
  case round =>
    clear C1 CK HP1 HB1
    obtain ⟨k, tk, h, t, hk, rfl, rfl, HR, ht, htk0, htk1, HV, HP, HF, HB⟩ := hrel
    by_cases hgo : (k : Int) < (len : Int) ∧ (k : Int) < 60
    · obtain ⟨hkl, hk60⟩ := hgo
      obtain ⟨bm, om, rfl, hrow⟩ := unhide HM (by omega)
      obtain ⟨cm', two'⟩ := hrow k (by omega)
      have cm := cell_later (unhide HB) cm'
      have two := two'.later (unhide HB)
      clear hrow cm' two'
      generalize A k = ak at cm two
      generalize L k = lk at cm two
      generalize C k = ck at cm
      have hk0 : (0 : Int) ≤ (k : Int) := by omega
      by_cases h2 : lk = 2
      · subst h2
        obtain ⟨b2, o2, m0, m1, rfl, d0, d1⟩ := two rfl
        clear two
        obtain ⟨p0, p1, p2, p3⟩ := (unhide HP).c4.1
        have pl := (unhide HP).2
        have hbm : bm < wr.heap.size := World.block_lt_of_cell? _ _ cm
        have hb2 : b2 < wr.heap.size := World.block_lt_of_cell? _ _ d0
        have S1 := hide (fun W => btake_any s r h t m0 m1 W)
        by_cases he : BucketM.takeErr s r h t m0 m1 = 0
        · rw [he, BucketM.told_zero rfl, BucketM.told_zero rfl, BucketM.told_zero rfl, BucketM.told_zero rfl, errV_zero rfl] at S1
          have HR1 := hide (BucketM.take_right he)
          have HV1 := hide (BucketM.bound m1 (x := m0) (S := s) (unhide HV))
          obtain ⟨ea, n0, n1⟩ := BucketM.take_zero.1 he
          obtain ⟨-, hx0, hx1⟩ := BucketM.at_zero.1 ea
          have hn1 : m1 ≤ 100 := by have := (BucketM.at_right ea).h1; have := (unhide HR).s1; omega
          generalize BucketM.has s r h t m0 - m1 = X at S1 HR1 HV1
          have CK := hide (fun W => bcheck_any s r X m0 W)
          rw [BucketM.fault_zero.2 (unhide HR1), errV_zero rfl] at CK
          have hX0 := (unhide HR1).h0
          have hX1 := (unhide HR1).h1
          obtain ⟨c0, c1⟩ := BucketM.comes (unhide HR0) (x := m0) (by omega) hx1
          have hH0 := (unhide HR0).h0
          have hH1 := (unhide HR0).h1
          have hs1 := (unhide HR0).s1
          have hT0 := (unhide HR0).t0
          have hbd : tk + m1 ≤ H0 + r * (m0 - T0) := by have := unhide HV1; omega
          have hw2 : ¬ w2.heap.size = w.heap.size := by omega
          clear he ea n1
          go_wp2
          go_region_held3 (fun w' => Hid (Below wr.heap.size wr w') ∧ w'.cell? ⟨w.heap.size, 0, none⟩ = some (.int .i64 s) ∧ w'.cell? ⟨w.heap.size, 1, none⟩ = some (.int .i64 r) ∧ w'.cell? ⟨w.heap.size, 2, none⟩ = some (.int .i64 h) ∧ w'.cell? ⟨w.heap.size, 3, none⟩ = some (.int .i64 t) ∧ w'.cell? ⟨bm, om + k, none⟩ = some (.slice (some ⟨b2, o2, none⟩) 2 ck) ∧ w'.cell? ⟨b2, o2, none⟩ = some (.int .i64 m0) ∧ w'.cell? ⟨b2, o2 + 1, none⟩ = some (.int .i64 m1)) (first | exact reg_step (by assumption) hb | exact reg_step (reg_here p0 p1 p2 p3 cm d0 d1) ((Below.refl _ _).drew) | exact reg_step (reg_here p0 p1 p2 p3 cm d0 d1) (((Below.refl _ _).alloc (Nat.le_refl _) _).drew) | exact reg_step (reg_step (reg_step (reg_here p0 p1 p2 p3 cm d0 d1) ((Below.refl _ _).drew)) hb) ((Below.refl _ _).alloc (Nat.le_refl _) _) | exact reg_put (by assumption) pl pl pl pl hbm hb2 hb2)
            (first | (go_at_call 5; refine (unhide S1 _).mono ?_; rintro e w' ⟨rfl, hb⟩; try (have hfa := fresh_after hb; obtain ⟨⟨hx0, hx1, hx2, hx3⟩, ⟨hxf0, hxf1, hxf2, hxf3⟩, hxl⟩ := hfa)))
          · obtain ⟨hbs, p0, p1, p2, p3, cm, d0, d1⟩ := ‹Hid (Below wr.heap.size wr _) ∧ _›
            have HXB := hide (Held.fresh (w := w') [Value.int .i64 s, Value.int .i64 r, Value.int .i64 X, Value.int .i64 m0] 23 rfl)
            have hxb : wr.heap.size ≤ w'.heap.size := hb.size
            clear hb
            generalize (w'.alloc (Obj.cells [Value.int .i64 s, Value.int .i64 r, Value.int .i64 X, Value.int .i64 m0].toArray 23)) = W2 at HXB hbs p0 p1 p2 p3 cm d0 d1 ⊢
            generalize w'.heap.size = xb at HXB hxb ⊢
            have hnx : ¬ xb = w.heap.size := by omega
            have HP3 := hide ((unhide HP).later (unhide hbs))
            have HF3 := hide ((unhide HF).later (unhide hbs))
            have HB3 := hide (bel3 (unhide HB) (Below.refl _ _) (unhide hbs))
            clear HP HF HB S1 p0 p1 p2 p3 pl hbm hb2 hbs
            obtain ⟨x0, x1, x2, x3⟩ := (unhide HXB).c4.1
            have xl := (unhide HXB).2
            obtain ⟨f0, f1, f2, f3⟩ := (unhide HF3).c4.1
            have fl := (unhide HF3).2
            go_wp2_with fail
            refine (unhide CK _).mono ?_
            rintro e w6 ⟨rfl, hb6⟩
            clear x0 x1 x2 x3 xl f0 f1 f2 f3 fl cm d0 d1
            have HX6 := hide ((unhide HXB).later hb6)
            have HP6 := hide ((unhide HP3).later hb6)
            have HF6 := hide ((unhide HF3).later hb6)
            have HB6 := hide (bel3 (unhide HB3) (Below.refl _ _) hb6)
            have hs6 := hb6.size
            clear hb6 HXB HP3 HF3 HB3
            obtain ⟨x0, x1, x2, x3⟩ := (unhide HX6).c4.1
            have xl := (unhide HX6).2
            obtain ⟨⟨p0, p1, p2, p3⟩, pf0, pf1, pf2, pf3⟩ := (unhide HP6).c4
            have pl := (unhide HP6).2
            go_wp2
            go_roundw
            case rel => exact ⟨k + 1, tk + m1, X, m0, by omega, by go_num, rfl, HR1, by omega, by omega, by omega, HV1, hide (((((unhide HP6).put 0 _).put 1 _).put 2 _).put 3 _), hide (((((unhide HF6).far (by omega) _ _).far (by omega) _ _).far (by omega) _ _).far (by omega) _ _), hide (((((unhide HB6).setCell (Nat.le_refl _) _).setCell (Nat.le_refl _) _).setCell (Nat.le_refl _) _).setCell (Nat.le_refl _) _)⟩
            case measure => simp [intOf]; omega
          · obtain ⟨hbs, p0, p1, p2, p3, cm, d0, d1⟩ := ‹Hid (Below wr.heap.size wr _) ∧ _›
            have HXB := hide (show Held ((((w'.setCell ⟨wr.heap.size, 0, none⟩ (.int .i64 s)).setCell ⟨wr.heap.size, 1, none⟩ (.int .i64 r)).setCell ⟨wr.heap.size, 2, none⟩ (.int .i64 X)).setCell ⟨wr.heap.size, 3, none⟩ (.int .i64 m0)) wr.heap.size [Value.int .i64 s, Value.int .i64 r, Value.int .i64 X, Value.int .i64 m0] from (((((((Held.fresh (w := wr) [Value.int .i64 0, Value.int .i64 0, Value.int .i64 0, Value.int .i64 0] 23 rfl).later ((Below.refl _ _).drew)).later hb).put 0 (.int .i64 s)).put 1 (.int .i64 r)).put 2 (.int .i64 X)).put 3 (.int .i64 m0)))
            clear hb hx0 hx1 hx2 hx3 hxf0 hxf1 hxf2 hxf3 hxl
            generalize ((((w'.setCell ⟨wr.heap.size, 0, none⟩ (.int .i64 s)).setCell ⟨wr.heap.size, 1, none⟩ (.int .i64 r)).setCell ⟨wr.heap.size, 2, none⟩ (.int .i64 X)).setCell ⟨wr.heap.size, 3, none⟩ (.int .i64 m0)) = W2 at HXB hbs p0 p1 p2 p3 cm d0 d1 ⊢
            obtain ⟨xb, hxe⟩ : ∃ xb, xb = wr.heap.size := ⟨_, rfl⟩
            have hxb : wr.heap.size ≤ xb := by omega
            rw [← hxe] at HXB ⊢
            clear hxe
            have hnx : ¬ xb = w.heap.size := by omega
            have HP3 := hide ((unhide HP).later (unhide hbs))
            have HF3 := hide ((unhide HF).later (unhide hbs))
            have HB3 := hide (bel3 (unhide HB) (Below.refl _ _) (unhide hbs))
            clear HP HF HB S1 p0 p1 p2 p3 pl hbm hb2 hbs
            obtain ⟨x0, x1, x2, x3⟩ := (unhide HXB).c4.1
            have xl := (unhide HXB).2
            obtain ⟨f0, f1, f2, f3⟩ := (unhide HF3).c4.1
            have fl := (unhide HF3).2
            go_wp2_with fail
            refine (unhide CK _).mono ?_
            rintro e w6 ⟨rfl, hb6⟩
            clear x0 x1 x2 x3 xl f0 f1 f2 f3 fl cm d0 d1
            have HX6 := hide ((unhide HXB).later hb6)
            have HP6 := hide ((unhide HP3).later hb6)
            have HF6 := hide ((unhide HF3).later hb6)
            have HB6 := hide (bel3 (unhide HB3) (Below.refl _ _) hb6)
            have hs6 := hb6.size
            clear hb6 HXB HP3 HF3 HB3
            obtain ⟨x0, x1, x2, x3⟩ := (unhide HX6).c4.1
            have xl := (unhide HX6).2
            obtain ⟨⟨p0, p1, p2, p3⟩, pf0, pf1, pf2, pf3⟩ := (unhide HP6).c4
            have pl := (unhide HP6).2
            go_wp2
            go_roundw
            case rel => exact ⟨k + 1, tk + m1, X, m0, by omega, by go_num, rfl, HR1, by omega, by omega, by omega, HV1, hide (((((unhide HP6).put 0 _).put 1 _).put 2 _).put 3 _), hide (((((unhide HF6).far (by omega) _ _).far (by omega) _ _).far (by omega) _ _).far (by omega) _ _), hide (((((unhide HB6).setCell (Nat.le_refl _) _).setCell (Nat.le_refl _) _).setCell (Nat.le_refl _) _).setCell (Nat.le_refl _) _)⟩
            case measure => simp [intOf]; omega
        · rw [BucketM.told_pos he, BucketM.told_pos he, BucketM.told_pos he, BucketM.told_pos he, errV_pos he] at S1
          generalize BucketM.takeErr s r h t m0 m1 = E at S1
          clear he
          go_wp2
          go_region_held3 (fun w' => Hid (Below wr.heap.size wr w') ∧ w'.cell? ⟨w.heap.size, 0, none⟩ = some (.int .i64 s) ∧ w'.cell? ⟨w.heap.size, 1, none⟩ = some (.int .i64 r) ∧ w'.cell? ⟨w.heap.size, 2, none⟩ = some (.int .i64 h) ∧ w'.cell? ⟨w.heap.size, 3, none⟩ = some (.int .i64 t) ∧ w'.cell? ⟨bm, om + k, none⟩ = some (.slice (some ⟨b2, o2, none⟩) 2 ck) ∧ w'.cell? ⟨b2, o2, none⟩ = some (.int .i64 m0) ∧ w'.cell? ⟨b2, o2 + 1, none⟩ = some (.int .i64 m1)) (first | exact reg_step (by assumption) hb | exact reg_step (reg_here p0 p1 p2 p3 cm d0 d1) ((Below.refl _ _).drew) | exact reg_step (reg_here p0 p1 p2 p3 cm d0 d1) (((Below.refl _ _).alloc (Nat.le_refl _) _).drew) | exact reg_step (reg_step (reg_step (reg_here p0 p1 p2 p3 cm d0 d1) ((Below.refl _ _).drew)) hb) ((Below.refl _ _).alloc (Nat.le_refl _) _) | exact reg_put (by assumption) pl pl pl pl hbm hb2 hb2)
            (first | (go_at_call 5; refine (unhide S1 _).mono ?_; rintro e w' ⟨rfl, hb⟩; try (have hfa := fresh_after hb; obtain ⟨⟨hx0, hx1, hx2, hx3⟩, ⟨hxf0, hxf1, hxf2, hxf3⟩, hxl⟩ := hfa)))
          · obtain ⟨hbs, p0, p1, p2, p3, cm, d0, d1⟩ := ‹Hid (Below wr.heap.size wr _) ∧ _›
            have HXB := hide (Held.fresh (w := w') [Value.int .i64 0, Value.int .i64 0, Value.int .i64 0, Value.int .i64 0] 23 rfl)
            have hxb : wr.heap.size ≤ w'.heap.size := hb.size
            clear hb
            generalize (w'.alloc (Obj.cells [Value.int .i64 0, Value.int .i64 0, Value.int .i64 0, Value.int .i64 0].toArray 23)) = W2 at HXB hbs p0 p1 p2 p3 cm d0 d1 ⊢
            generalize w'.heap.size = xb at HXB hxb ⊢
            have HP3 := hide ((unhide HP).later (unhide hbs))
            have HF3 := hide ((unhide HF).later (unhide hbs))
            have HB3 := hide (bel3 (unhide HB) (Below.refl _ _) (unhide hbs))
            clear HP HF HB S1 p0 p1 p2 p3 pl hbm hb2 hbs cm d0 d1
            go_wp2
            go_roundw
            case rel => exact ⟨k + 1, tk, h, t, by omega, by go_num, rfl, HR, ht, htk0, by omega, HV, HP3, HF3, HB3⟩
            case measure => simp [intOf]; omega
          · obtain ⟨hbs, p0, p1, p2, p3, cm, d0, d1⟩ := ‹Hid (Below wr.heap.size wr _) ∧ _›
            have HXB := hide (show Held ((((w'.setCell ⟨wr.heap.size, 0, none⟩ (.int .i64 0)).setCell ⟨wr.heap.size, 1, none⟩ (.int .i64 0)).setCell ⟨wr.heap.size, 2, none⟩ (.int .i64 0)).setCell ⟨wr.heap.size, 3, none⟩ (.int .i64 0)) wr.heap.size [Value.int .i64 0, Value.int .i64 0, Value.int .i64 0, Value.int .i64 0] from (((((((Held.fresh (w := wr) [Value.int .i64 0, Value.int .i64 0, Value.int .i64 0, Value.int .i64 0] 23 rfl).later ((Below.refl _ _).drew)).later hb).put 0 (.int .i64 0)).put 1 (.int .i64 0)).put 2 (.int .i64 0)).put 3 (.int .i64 0)))
            clear hb hx0 hx1 hx2 hx3 hxf0 hxf1 hxf2 hxf3 hxl
            generalize ((((w'.setCell ⟨wr.heap.size, 0, none⟩ (.int .i64 0)).setCell ⟨wr.heap.size, 1, none⟩ (.int .i64 0)).setCell ⟨wr.heap.size, 2, none⟩ (.int .i64 0)).setCell ⟨wr.heap.size, 3, none⟩ (.int .i64 0)) = W2 at HXB hbs p0 p1 p2 p3 cm d0 d1 ⊢
            obtain ⟨xb, hxe⟩ : ∃ xb, xb = wr.heap.size := ⟨_, rfl⟩
            have hxb : wr.heap.size ≤ xb := by omega
            rw [← hxe] at HXB ⊢
            clear hxe
            have HP3 := hide ((unhide HP).later (unhide hbs))
            have HF3 := hide ((unhide HF).later (unhide hbs))
            have HB3 := hide (bel3 (unhide HB) (Below.refl _ _) (unhide hbs))
            clear HP HF HB S1 p0 p1 p2 p3 pl hbm hb2 hbs cm d0 d1
            go_wp2
            go_roundw
            case rel => exact ⟨k + 1, tk, h, t, by omega, by go_num, rfl, HR, ht, htk0, by omega, HV, HP3, HF3, HB3⟩
            case measure => simp [intOf]; omega
      · have h2' : ¬ (lk : Int) = 2 := by omega
        have h2'' : ((lk : Int) == 2) = false := by simp; omega
        clear two
        go_wp2
        go_roundw
        case rel => exact ⟨k + 1, tk, h, t, by omega, by go_num, rfl, HR, ht, htk0, by omega, HV, HP, HF, HB⟩
        case measure => simp [intOf]; omega
    · by_cases hkl : (k : Int) < (len : Int)
      · have hk60 : ¬ (k : Int) < 60 := fun h => hgo ⟨hkl, h⟩
        clear hgo
        go_wp2
        go_ret
        exact ⟨rfl, unhide HB⟩
      · clear hgo
        go_wp2
        go_ret
        exact ⟨rfl, unhide HB⟩

theorem walk (s r H0 T0 : Int) (a : Option Addr) (len cap : Nat) (A : Nat → Option Addr) (L C : Nat → Nat) (Z : Nat → List Int) (w : World) (_w0 : (Lit.int .i64 s).wf = true) (_w1 : (Lit.int .i64 r).wf = true) (_w2 : (Lit.int .i64 H0).wf = true) (_w3 : (Lit.int .i64 T0).wf = true) (hm : IsRows w a len cap A L C Z) :
    Calls Try.prog 3 #[.agg #[.int .i64 s, .int .i64 r, .int .i64 H0, .int .i64 T0], .slice a len cap] w fun e w' => e = .returned (.bool true) ∧ Below w.heap.size w w' := by
  by_cases q : BucketM.fault s r H0 T0 = 0
  · exact walk_good s r H0 T0 a len cap A L C Z w q hm
  · exact walk_bad s r H0 T0 a len cap w q


set_option maxRecDepth 100000 in
theorem lifted (os : Os) (started : os.Started) (H : Type) (enc : TypeId × Value → H) :
    ReturnsInHanded {} Try.checked os 3 .any (Rows.bucketBoundsSpec.pre6 enc Try.prog Try.f3 Rows.bucketBoundsRow.domain false) (Rows.bucketBoundsSpec.post enc Try.prog Try.f3 false true false false) := by
  refine returnsInHanded_of_change (C := Try.checked) own started (by kernel_rfl) Try.func3
    (ChangeSpec.witness6 (enc := enc) (C := Try.checked) false ⟨#[], #[.agg #[.int .i64 0, .int .i64 0, .int .i64 0, .int .i64 0], .slice none 0 0], []⟩ 8 (by kernel_rfl) (by kernel_rfl) (by kernel_rfl) (by kernel_rfl)) ?_
  intro W base args ds gs before hval0 hW hcnd _
  have hval : ∀ (j : Nat) t v, Try.f3.params[j]? = some t → args[j]? = some v → Value.okWide Try.prog W .any base t v := hval0
  have hW' := hW
  obtain ⟨p, q, hA0, hV, rfl, hfz, hnd⟩ := hW
  have hA : DataW.TrodAll enc Try.prog W 0 (fun _ => true) true Try.f3.params.toList args.toList ds p := hA0
  rw [Try.params3] at hA hval
  obtain ⟨v0, vs0, d0, ds0, p0, q0, hargs, rfl, rfl, h0, r0⟩ := trodAll_cons hA
  obtain ⟨v1, vs1, d1, ds1, p1, q1, rfl, rfl, rfl, h1, r1⟩ := trodAll_cons r0
  obtain ⟨rfl, rfl, rfl⟩ := trodAll_nil r1
  obtain rfl : args = #[v0, v1] := by cases args; simp_all
  obtain ⟨rfl, rfl⟩ := trodVars_none hV
  have k0 := h0
  have lt0 : ∀ x ∈ p0, x.block < W.heap.size := by obtain ⟨m, hm⟩ := k0; exact DataW.trod_lt m _ _ _ hm
  obtain ⟨c0_0, c0_1, c0_2, c0_3, y0_0, y0_1, y0_2, y0_3, m0, rfl, rfl, rfl, g0_0, g0_1, g0_2, g0_3⟩ := open_agg4 Try.underlying23 (by kernel_rfl) (by kernel_rfl) (hval 0 23 v0 rfl rfl) h0
  obtain ⟨a0_0, e0_0, rfl, w0_0⟩ := DataW.trod_int Try.underlying3 g0_0
  simp at e0_0; subst e0_0
  obtain ⟨a0_1, e0_1, rfl, w0_1⟩ := DataW.trod_int Try.underlying3 g0_1
  simp at e0_1; subst e0_1
  obtain ⟨a0_2, e0_2, rfl, w0_2⟩ := DataW.trod_int Try.underlying3 g0_2
  simp at e0_2; subst e0_2
  obtain ⟨a0_3, e0_3, rfl, w0_3⟩ := DataW.trod_int Try.underlying3 g0_3
  simp at e0_3; subst e0_3
  have k1 := h1
  have lt1 : ∀ x ∈ p1, x.block < W.heap.size := by obtain ⟨m, hm⟩ := k1; exact DataW.trod_lt m _ _ _ hm
  obtain ⟨a1, len1, cap1, rfl⟩ := okWide_slice Try.underlying24 (hval 1 24 v1 rfl rfl)
  obtain ⟨A1, L1, C1, Z1, w1⟩ : ∃ A L C Z, IsRows W a1 len1 cap1 A L C Z := by
    obtain ⟨fuel, hf⟩ := h1
    rcases Go.Deep.open_int_rows Try.underlying24 Try.underlying30 Try.underlying3 (by kernel_rfl) (by kernel_rfl) hf with ⟨hcs, _⟩ | ⟨x, l, c, A, L, C, Z, hcs, _, hl, hm, _, hx⟩
    · simp [Value.cells] at hcs
      obtain ⟨rfl, rfl, rfl⟩ := hcs
      exact ⟨fun _ => none, fun _ => 0, fun _ => 0, fun _ => [], .inl ⟨rfl, rfl, rfl⟩⟩
    · simp [Value.cells] at hcs
      obtain ⟨rfl, rfl, rfl⟩ := hcs
      refine ⟨A, L, C, Z, .inr ⟨_, rfl, hl, hm, fun r hr => ?_⟩⟩
      obtain ⟨h1, h2, h3, h4, h5, h6, h7⟩ := hx r hr
      exact ⟨h1, h2, h3, h4, h5, h6, fun a' ha => (h7 a' ha).2⟩
  clear hA0 hval0
  refine (walk a0_0 a0_1 a0_2 a0_3 a1 len1 cap1 A1 L1 C1 Z1 W w0_0 w0_1 w0_2 w0_3 w1).mono fun e W' ⟨he, bel⟩ => ?_
  subst he
  exact ⟨_, rfl, _, _, _, [], _, [], hW', trodAll_mk1 (shut_bool Try.underlying4 _), (trodAll_cons_mk (Below.trod laidOut (by kernel_rfl) (of_decide_eq_true (by kernel_rfl)) k0 bel lt0) (trodAll_cons_mk (Below.trod laidOut (by kernel_rfl) (of_decide_eq_true (by kernel_rfl)) k1 bel lt1) trodAll_mk0)), rfl, bel.frame _, fun h => by cases h⟩

theorem over : Rows.bucketBoundsRow.holds Try.pinned (OpenSpec.ofChange Rows.bucketBoundsSpec) :=
  OpenClaim.holds_of_wide 3 Try.f3 rfl rfl rfl rfl rfl rfl rfl ⟨rfl, rfl, rfl, rfl, rfl⟩ rfl rfl rfl rfl rfl (by kernel_rfl) Try.func3 (by kernel_rfl)
    (of_decide_eq_true (by kernel_rfl)) (by unfold Func.isWrapper; first | (rw [if_pos (by decide +kernel)]; kernel_rfl) | (rw [if_neg (by decide +kernel)]; exact ⟨rfl, rfl⟩))
    (fun os started H enc _ => lifted os started H enc)

end Go.Proofs.Ytgmbbbdeoldfcad.bucketBounds
namespace Go.Proofs.Ytgmbbbdeoldfcad
theorem bucketBounds_holds : Rows.BucketBoundsSaid := bucketBounds.over
#print axioms bucketBounds_holds
end Go.Proofs.Ytgmbbbdeoldfcad

