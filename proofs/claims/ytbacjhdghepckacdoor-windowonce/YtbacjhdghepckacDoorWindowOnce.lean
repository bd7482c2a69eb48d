/-
  WindowOnce holds for every list of numbers: of those that come in any order each is taken at most once, and one that is near is taken when it comes first. The listed variable errors.errorType starts as the program's text lays it (the card's tie). No other condition.
-/
import Derived.Test.YtbacjhdghepckacDoorWindowWalks
import Derived.Test.YtbacjhdghepckacDoorHeld
import Derived.Test.YtbacjhdghepckacDoorPairs
import Derived.Test.YtbacjhdghepckacDoorTie
import Derived.Test.YtbacjhdghepckacDoorCards
import Derived.ProofKit
import Derived.Lib.SmallJoins
import Derived.LaidMore
import Derived.LaidHandle
import Derived.LaidLaws
import Derived.Stop.Joined
import Derived.SevenTiedAt
import Derived.Deep.RegionHeld3
import Derived.Deep.DrawnRows
import Derived.Deep.AppendLies
namespace Go.Proofs.YtbacjhdghepckacDoor
theorem Held.grown {W W' : World} {b : Nat} {vs : List Value} {row : Option Nat} (h : Held W b vs) (hg : W.grownBy W' row) (hne : some b ≠ row) : Held W' b vs :=
  ⟨fun i v hv => ⟨by rw [hg.cell_far ⟨b, i, none⟩ h.2 hne]; exact (h.1 i v hv).1, by rw [hg.frozen_far ⟨b, i, none⟩ h.2 hne]; exact (h.1 i v hv).2⟩, Nat.lt_of_lt_of_le h.2 hg.size⟩
end Go.Proofs.YtbacjhdghepckacDoor
namespace Go.Proofs.YtbacjhdghepckacDoor.windowOnce
open Go.ChangeShapes Go.WideShapes Go.ChangeAt Go.RowKit Go.Joins
set_option linter.unusedVariables false

theorem own : ownKnob Tryd.prog.godebug = none := by kernel_rfl
theorem laidOut : laidOutB Tryd.prog = true := by kernel_rfl
def IsRow (k : IntKind) (w : World) (a : Option Addr) (len cap : Nat) (zs : List Int) : Prop :=
  (a = none ∧ len = 0 ∧ cap = 0 ∧ zs = []) ∨
  ∃ x, a = some x ∧ len ≤ cap ∧ cap ≤ maxLen ∧ zs.length = cap ∧ (∀ i, i < zs.length → w.cell? (x.add i) = some (.int k (zs.getD i 0))) ∧ ∀ n ∈ zs, (Lit.int k n).wf = true
def IsPairs (w : World) (a : Option Addr) (len cap : Nat) (zs : List (Int × Int)) : Prop :=
  (a = none ∧ len = 0 ∧ cap = 0 ∧ zs = []) ∨
  ∃ x, a = some x ∧ len ≤ cap ∧ cap ≤ maxLen ∧ zs.length = cap ∧ ∀ i, i < cap → w.cell? (x.add (i * 2)) = some (.int .i64 (zs.getD i (0, 0)).1) ∧ w.cell? (x.add (i * 2 + 1)) = some (.int .i64 (zs.getD i (0, 0)).2)
def IsRows (w : World) (a : Option Addr) (len cap : Nat) (A : Nat → Option Addr) (L C : Nat → Nat) (Z : Nat → List Int) : Prop :=
  (a = none ∧ len = 0 ∧ cap = 0) ∨
  ∃ x, a = some x ∧ len ≤ cap ∧ cap ≤ maxLen ∧ ∀ r, r < cap → w.cell? (x.add r) = some (.slice (A r) (L r) (C r)) ∧ L r ≤ C r ∧ C r ≤ maxLen ∧ (Z r).length = C r ∧ (∀ n ∈ Z r, (Lit.int .i64 n).wf = true) ∧ (A r = none → C r = 0) ∧
    ∀ a', A r = some a' → ∀ c, c < C r → w.cell? (a'.add c) = some (.int .i64 ((Z r).getD c 0))

attribute [local go_sem ↓] Go.wp_at_zero Go.wp_at_succ

theorem infoInt : (Tryd.prog.info? 3).map (fun i => (i.zero, i.size, i.bytes)) = some (some (.int .i64 0), 1, 8) := by kernel_rfl
theorem first5 : WinM.takeErr (-1) 0 5 = 0 ∧ WinM.taken (-1) 0 5 = (5, 1) := by decide +kernel
theorem again5 : WinM.takeErr 5 1 5 = 7 ∧ WinM.taken 5 1 5 = (0, 0) := by decide +kernel
theorem then3 : WinM.takeErr 5 1 3 = 0 ∧ WinM.taken 5 1 3 = (5, 5) := by decide +kernel

theorem reg_step3 {W W1 W2 : World} {c d0 d1 : Addr} {v v0 v1 : Value} (h : Hid (Below W.heap.size W W1) ∧ W1.cell? c = some v ∧ W1.cell? d0 = some v0 ∧ W1.cell? d1 = some v1) (hb : Below W1.heap.size W1 W2) :
    Hid (Below W.heap.size W W2) ∧ W2.cell? c = some v ∧ W2.cell? d0 = some v0 ∧ W2.cell? d1 = some v1 :=
  ⟨hide (Below.trans (unhide h.1) (hb.mono (unhide h.1).size)), cell_later hb h.2.1, cell_later hb h.2.2.1, cell_later hb h.2.2.2⟩
theorem reg_start3 {W : World} {c d0 d1 : Addr} {v v0 v1 : Value} (h : W.cell? c = some v) (h0 : W.cell? d0 = some v0) (h1 : W.cell? d1 = some v1) :
    Hid (Below W.heap.size W W.drew) ∧ W.drew.cell? c = some v ∧ W.drew.cell? d0 = some v0 ∧ W.drew.cell? d1 = some v1 :=
  ⟨hide ((Below.refl _ _).drew), by rw [World.cell?_drew]; exact h, by rw [World.cell?_drew]; exact h0, by rw [World.cell?_drew]; exact h1⟩
theorem reg_start2 {W : World} {c d : Addr} {v v0 : Value} (h : W.cell? c = some v) (h0 : W.cell? d = some v0) :
    Hid (Below W.heap.size W W.drew) ∧ W.drew.cell? c = some v ∧ W.drew.cell? d = some v0 :=
  ⟨hide ((Below.refl _ _).drew), by rw [World.cell?_drew]; exact h, by rw [World.cell?_drew]; exact h0⟩
theorem reg_first3 {W : World} {c d0 d1 : Addr} {o : Obj} {v v0 v1 : Value} (h : W.cell? c = some v) (h0 : W.cell? d0 = some v0) (h1 : W.cell? d1 = some v1) :
    Hid (Below W.heap.size W (W.alloc o).drew) ∧ (W.alloc o).drew.cell? c = some v ∧ (W.alloc o).drew.cell? d0 = some v0 ∧ (W.alloc o).drew.cell? d1 = some v1 :=
  have hb : Below W.heap.size W (W.alloc o).drew := ((Below.refl _ _).alloc (Nat.le_refl _) _).drew
  ⟨hide hb, cell_later hb h, cell_later hb h0, cell_later hb h1⟩
theorem reg_put3 {W W1 : World} {b off d k : Nat} {x y v v0 v1 : Value} (h : Hid (Below W.heap.size W W1) ∧ W1.cell? ⟨b, off + k, none⟩ = some v ∧ W1.cell? ⟨d, 0, none⟩ = some v0 ∧ W1.cell? ⟨d, 1, none⟩ = some v1) (hb : b < W.heap.size) (hd : d < W.heap.size) :
    Hid (Below W.heap.size W ((W1.setCell ⟨W.heap.size, 0, none⟩ x).setCell ⟨W.heap.size, 1, none⟩ y)) ∧ ((W1.setCell ⟨W.heap.size, 0, none⟩ x).setCell ⟨W.heap.size, 1, none⟩ y).cell? ⟨b, off + k, none⟩ = some v ∧ ((W1.setCell ⟨W.heap.size, 0, none⟩ x).setCell ⟨W.heap.size, 1, none⟩ y).cell? ⟨d, 0, none⟩ = some v0 ∧ ((W1.setCell ⟨W.heap.size, 0, none⟩ x).setCell ⟨W.heap.size, 1, none⟩ y).cell? ⟨d, 1, none⟩ = some v1 := by
  have e1 : ∀ (B o j : Nat), B < W.heap.size → (⟨W.heap.size, j, none⟩ : Addr) ≠ ⟨B, o, none⟩ := fun B o j hB he => by have := (Addr.mk.inj he).1; omega
  refine ⟨hide (((unhide h.1).setCell (Nat.le_refl _) _).setCell (Nat.le_refl _) _), ?_, ?_, ?_⟩
  · rw [World.cell?_setCell_other (h := e1 _ _ _ hb), World.cell?_setCell_other (h := e1 _ _ _ hb)]; exact h.2.1
  · rw [World.cell?_setCell_other (h := e1 _ _ _ hd), World.cell?_setCell_other (h := e1 _ _ _ hd)]; exact h.2.2.1
  · rw [World.cell?_setCell_other (h := e1 _ _ _ hd), World.cell?_setCell_other (h := e1 _ _ _ hd)]; exact h.2.2.2
theorem fresh_after {W W' : World} {x y : Value} {T : TypeId} (hb : Below (W.alloc (.cells #[x, y] T)).drew.heap.size (W.alloc (.cells #[x, y] T)).drew W') :
    W'.cell? ⟨W.heap.size, 0, none⟩ = some x ∧ W'.cell? ⟨W.heap.size, 1, none⟩ = some y ∧ W'.frozen? ⟨W.heap.size, 0, none⟩ = false ∧ W'.frozen? ⟨W.heap.size, 1, none⟩ = false ∧ W.heap.size < W'.heap.size := by
  have h := (Held.fresh (w := W) [x, y] T rfl).later ((Below.refl _ _).drew)
  have h' := h.later hb
  exact ⟨h'.c2.1.1, h'.c2.1.2, h'.c2.2.1, h'.c2.2.2, h'.2⟩
theorem own_took {w : World} {base n : Nat} {e : TypeId} {v : Value} {zs : List Int} (h : w.ownsRow base e 1 v n (zs.map (Value.int .i64))) (hn : n ≤ 60) :
    ∃ a cap, v = .slice a n cap ∧ zs.length = n ∧ Ints w a zs := by
  have hl : zs.length = n := by have := h.1; simpa using this
  rcases h.2 with ⟨rfl, h0⟩ | ⟨g, cap, cur, rfl, _⟩
  · have : zs = [] := List.length_eq_zero_iff.1 (by omega)
    subst this
    exact ⟨none, 0, by rw [h0], hl, nil_ints w⟩
  · exact ⟨_, cap, rfl, hl, (own_ints h (by unfold maxLen; omega)).2⟩

set_option maxHeartbeats 12800000 in
set_option maxRecDepth 8000 in
theorem walk1 (a : Option Addr) (len cap : Nat) (l : List Int) (w : World) (hlen : l.length = len) (hI : Ints w a l) (hg : ErrType w) :
    Calls Tryd.prog 7 #[.slice a len cap] w fun e w' => e = .returned (.bool true) ∧ Below w.heap.size w w' := by
  obtain ⟨i0, hi, hz0, hz1, hz2⟩ := info_parts infoInt
  have HG := hide hg
  have HL := hide hlen
  have HI := hide hI
  have C1 := hide (fun w => wtake_any (-1) 0 5 w)
  rw [first5.1, first5.2, errV_zero rfl] at C1
  have C2 := hide (fun w => wtake_any 5 1 5 w)
  rw [again5.1, again5.2, errV_pos (by omega)] at C2
  have C3 := hide (fun w => wtake_any 5 1 3 w)
  rw [then3.1, then3.2, errV_zero rfl] at C3
  dsimp only at C1 C2 C3
  clear hlen hI hg
  go_enter Tryd.func7, Tryd.ntmps7
  go_wp2_with fail
  refine (wnew_any _).mono ?_
  rintro e w1 ⟨rfl, hb1⟩
  have HB1 := hide (show Below w.heap.size w w1 from Below.trans (by (repeat' (first | exact Below.refl _ _ | refine Below.alloc ?_ ?_ _ | refine Below.setCell ?_ ?_ _ | refine Below.drew ?_)); all_goals (first | exact Nat.le_refl _ | omega | (simp; done) | (simp; omega))) (hb1.mono (by first | exact Nat.le_refl _ | (simp; done) | (simp; omega))))
  clear hb1
  go_wp2_with fail
  refine (unhide C1 _).mono ?_
  rintro e w2 ⟨rfl, hb2⟩
  have HW2 : Hid (Held w2 (w1.heap.size) (n2 (-1) 0)) := hide ((Held.fresh (n2 (-1) 0) _ (by first | rfl | (simp; done))).later hb2)
  have HB2 := hide (show Below w.heap.size w w2 from (by have := (unhide HB1).size; exact Below.trans (by (repeat' (first | exact Below.refl _ _ | refine Below.alloc ?_ ?_ _ | refine Below.setCell ?_ ?_ _ | refine Below.drew ?_ | refine Below.trans ?_ (Below.mono (unhide HB1) ?_))); all_goals (first | exact Nat.le_refl _ | omega | (simp; done) | (simp; omega))) (hb2.mono (by first | omega | (simp; done) | (simp; omega)))))
  clear hb2
  go_wp2_with fail
  refine (unhide C2 _).mono ?_
  rintro e w3 ⟨rfl, hb3⟩
  have HW3 := hide (((unhide HW2).later (by (repeat' (first | exact Below.refl _ _ | refine Below.alloc ?_ ?_ _ | refine Below.setCell ?_ ?_ _ | refine Below.drew ?_)); all_goals (first | exact Nat.le_refl _ | omega | (simp; done) | (simp; omega)))).later hb3)
  have HO3 : Hid (Held w3 (w2.heap.size) (n2 5 1)) := hide ((Held.fresh (n2 5 1) _ (by first | rfl | (simp; done))).later hb3)
  have HB3 := hide (show Below w.heap.size w w3 from (by have := (unhide HW2).2; have := (unhide HB2).size; exact Below.trans (by (repeat' (first | exact Below.refl _ _ | refine Below.alloc ?_ ?_ _ | refine Below.setCell ?_ ?_ _ | refine Below.drew ?_ | refine Below.trans ?_ (Below.mono (unhide HB2) ?_))); all_goals (first | exact Nat.le_refl _ | omega | (simp; done) | (simp; omega))) (hb3.mono (by first | omega | (simp; done) | (simp; omega)))))
  clear hb3
  obtain ⟨o0, o1⟩ := (unhide HO3).c2.1
  have ol := (unhide HO3).2
  go_wp2_with fail
  refine (unhide C3 _).mono ?_
  rintro e w4 ⟨rfl, hb4⟩
  clear o0 o1 ol
  have HW4 := hide (((unhide HW3).later (by (repeat' (first | exact Below.refl _ _ | refine Below.alloc ?_ ?_ _ | refine Below.setCell ?_ ?_ _ | refine Below.drew ?_)); all_goals (first | exact Nat.le_refl _ | omega | (simp; done) | (simp; omega)))).later hb4)
  have HO4 := hide (((unhide HO3).later (by (repeat' (first | exact Below.refl _ _ | refine Below.alloc ?_ ?_ _ | refine Below.setCell ?_ ?_ _ | refine Below.drew ?_)); all_goals (first | exact Nat.le_refl _ | omega | (simp; done) | (simp; omega)))).later hb4)
  have HB4 := hide (show Below w.heap.size w w4 from (by have := (unhide HW3).2; have := (unhide HO3).2; have := (unhide HB3).size; exact Below.trans (by (repeat' (first | exact Below.refl _ _ | refine Below.alloc ?_ ?_ _ | refine Below.setCell ?_ ?_ _ | refine Below.drew ?_ | refine Below.trans ?_ (Below.mono (unhide HB3) ?_))); all_goals (first | exact Nat.le_refl _ | omega | (simp; done) | (simp; omega))) (hb4.mono (by first | omega | (simp; done) | (simp; omega)))))
  clear hb4
  go_wp2_with fail
  refine (same_errno _ _ _ ((unhide HG).later (by have := (unhide HB4).size; exact (by (repeat' (first | exact Below.refl _ _ | refine Below.alloc ?_ ?_ _ | refine Below.setCell ?_ ?_ _ | refine Below.drew ?_ | refine Below.trans ?_ (Below.mono (unhide HB4) ?_))); all_goals (first | exact Nat.le_refl _ | omega | (simp; done) | (simp; omega)))))).mono ?_
  rintro e w5 ⟨rfl, hb5⟩
  have HW5 := hide (((unhide HW4).later (by (repeat' (first | exact Below.refl _ _ | refine Below.alloc ?_ ?_ _ | refine Below.setCell ?_ ?_ _ | refine Below.drew ?_)); all_goals (first | exact Nat.le_refl _ | omega | (simp; done) | (simp; omega)))).later hb5)
  have HQ5 : Hid (Held w5 (w4.heap.size) (n2 5 5)) := hide ((Held.fresh (n2 5 5) _ (by first | rfl | (simp; done))).later hb5)
  have HB5 := hide (show Below w.heap.size w w5 from (by have := (unhide HW4).2; have := (unhide HB4).size; exact Below.trans (by (repeat' (first | exact Below.refl _ _ | refine Below.alloc ?_ ?_ _ | refine Below.setCell ?_ ?_ _ | refine Below.drew ?_ | refine Below.trans ?_ (Below.mono (unhide HB4) ?_))); all_goals (first | exact Nat.le_refl _ | omega | (simp; done) | (simp; omega))) (hb5.mono (by first | omega | (simp; done) | (simp; omega)))))
  clear hb5
  obtain ⟨q0, q1⟩ := (unhide HQ5).c2.1
  have ql := (unhide HQ5).2
  have hW5 := (unhide HW5).2
  have hsz1 := (unhide HB1).size
  clear C1 C2 C3
  go_wp2
  clear q0 q1 ql
  go_loopw [10, 11] (fun v i wr => ∃ (k m : Nat) (tk : List Int) (t B : Int), k ≤ 60 ∧ m ≤ k ∧ i = .int .i64 k ∧ Hid (wr.ownsRow w5.heap.size 3 1 v m (tk.map (Value.int .i64))) ∧ Hid (WinM.Inv t B tk) ∧ Hid (Held wr w1.heap.size [.int .i64 t, .int .i64 B]) ∧ Hid (Below w.heap.size w wr) ∧ w5.heap.size ≤ wr.heap.size) (fun _ i _ => 60 - (intOf i).toNat)
  case atStart => exact ⟨0, 0, [], -1, 0, by omega, by omega, rfl, hide (World.ownsRow_nil _ _ _ _), hide WinM.inv_new, HW5, HB5, Nat.le_refl _⟩
  case round =>
    clear HW5 HB1 HB2 HB3 HB4 HB5 HW2 HW3 HW4 HQ5 HO3
    obtain ⟨k, m, tk, t, B, hk, hm, rfl, HO, HV, HW, HB, hsz⟩ := hrel
    obtain ⟨⟨a0, a1⟩, fz0, fz1⟩ := (unhide HW).c2
    have al := (unhide HW).2
    have hlo := (unhide HV).right.lo
    have hhi := (unhide HV).right.hi
    have hsw := (unhide HB).size
    by_cases hgo : (k : Int) < (len : Int) ∧ (k : Int) < 60
    · obtain ⟨hkl, hk60⟩ := hgo
      obtain ⟨b, off, rfl, hc'⟩ := (unhide HI).2 k (by rw [unhide HL]; omega)
      have hc := cell_later (unhide HB) hc'
      have hk0 : (0 : Int) ≤ (k : Int) := by omega
      have S1 := hide (fun W => wtake_any t B (l.getD k 0) W)
      rw [WinM.take_rest _ (WinM.fault_zero.2 (unhide HV).right)] at S1
      generalize l.getD k 0 = n at hc S1
      clear hc'
      obtain ⟨av, cv, rfl, hml, hin⟩ := own_took (unhide HO) (by omega)
      have HIN := hide hin
      have HML := hide hml
      clear hin hml
      generalize hT : (WinM.taken t B n).1 = T at S1
      generalize hX : (WinM.taken t B n).2 = X at S1
      generalize hev : errV (WinM.restErr t B n) = ev at S1
      have HT := hide hT
      have HX := hide hX
      have HEV := hide hev
      clear hT hX hev
      have hne1 : b < wr.heap.size := World.block_lt_of_cell? _ _ hc
      have hne2 : w1.heap.size < wr.heap.size := al
      go_wp2
      go_region_held3 (fun w' => Hid (Below wr.heap.size wr w') ∧ w'.cell? ⟨b, off + k, none⟩ = some (.int .i64 n) ∧ w'.cell? ⟨w1.heap.size, 0, none⟩ = some (.int .i64 t) ∧ w'.cell? ⟨w1.heap.size, 1, none⟩ = some (.int .i64 B)) (first | exact reg_step3 (by assumption) hb | exact reg_start3 hc a0 a1 | exact reg_first3 hc a0 a1 | exact reg_step3 (reg_step3 (reg_start3 hc a0 a1) hb) ((Below.refl _ _).alloc (Nat.le_refl _) _) | exact reg_put3 (by assumption) hne1 hne2)
        (first | (go_at_call 23; refine (unhide S1 _).mono ?_; rintro e w' ⟨rfl, hb⟩; try (have hfa := fresh_after hb; obtain ⟨hx0, hx1, hxf0, hxf1, hxl⟩ := hfa)))
      · obtain ⟨hbs, hc2, b0, b1⟩ := ‹Hid (Below wr.heap.size wr _) ∧ _›
        have HXB := hide (Held.fresh (w := w') [Value.int .i64 T, Value.int .i64 X] 46 rfl)
        have hxb : wr.heap.size ≤ w'.heap.size := hb.size
        clear hb
        generalize (w'.alloc (Obj.cells [Value.int .i64 T, Value.int .i64 X].toArray 46)) = W2 at HXB hbs hc2 b0 b1 ⊢
        generalize w'.heap.size = xb at HXB hxb ⊢
        have HO2 := hide (own_later (unhide HO) (unhide hbs))
        have HIN2 := hide ((unhide HIN).later (unhide hbs))
        have HW2 := hide ((unhide HW).later (unhide hbs))
        have HB2 := hide (bel3 (unhide HB) (Below.refl _ _) (unhide hbs))
        have hsz2 := (unhide hbs).size
        have hlt := fun q hq => (unhide HO).lt q hq
        have HLT := hide hlt
        clear hlt S1 HIN a0 a1 fz0 fz1 al hc hne1 hne2 HW hbs
        clear b0 b1
        go_wp2
        go_loopw [14, 15] (fun h i wi => ∃ j : Nat, j ≤ m ∧ i = .int .i64 j ∧ h = .bool (WinM.hadB (tk.take j) n) ∧ Hid (Below W2.heap.size W2 wi)) (fun _ i _ => m - (intOf i).toNat)
        case atStart => exact ⟨0, Nat.zero_le _, rfl, by rw [WinM.had_zero], hide (Below.refl _ _)⟩
        case round =>
          obtain ⟨j, hj, rfl, rfl, HBI⟩ := hrel
          by_cases hjm : (j : Int) < (m : Int)
          · obtain ⟨g, og, rfl, hcj'⟩ := (unhide HIN2).2 j (by rw [unhide HML]; omega)
            have hcj := cell_later (unhide HBI) hcj'
            have hci := cell_later (unhide HBI) hc2
            clear hcj' hc2
            have hr := hide (WinM.hadB_at (n := n) (l := tk) (k := j) (by rw [unhide HML]; omega))
            generalize tk.getD j 0 = y at hcj hr
            generalize WinM.hadB (tk.take j) n = q at hr ⊢
            have hj0 : (0 : Int) ≤ (j : Int) := by omega
            cases q with
            | false =>
              go_wp2
              go_region_held3 (fun w' => Hid (Below wr.heap.size wr w') ∧ w'.cell? ⟨g, og + j, none⟩ = some (.int .i64 y) ∧ w'.cell? ⟨b, off + k, none⟩ = some (.int .i64 n)) (exact reg_start2 hcj hci) (fail)
              have HBJ := hide (bel3 (unhide HBI) (Below.refl _ _) (unhide (And.left ‹Hid (Below wr.heap.size wr _) ∧ _›)))
              go_wp2
              go_roundw
              case rel => exact ⟨j + 1, by omega, by go_num, by rw [unhide hr]; rfl, HBJ⟩
              case measure => simp [intOf]; omega
            | true =>
              go_wp2
              go_region
              have HBJ := hide (bel3 (unhide HBI) (Below.refl _ _) ((Below.refl wr.heap.size wr).drew))
              go_wp2
              go_roundw
              case rel => exact ⟨j + 1, by omega, by go_num, by rw [unhide hr]; rfl, HBJ⟩
              case measure => simp [intOf]; omega
          · obtain rfl : j = m := by omega
            have HO3 := hide (own_later (unhide HO2) (unhide HBI))
            have HW3 := hide ((unhide HW2).later (unhide HBI))
            have HB3 := hide (bel3 (unhide HB2) (Below.refl _ _) (unhide HBI))
            have HX3 := hide ((unhide HXB).later (unhide HBI))
            have hc3 := cell_later (unhide HBI) hc2
            have hsz3 := (unhide HBI).size
            clear hc2 HIN2 HO2 HW2 HB2 HXB HBI
            obtain ⟨⟨b0, b1⟩, fz0, fz1⟩ := (unhide HW3).c2
            have al := (unhide HW3).2
            have HH := hide (show WinM.hadB (tk.take j) n = WinM.hadB tk n by rw [List.take_of_length_le (by rw [unhide HML]; omega)])
            generalize WinM.hadB (tk.take j) n = hd at HH ⊢
            by_cases h0 : WinM.restErr t B n = 0
            · obtain rfl : ev = .nilIface := by rw [← unhide HEV, errV_zero h0]
              obtain rfl : hd = false := by rw [unhide HH]; simp [WinM.hadB, WinM.inv_had (unhide HV) h0]
              have HVn := hide (show WinM.Inv T X (tk ++ [n]) by
                have h := WinM.inv_take (unhide HV) h0
                have e := WinM.taken_yes (t := t) (B := B) (n := n) (by rw [WinM.take_rest _ (WinM.fault_zero.2 (unhide HV).right)]; exact h0)
                have e1 := unhide HT
                have e2 := unhide HX
                rw [e] at e1 e2
                dsimp only at e1 e2
                rw [← e1, ← e2]
                exact h)
              have CK := hide (fun W => wcheck_any T X W)
              rw [WinM.fault_zero.2 (unhide HVn).right, errV_zero rfl] at CK
              clear h0 HEV HH HT HX
              obtain ⟨⟨x0, x1⟩, -⟩ := (unhide HX3).c2
              have xl := (unhide HX3).2
              go_wp2_with fail
              refine (unhide CK _).mono ?_
              rintro e w6 ⟨rfl, hb6⟩
              have HO6 := hide (own_later (unhide HO3) hb6)
              have HW6 := hide ((unhide HW3).later hb6)
              have HX6 := hide ((unhide HX3).later hb6)
              have HB6 := hide (bel3 (unhide HB3) (Below.refl _ _) hb6)
              have hc6 := cell_later hb6 hc3
              have hsz6 := hb6.size
              have hsw6 := (unhide HB6).size
              clear hb6 hc3 b0 b1 fz0 fz1 x0 x1 xl al
              go_wp2_with (at_builtin; refine wpList_append_own _ rfl _ _ 41 rfl w5.heap.size 3 i0 (.int .i64 0) 1 8 Tryd.underlying41 hi hz0 hz1 hz2 rfl (by decide) _ _ _ rfl ((unhide HO6).alloc _) ⟨w6.heap.size, 0, none⟩ 1 1 [.int .i64 n] rfl rfl ?c1 ?c2 ?c3 ?c4 ?c5 ?_)
              case c1 =>
                intro j u hj
                match j, hj with
                | 0, hj => simp at hj; subst hj; simp [Addr.add]
                | j + 1, hj => simp at hj
              case c2 => exact ints_one [n]
              case c3 => unfold maxLen; omega
              case c4 => omega
              case c5 => simp; omega
              · intro v' w7 hown' hgrow _
                have hB7 : Below w6.heap.size w6 _ := (Below.refl _ _).alloc (Nat.le_refl _) (Obj.cells #[Value.int .i64 n] 3)
                have HX7 := hide (((unhide HX6).later ((Below.refl _ _).alloc (Nat.le_refl _) _)).grown hgrow (fun e => by have := (unhide HLT _ e.symm).2; omega))
                have HW7 := hide (((unhide HW6).later ((Below.refl _ _).alloc (Nat.le_refl _) _)).grown hgrow (fun e => by have := (unhide HLT _ e.symm).1; omega))
                have HB7 := hide (((unhide HB6).alloc hsw6 _).grown hgrow (by simp; omega) (fun q hq => by have := (unhide HLT q hq).1; omega))
                have HO7 := hide (show w7.ownsRow w5.heap.size 3 1 v' (j + 1) ((tk ++ [n]).map (Value.int .i64)) by simpa using hown')
                have hsz7 := hgrow.size
                simp at hsz7
                clear hown' hgrow hB7 hc6 HX6 HW6 HB6 HO6
                obtain ⟨⟨x0, x1⟩, -⟩ := (unhide HX7).c2
                obtain ⟨⟨b0, b1⟩, fz0, fz1⟩ := (unhide HW7).c2
                have xl := (unhide HX7).2
                have al := (unhide HW7).2
                have hnx : ¬ xb = w1.heap.size := by omega
                go_wp2
                go_roundw
                case rel => exact ⟨k + 1, j + 1, tk ++ [n], T, X, by omega, by omega, by go_num, hide (ownsRow_setCell_below (ownsRow_setCell_below (unhide HO7) (by show w1.heap.size < w5.heap.size; omega) _) (by show w1.heap.size < w5.heap.size; omega) _), HVn, hide (((unhide HW7).put 0 _).put 1 _), hide (((unhide HB7).setCell (by show w.heap.size ≤ w1.heap.size; omega) _).setCell (by show w.heap.size ≤ w1.heap.size; omega) _), by simp; omega⟩
                case measure => simp [intOf]; omega
            · obtain rfl : ev = .iface 56 (.int .i64 (WinM.restErr t B n)) := by rw [← unhide HEV, errV_pos h0]
              clear HEV HX3 HT HX HO fz0 fz1
              by_cases hn0 : n < 0
              · generalize WinM.restErr t B n = q
                clear h0
                have hd0 : (0 ≤ n) = False := by simp; omega
                go_wp2
                go_region
                have HBJ := hide ((Below.refl wr.heap.size wr).drew)
                have hszj := (unhide HBJ).size
                go_wp2
                go_roundw
                case rel => exact ⟨k + 1, j, tk, t, B, by omega, by omega, by go_num, hide (own_later (unhide HO3) (unhide HBJ)), HV, hide ((unhide HW3).later (unhide HBJ)), hide (bel3 (unhide HB3) (Below.refl _ _) (unhide HBJ)), by omega⟩
                case measure => simp [intOf]; omega
              · by_cases hn1 : 100000 < n
                · generalize WinM.restErr t B n = q
                  clear h0
                  have hd1 : (n ≤ 100000) = False := by simp; omega
                  go_wp2
                  go_region
                  have HBJ := hide ((Below.refl wr.heap.size wr).drew)
                  have hszj := (unhide HBJ).size
                  go_wp2
                  go_roundw
                  case rel => exact ⟨k + 1, j, tk, t, B, by omega, by omega, by go_num, hide (own_later (unhide HO3) (unhide HBJ)), HV, hide ((unhide HW3).later (unhide HBJ)), hide (bel3 (unhide HB3) (Below.refl _ _) (unhide HBJ)), by omega⟩
                  case measure => simp [intOf]; omega
                · by_cases hn2 : t - 32 < n
                  · obtain ⟨hmem, h7⟩ := WinM.inv_near (unhide HV) h0 (by omega) (by omega) hn2
                    obtain rfl : hd = true := by rw [unhide HH]; simp [WinM.hadB, hmem]
                    rw [h7]
                    clear h0 h7 hmem HH
                    go_wp2
                    go_region_held3 (fun w' => Hid (Below wr.heap.size wr w') ∧ w'.cell? ⟨b, off + k, none⟩ = some (.int .i64 n) ∧ w'.cell? ⟨w1.heap.size, 0, none⟩ = some (.int .i64 t)) (exact reg_start2 hc3 b0) (fail)
                    have HBJ := And.left ‹Hid (Below wr.heap.size wr _) ∧ _›
                    have hszj := (unhide HBJ).size
                    have HO4' := hide (own_later (unhide HO3) (unhide HBJ))
                    have HW4' := hide ((unhide HW3).later (unhide HBJ))
                    have HB4' := hide (bel3 (unhide HB3) (Below.refl _ _) (unhide HBJ))
                    go_wp2_with fail
                    refine (same_errno _ _ _ ((unhide HG).later (unhide HB4'))).mono ?_
                    rintro e w6 ⟨rfl, hb6⟩
                    have HO6 := hide (own_later (unhide HO4') hb6)
                    have HW6 := hide ((unhide HW4').later hb6)
                    have HB6 := hide (bel3 (unhide HB4') (Below.refl _ _) hb6)
                    have hsz6 := hb6.size
                    clear hb6
                    go_wp2
                    go_roundw
                    case rel => exact ⟨k + 1, j, tk, t, B, by omega, by omega, by go_num, HO6, HV, HW6, HB6, by omega⟩
                    case measure => simp [intOf]; omega
                  · generalize WinM.restErr t B n = q
                    clear h0
                    go_wp2
                    go_region_held3 (fun w' => Hid (Below wr.heap.size wr w') ∧ w'.cell? ⟨b, off + k, none⟩ = some (.int .i64 n) ∧ w'.cell? ⟨w1.heap.size, 0, none⟩ = some (.int .i64 t)) (exact reg_start2 hc3 b0) (fail)
                    have HBJ := And.left ‹Hid (Below wr.heap.size wr _) ∧ _›
                    have hszj := (unhide HBJ).size
                    go_wp2
                    go_roundw
                    case rel => exact ⟨k + 1, j, tk, t, B, by omega, by omega, by go_num, hide (own_later (unhide HO3) (unhide HBJ)), HV, hide ((unhide HW3).later (unhide HBJ)), hide (bel3 (unhide HB3) (Below.refl _ _) (unhide HBJ)), by omega⟩
                    case measure => simp [intOf]; omega
      · obtain ⟨hbs, hc2, b0, b1⟩ := ‹Hid (Below wr.heap.size wr _) ∧ _›
        have HXB := hide (show Held ((w'.setCell ⟨wr.heap.size, 0, none⟩ (.int .i64 T)).setCell ⟨wr.heap.size, 1, none⟩ (.int .i64 X)) wr.heap.size [.int .i64 T, .int .i64 X] from ((((Held.fresh (w := wr) [Value.int .i64 0, Value.int .i64 0] 46 rfl).later ((Below.refl _ _).drew)).later hb).put 0 (.int .i64 T)).put 1 (.int .i64 X))
        clear hb hx0 hx1 hxf0 hxf1 hxl
        generalize ((w'.setCell ⟨wr.heap.size, 0, none⟩ (.int .i64 T)).setCell ⟨wr.heap.size, 1, none⟩ (.int .i64 X)) = W2 at HXB hbs hc2 b0 b1 ⊢
        obtain ⟨xb, hxe⟩ : ∃ xb, xb = wr.heap.size := ⟨_, rfl⟩
        have hxb : wr.heap.size ≤ xb := by omega
        rw [← hxe] at HXB ⊢
        clear hxe
        have HO2 := hide (own_later (unhide HO) (unhide hbs))
        have HIN2 := hide ((unhide HIN).later (unhide hbs))
        have HW2 := hide ((unhide HW).later (unhide hbs))
        have HB2 := hide (bel3 (unhide HB) (Below.refl _ _) (unhide hbs))
        have hsz2 := (unhide hbs).size
        have hlt := fun q hq => (unhide HO).lt q hq
        have HLT := hide hlt
        clear hlt S1 HIN a0 a1 fz0 fz1 al hc hne1 hne2 HW hbs
        clear b0 b1
        go_wp2
        go_loopw [14, 15] (fun h i wi => ∃ j : Nat, j ≤ m ∧ i = .int .i64 j ∧ h = .bool (WinM.hadB (tk.take j) n) ∧ Hid (Below W2.heap.size W2 wi)) (fun _ i _ => m - (intOf i).toNat)
        case atStart => exact ⟨0, Nat.zero_le _, rfl, by rw [WinM.had_zero], hide (Below.refl _ _)⟩
        case round =>
          obtain ⟨j, hj, rfl, rfl, HBI⟩ := hrel
          by_cases hjm : (j : Int) < (m : Int)
          · obtain ⟨g, og, rfl, hcj'⟩ := (unhide HIN2).2 j (by rw [unhide HML]; omega)
            have hcj := cell_later (unhide HBI) hcj'
            have hci := cell_later (unhide HBI) hc2
            clear hcj' hc2
            have hr := hide (WinM.hadB_at (n := n) (l := tk) (k := j) (by rw [unhide HML]; omega))
            generalize tk.getD j 0 = y at hcj hr
            generalize WinM.hadB (tk.take j) n = q at hr ⊢
            have hj0 : (0 : Int) ≤ (j : Int) := by omega
            cases q with
            | false =>
              go_wp2
              go_region_held3 (fun w' => Hid (Below wr.heap.size wr w') ∧ w'.cell? ⟨g, og + j, none⟩ = some (.int .i64 y) ∧ w'.cell? ⟨b, off + k, none⟩ = some (.int .i64 n)) (exact reg_start2 hcj hci) (fail)
              have HBJ := hide (bel3 (unhide HBI) (Below.refl _ _) (unhide (And.left ‹Hid (Below wr.heap.size wr _) ∧ _›)))
              go_wp2
              go_roundw
              case rel => exact ⟨j + 1, by omega, by go_num, by rw [unhide hr]; rfl, HBJ⟩
              case measure => simp [intOf]; omega
            | true =>
              go_wp2
              go_region
              have HBJ := hide (bel3 (unhide HBI) (Below.refl _ _) ((Below.refl wr.heap.size wr).drew))
              go_wp2
              go_roundw
              case rel => exact ⟨j + 1, by omega, by go_num, by rw [unhide hr]; rfl, HBJ⟩
              case measure => simp [intOf]; omega
          · obtain rfl : j = m := by omega
            have HO3 := hide (own_later (unhide HO2) (unhide HBI))
            have HW3 := hide ((unhide HW2).later (unhide HBI))
            have HB3 := hide (bel3 (unhide HB2) (Below.refl _ _) (unhide HBI))
            have HX3 := hide ((unhide HXB).later (unhide HBI))
            have hc3 := cell_later (unhide HBI) hc2
            have hsz3 := (unhide HBI).size
            clear hc2 HIN2 HO2 HW2 HB2 HXB HBI
            obtain ⟨⟨b0, b1⟩, fz0, fz1⟩ := (unhide HW3).c2
            have al := (unhide HW3).2
            have HH := hide (show WinM.hadB (tk.take j) n = WinM.hadB tk n by rw [List.take_of_length_le (by rw [unhide HML]; omega)])
            generalize WinM.hadB (tk.take j) n = hd at HH ⊢
            by_cases h0 : WinM.restErr t B n = 0
            · obtain rfl : ev = .nilIface := by rw [← unhide HEV, errV_zero h0]
              obtain rfl : hd = false := by rw [unhide HH]; simp [WinM.hadB, WinM.inv_had (unhide HV) h0]
              have HVn := hide (show WinM.Inv T X (tk ++ [n]) by
                have h := WinM.inv_take (unhide HV) h0
                have e := WinM.taken_yes (t := t) (B := B) (n := n) (by rw [WinM.take_rest _ (WinM.fault_zero.2 (unhide HV).right)]; exact h0)
                have e1 := unhide HT
                have e2 := unhide HX
                rw [e] at e1 e2
                dsimp only at e1 e2
                rw [← e1, ← e2]
                exact h)
              have CK := hide (fun W => wcheck_any T X W)
              rw [WinM.fault_zero.2 (unhide HVn).right, errV_zero rfl] at CK
              clear h0 HEV HH HT HX
              obtain ⟨⟨x0, x1⟩, -⟩ := (unhide HX3).c2
              have xl := (unhide HX3).2
              go_wp2_with fail
              refine (unhide CK _).mono ?_
              rintro e w6 ⟨rfl, hb6⟩
              have HO6 := hide (own_later (unhide HO3) hb6)
              have HW6 := hide ((unhide HW3).later hb6)
              have HX6 := hide ((unhide HX3).later hb6)
              have HB6 := hide (bel3 (unhide HB3) (Below.refl _ _) hb6)
              have hc6 := cell_later hb6 hc3
              have hsz6 := hb6.size
              have hsw6 := (unhide HB6).size
              clear hb6 hc3 b0 b1 fz0 fz1 x0 x1 xl al
              go_wp2_with (at_builtin; refine wpList_append_own _ rfl _ _ 41 rfl w5.heap.size 3 i0 (.int .i64 0) 1 8 Tryd.underlying41 hi hz0 hz1 hz2 rfl (by decide) _ _ _ rfl ((unhide HO6).alloc _) ⟨w6.heap.size, 0, none⟩ 1 1 [.int .i64 n] rfl rfl ?c1 ?c2 ?c3 ?c4 ?c5 ?_)
              case c1 =>
                intro j u hj
                match j, hj with
                | 0, hj => simp at hj; subst hj; simp [Addr.add]
                | j + 1, hj => simp at hj
              case c2 => exact ints_one [n]
              case c3 => unfold maxLen; omega
              case c4 => omega
              case c5 => simp; omega
              · intro v' w7 hown' hgrow _
                have hB7 : Below w6.heap.size w6 _ := (Below.refl _ _).alloc (Nat.le_refl _) (Obj.cells #[Value.int .i64 n] 3)
                have HX7 := hide (((unhide HX6).later ((Below.refl _ _).alloc (Nat.le_refl _) _)).grown hgrow (fun e => by have := (unhide HLT _ e.symm).2; omega))
                have HW7 := hide (((unhide HW6).later ((Below.refl _ _).alloc (Nat.le_refl _) _)).grown hgrow (fun e => by have := (unhide HLT _ e.symm).1; omega))
                have HB7 := hide (((unhide HB6).alloc hsw6 _).grown hgrow (by simp; omega) (fun q hq => by have := (unhide HLT q hq).1; omega))
                have HO7 := hide (show w7.ownsRow w5.heap.size 3 1 v' (j + 1) ((tk ++ [n]).map (Value.int .i64)) by simpa using hown')
                have hsz7 := hgrow.size
                simp at hsz7
                clear hown' hgrow hB7 hc6 HX6 HW6 HB6 HO6
                obtain ⟨⟨x0, x1⟩, -⟩ := (unhide HX7).c2
                obtain ⟨⟨b0, b1⟩, fz0, fz1⟩ := (unhide HW7).c2
                have xl := (unhide HX7).2
                have al := (unhide HW7).2
                have hnx : ¬ xb = w1.heap.size := by omega
                go_wp2
                go_roundw
                case rel => exact ⟨k + 1, j + 1, tk ++ [n], T, X, by omega, by omega, by go_num, hide (ownsRow_setCell_below (ownsRow_setCell_below (unhide HO7) (by show w1.heap.size < w5.heap.size; omega) _) (by show w1.heap.size < w5.heap.size; omega) _), HVn, hide (((unhide HW7).put 0 _).put 1 _), hide (((unhide HB7).setCell (by show w.heap.size ≤ w1.heap.size; omega) _).setCell (by show w.heap.size ≤ w1.heap.size; omega) _), by simp; omega⟩
                case measure => simp [intOf]; omega
            · obtain rfl : ev = .iface 56 (.int .i64 (WinM.restErr t B n)) := by rw [← unhide HEV, errV_pos h0]
              clear HEV HX3 HT HX HO fz0 fz1
              by_cases hn0 : n < 0
              · generalize WinM.restErr t B n = q
                clear h0
                have hd0 : (0 ≤ n) = False := by simp; omega
                go_wp2
                go_region
                have HBJ := hide ((Below.refl wr.heap.size wr).drew)
                have hszj := (unhide HBJ).size
                go_wp2
                go_roundw
                case rel => exact ⟨k + 1, j, tk, t, B, by omega, by omega, by go_num, hide (own_later (unhide HO3) (unhide HBJ)), HV, hide ((unhide HW3).later (unhide HBJ)), hide (bel3 (unhide HB3) (Below.refl _ _) (unhide HBJ)), by omega⟩
                case measure => simp [intOf]; omega
              · by_cases hn1 : 100000 < n
                · generalize WinM.restErr t B n = q
                  clear h0
                  have hd1 : (n ≤ 100000) = False := by simp; omega
                  go_wp2
                  go_region
                  have HBJ := hide ((Below.refl wr.heap.size wr).drew)
                  have hszj := (unhide HBJ).size
                  go_wp2
                  go_roundw
                  case rel => exact ⟨k + 1, j, tk, t, B, by omega, by omega, by go_num, hide (own_later (unhide HO3) (unhide HBJ)), HV, hide ((unhide HW3).later (unhide HBJ)), hide (bel3 (unhide HB3) (Below.refl _ _) (unhide HBJ)), by omega⟩
                  case measure => simp [intOf]; omega
                · by_cases hn2 : t - 32 < n
                  · obtain ⟨hmem, h7⟩ := WinM.inv_near (unhide HV) h0 (by omega) (by omega) hn2
                    obtain rfl : hd = true := by rw [unhide HH]; simp [WinM.hadB, hmem]
                    rw [h7]
                    clear h0 h7 hmem HH
                    go_wp2
                    go_region_held3 (fun w' => Hid (Below wr.heap.size wr w') ∧ w'.cell? ⟨b, off + k, none⟩ = some (.int .i64 n) ∧ w'.cell? ⟨w1.heap.size, 0, none⟩ = some (.int .i64 t)) (exact reg_start2 hc3 b0) (fail)
                    have HBJ := And.left ‹Hid (Below wr.heap.size wr _) ∧ _›
                    have hszj := (unhide HBJ).size
                    have HO4' := hide (own_later (unhide HO3) (unhide HBJ))
                    have HW4' := hide ((unhide HW3).later (unhide HBJ))
                    have HB4' := hide (bel3 (unhide HB3) (Below.refl _ _) (unhide HBJ))
                    go_wp2_with fail
                    refine (same_errno _ _ _ ((unhide HG).later (unhide HB4'))).mono ?_
                    rintro e w6 ⟨rfl, hb6⟩
                    have HO6 := hide (own_later (unhide HO4') hb6)
                    have HW6 := hide ((unhide HW4').later hb6)
                    have HB6 := hide (bel3 (unhide HB4') (Below.refl _ _) hb6)
                    have hsz6 := hb6.size
                    clear hb6
                    go_wp2
                    go_roundw
                    case rel => exact ⟨k + 1, j, tk, t, B, by omega, by omega, by go_num, HO6, HV, HW6, HB6, by omega⟩
                    case measure => simp [intOf]; omega
                  · generalize WinM.restErr t B n = q
                    clear h0
                    go_wp2
                    go_region_held3 (fun w' => Hid (Below wr.heap.size wr w') ∧ w'.cell? ⟨b, off + k, none⟩ = some (.int .i64 n) ∧ w'.cell? ⟨w1.heap.size, 0, none⟩ = some (.int .i64 t)) (exact reg_start2 hc3 b0) (fail)
                    have HBJ := And.left ‹Hid (Below wr.heap.size wr _) ∧ _›
                    have hszj := (unhide HBJ).size
                    go_wp2
                    go_roundw
                    case rel => exact ⟨k + 1, j, tk, t, B, by omega, by omega, by go_num, hide (own_later (unhide HO3) (unhide HBJ)), HV, hide ((unhide HW3).later (unhide HBJ)), hide (bel3 (unhide HB3) (Below.refl _ _) (unhide HBJ)), by omega⟩
                    case measure => simp [intOf]; omega
    · have CK := hide (fun W => wcheck_any t B W)
      rw [WinM.fault_zero.2 (unhide HV).right, errV_zero rfl] at CK
      by_cases hkl : (k : Int) < (len : Int)
      · have hk60 : ¬ (k : Int) < 60 := fun h => hgo ⟨hkl, h⟩
        clear hgo
        go_wp2_with fail
        refine (unhide CK _).mono ?_
        rintro e w6 ⟨rfl, hb6⟩
        have HB6 := hide (bel3 (unhide HB) (Below.refl _ _) hb6)
        clear hb6
        go_wp2
        go_ret
        exact ⟨rfl, unhide HB6⟩
      · clear hgo
        go_wp2_with fail
        refine (unhide CK _).mono ?_
        rintro e w6 ⟨rfl, hb6⟩
        have HB6 := hide (bel3 (unhide HB) (Below.refl _ _) hb6)
        clear hb6
        go_wp2
        go_ret
        exact ⟨rfl, unhide HB6⟩

theorem walk (a0 : Option Addr) (len0 cap0 : Nat) (z0 : List Int) (w : World) (w0 : IsRow .i64 w a0 len0 cap0 z0) (hg : ErrType w) :
    Calls Tryd.prog 7 #[.slice a0 len0 cap0] w fun e w' => e = .returned (.bool true) ∧ Below w.heap.size w w' := by
  obtain ⟨zs, hlen, hI, _, _⟩ := row_ints rfl w0
  exact walk1 a0 len0 cap0 zs w hlen hI hg


theorem gErr : Tryd.prog.globalNamed "errors.errorType" = some 0 := by kernel_rfl
theorem rtErr : (Tryd.prog.cutTypes.find? (·.1 == "internal/reflectlite.rtype")).map (·.2) = some 80 := by kernel_rfl
theorem oneRow : ((List.range 123).filter fun t => Tryd.prog.rowNamed t [101, 114, 114, 111, 114]) = [26] := by kernel_rfl
theorem sizeT : Tryd.prog.types.size = 123 := by kernel_rfl
theorem handle_of_laid {W : World} (h : laidMetH Tryd.prog Rows.windowOnceRow.laid W) : ErrType W := by
  have h' : laidMet Tryd.prog [] W ∧ handlesMet Tryd.prog Rows.windowOnceRow.laid W := h
  obtain ⟨name, u, ty, e1, e2, e3, e4, e5⟩ := h'.2 _ (List.mem_singleton.2 rfl)
  have en : name = [101, 114, 114, 111, 114] := (Option.some.inj e1).symm
  subst en
  obtain rfl := Option.some.inj (rtErr.symm.trans e2)
  have hm : ty ∈ (List.range 123).filter fun t => Tryd.prog.rowNamed t [101, 114, 114, 111, 114] := List.mem_filter.2 ⟨List.mem_range.2 (by rw [← sizeT]; exact e3), e4⟩
  rw [oneRow] at hm
  obtain rfl := List.mem_singleton.1 hm
  have hh : typeHandle Tryd.prog 26 = .pointer (some ⟨1, 26, none⟩) := by kernel_rfl
  rw [hh] at e5
  unfold ErrType
  simpa using World.var?_cell gErr e5 0
theorem door_met (os : Os) (args : Array Value) : laidMetH Tryd.prog Rows.windowOnceRow.laid ((World.doorLaid Tryd.prog 400 os).forCall (fun _ _ => 0) ⟨#[], args, []⟩).memory :=
  laidMetH_of_parts (laidMet_nil _ _) (by kernel_rfl)


set_option maxRecDepth 100000 in
theorem lifted (os : Os) (started : os.Started) (H : Type) (enc : TypeId × Value → H) :
    ReturnsInHanded {} Tryd.checked os 7 .any (fun w args => (Rows.windowOnceSpec.pre enc Tryd.prog Tryd.f7 [] false w args ∧ laidMetH Tryd.prog Rows.windowOnceRow.laid w) ∧ sizedMet enc Tryd.prog Tryd.f7 (OpenSpec.ofChange Rows.windowOnceSpec) false w args) (Rows.windowOnceSpec.post enc Tryd.prog Tryd.f7 false true false false) := by
  refine returnsInHanded_of_change_and (C := Tryd.checked) (X := fun w _ => laidMetH Tryd.prog Rows.windowOnceRow.laid w) (fun _ _ _ hh h => h.of_heap hh) own started (by kernel_rfl) Tryd.func7
    (ChangeSpec.witness_shaped (enc := enc) (C := Tryd.checked) (os := os) (X := fun w _ => laidMetH Tryd.prog Rows.windowOnceRow.laid w) false (World.doorLaid Tryd.prog 400 os) #[.slice none 0 0] 8 rfl (World.shaped_of_RefB (by kernel_rfl) (by kernel_rfl)) (by kernel_rfl) (by kernel_rfl) (by kernel_rfl) (door_met os _)) ?_
  intro W base args ds gs before hval0 hW _ hsz hL _
  have hg := handle_of_laid hL
  have hval : ∀ (j : Nat) t v, Tryd.f7.params[j]? = some t → args[j]? = some v → Value.okWide Tryd.prog W .any base t v := hval0
  have hW' := hW
  obtain ⟨p, q, hA0, hV, rfl, hfz, hnd⟩ := hW
  have hA : DataW.TrodAll enc Tryd.prog W 0 (fun _ => true) true Tryd.f7.params.toList args.toList ds p := hA0
  rw [Tryd.params7] at hA hval
  obtain ⟨v0, vs0, d0, ds0, p0, q0, hargs, rfl, rfl, h0, r0⟩ := trodAll_cons hA
  obtain ⟨rfl, rfl, rfl⟩ := trodAll_nil r0
  obtain rfl : args = #[v0] := by cases args; simp_all
  obtain ⟨rfl, rfl⟩ := trodVars_none hV
  have k0 := h0
  have lt0 : ∀ x ∈ p0, x.block < W.heap.size := by obtain ⟨m, hm⟩ := k0; exact DataW.trod_lt m _ _ _ hm
  obtain ⟨a0, len0, cap0, rfl⟩ := okWide_slice Tryd.underlying41 (hval 0 41 v0 rfl rfl)
  obtain ⟨z0, w0⟩ : ∃ zs, IsRow .i64 W a0 len0 cap0 zs := by
    obtain ⟨fuel, hf⟩ := h0
    rcases open_ints Tryd.underlying41 Tryd.underlying3 (by kernel_rfl) hf with ⟨hcs, _⟩ | ⟨x, l, c, zs, hcs, _, hl, hm, hz, _, hcell, hwz⟩
    · simp [Value.cells] at hcs
      obtain ⟨rfl, rfl, rfl⟩ := hcs
      exact ⟨[], .inl ⟨rfl, rfl, rfl, rfl⟩⟩
    · simp [Value.cells] at hcs
      obtain ⟨rfl, rfl, rfl⟩ := hcs
      exact ⟨zs, .inr ⟨_, rfl, hl, hm, by simpa using hz, hcell, hwz⟩⟩
  clear hA0 hval0
  refine (walk a0 len0 cap0 z0 W w0 hg).mono fun e W' ⟨he, bel⟩ => ?_
  subst he
  exact ⟨_, rfl, _, _, _, [], _, [], hW', trodAll_mk1 (shut_bool Tryd.underlying4 _), (trodAll_cons_mk (Below.trod laidOut (by kernel_rfl) (of_decide_eq_true (by kernel_rfl)) k0 bel lt0) trodAll_mk0), rfl, bel.frame _, fun h => by cases h⟩

theorem over : Rows.windowOnceRow.holds Tryd.pinned (OpenSpec.ofChange Rows.windowOnceSpec) :=
  OpenClaim.holds_of_wide 7 Tryd.f7 rfl rfl rfl rfl rfl rfl rfl ⟨rfl, rfl, rfl, rfl, rfl⟩ rfl rfl rfl rfl rfl (by kernel_rfl) Tryd.func7 (by kernel_rfl)
    (of_decide_eq_true (by kernel_rfl)) (by unfold Func.isWrapper; first | (rw [if_pos (by decide +kernel)]; kernel_rfl) | (rw [if_neg (by decide +kernel)]; exact ⟨rfl, rfl⟩))
    (fun os started H enc _ => lifted os started H enc)

theorem card : Rows.WindowOnceCardSaid :=
  Claim7.holds_tied_plain_at .later [] [.handle] true (true, "e8cbe923d7c0575d3f6fe6fc2d6ded02667df0b32199b21acacc92ab6a77b1b7") true
    over (fun _ h => by cases h) (by kernel_rfl) (fun _ h => by cases h) windowOnce_row_tie rfl ⟨rfl, rfl⟩ (by kernel_rfl) rfl
    (fun f fn hf hfn => by
      obtain rfl : f = 7 := Option.some.inj ((show Tryd.prog.funcNamed "tokenfold/foldlaw1.WindowOnce" = some 7 by kernel_rfl).symm.trans hf) |>.symm
      obtain rfl : fn = Tryd.f7 := (Option.some.inj (Tryd.func7.symm.trans hfn)).symm
      exact ⟨by kernel_rfl, fun j t ht => by
        rw [Tryd.params7] at ht
        have hm : t ∈ [41] := by simpa using Array.mem_of_getElem? ht
        have hall : ([41].all fun u => !Tryd.prog.wantsStandIn u) = true := by kernel_rfl
        exact (show Tryd.prog.wantsStandIn t = false by simpa using List.all_eq_true.1 hall t hm)⟩)
    (by kernel_rfl)

end Go.Proofs.YtbacjhdghepckacDoor.windowOnce
namespace Go.Proofs.YtbacjhdghepckacDoor
theorem windowOnce_holds : Rows.WindowOnceCardSaid := windowOnce.card
#print axioms windowOnce_holds
end Go.Proofs.YtbacjhdghepckacDoor

