/-
  RingTwo holds for every seed and every number of turns: turned, a ring knows the key so far, the one ahead of it no more, and none that is yet to come; as often turned as one likes it is right, and it is turned a hundred times at most. The listed variable errors.errorType starts as the program's text lays it (the card's tie). No other condition.
-/
import Derived.Test.YtkfijiklmmdmfaaDoorRingWalks
import Derived.Test.YtkfijiklmmdmfaaDoorAs
import Derived.Test.YtkfijiklmmdmfaaDoorTie
import Derived.Test.YtkfijiklmmdmfaaDoorCards
import Derived.ProofKit
import Derived.Lib.SmallJoins
import Derived.LaidMore
import Derived.LaidHandle
import Derived.LaidLaws
import Derived.Stop.Joined
import Derived.SevenTiedAt
namespace Go.Proofs.YtkfijiklmmdmfaaDoor.ringTwo
open Go.ChangeShapes Go.WideShapes Go.ChangeAt Go.RowKit Go.Joins
set_option linter.unusedVariables false

theorem own : ownKnob Tryd.prog.godebug = none := by kernel_rfl
theorem laidOut : laidOutB Tryd.prog = true := by kernel_rfl
def IsRow (k : IntKind) (w : World) (a : Option Addr) (len cap : Nat) (zs : List Int) : Prop :=
  (a = none ∧ len = 0 ∧ cap = 0 ∧ zs = []) ∨
  ∃ x, a = some x ∧ len ≤ cap ∧ cap ≤ maxLen ∧ zs.length = cap ∧ (∀ i, i < zs.length → w.cell? (x.add i) = some (.int k (zs.getD i 0))) ∧ ∀ n ∈ zs, (Lit.int k n).wf = true


set_option maxHeartbeats 1600000 in
theorem walk_bad (s m : Int) (w : World) (h : s < 0 ∨ 999983 ≤ s) :
    Calls Tryd.prog 5 #[.int .i64 s, .int .i64 m] w fun e w' => e = .returned (.bool true) ∧ Below w.heap.size w w' := by
  have C := hide (fun w => rnew_no s w h)
  by_cases h0 : s < 0
  · clear h
    go_enter Tryd.func5, Tryd.ntmps5
    go_wp2_with fail
    refine (unhide C _).mono ?_
    rintro e w1 ⟨rfl, hb⟩
    obtain ⟨_, _, hz⟩ := lies hb
    have HB := hide hb
    clear hb
    go_wp2
    go_ret
    exact ⟨rfl, (by (repeat' (first | exact Below.refl _ _ | refine Below.alloc ?_ ?_ _ | refine Below.setCell ?_ ?_ _ | refine Below.drew ?_ | refine Below.trans ?_ (Below.mono (unhide HB) ?_))); all_goals (first | exact Nat.le_refl _ | omega | (simp; done) | (simp; omega)))⟩
  · have h1 : 999982 < s := by omega
    clear h
    go_enter Tryd.func5, Tryd.ntmps5
    go_wp2_with fail
    refine (unhide C _).mono ?_
    rintro e w1 ⟨rfl, hb⟩
    obtain ⟨_, _, hz⟩ := lies hb
    have HB := hide hb
    clear hb
    go_wp2
    go_ret
    exact ⟨rfl, (by (repeat' (first | exact Below.refl _ _ | refine Below.alloc ?_ ?_ _ | refine Below.setCell ?_ ?_ _ | refine Below.drew ?_ | refine Below.trans ?_ (Below.mono (unhide HB) ?_))); all_goals (first | exact Nat.le_refl _ | omega | (simp; done) | (simp; omega)))⟩

/-- A ring lies in a block, and may be written. -/
def RingAt (W : World) (b : Nat) (ep key old : Int) : Prop :=
  (W.cell? ⟨b, 0, none⟩ = some (.int .i64 ep) ∧ W.cell? ⟨b, 1, none⟩ = some (.int .i64 key) ∧ W.cell? ⟨b, 2, none⟩ = some (.int .i64 old)) ∧
  (W.frozen? ⟨b, 0, none⟩ = false ∧ W.frozen? ⟨b, 1, none⟩ = false ∧ W.frozen? ⟨b, 2, none⟩ = false) ∧ b < W.heap.size
theorem RingAt.later {W W' : World} {b : Nat} {ep key old : Int} (h : RingAt W b ep key old) (hb : Below W.heap.size W W') : RingAt W' b ep key old := by
  obtain ⟨⟨a0, a1, a2⟩, ⟨f0, f1, f2⟩, hl⟩ := h
  obtain ⟨hc, hf, hz⟩ := lies hb
  exact ⟨⟨by rw [hc _ _ hl]; exact a0, by rw [hc _ _ hl]; exact a1, by rw [hc _ _ hl]; exact a2⟩, ⟨by rw [hf _ _ hl]; exact f0, by rw [hf _ _ hl]; exact f1, by rw [hf _ _ hl]; exact f2⟩, by omega⟩

theorem RingAt.put {W : World} {b : Nat} {ep key old : Int} (h : RingAt W b ep key old) (x y z : Int) :
    RingAt (((W.setCell ⟨b, 0, none⟩ (.int .i64 x)).setCell ⟨b, 1, none⟩ (.int .i64 y)).setCell ⟨b, 2, none⟩ (.int .i64 z)) b x y z := by
  obtain ⟨⟨a0, a1, a2⟩, ⟨f0, f1, f2⟩, hl⟩ := h
  have n01 : (⟨b, 0, none⟩ : Addr) ≠ ⟨b, 1, none⟩ := by simp
  have n02 : (⟨b, 0, none⟩ : Addr) ≠ ⟨b, 2, none⟩ := by simp
  have n12 : (⟨b, 1, none⟩ : Addr) ≠ ⟨b, 2, none⟩ := by simp
  refine ⟨⟨?_, ?_, ?_⟩, ⟨by simpa using f0, by simpa using f1, by simpa using f2⟩, by simpa using hl⟩
  · rw [World.cell?_setCell_other (h := n02.symm), World.cell?_setCell_other (h := n01.symm), World.cell?_setCell_same (h := a0)]
  · rw [World.cell?_setCell_other (h := n12.symm), World.cell?_setCell_same (u := .int .i64 key) (h := by rw [World.cell?_setCell_other (h := n01)]; exact a1)]
  · rw [World.cell?_setCell_same (u := .int .i64 old) (h := by rw [World.cell?_setCell_other (h := n12), World.cell?_setCell_other (h := n02)]; exact a2)]

set_option maxHeartbeats 3200000 in
set_option maxRecDepth 4000 in
theorem walk_good (s m : Int) (w : World) (h0 : 0 ≤ s) (h1 : s < 999983) (hg : ErrType w) :
    Calls Tryd.prog 5 #[.int .i64 s, .int .i64 m] w fun e w' => e = .returned (.bool true) ∧ Below w.heap.size w w' := by
  have C := hide (fun w => rnew_yes s w h0 h1)
  have hb0 := hide (TagM.tag_bd s [0])
  have HG := hide hg
  clear hg
  generalize TagM.tag s [0] = k0 at C hb0
  go_enter Tryd.func5, Tryd.ntmps5
  go_wp2_with fail
  refine (unhide C _).mono ?_
  rintro e w1 ⟨rfl, hb1⟩
  have HZ1 := hide (lies hb1).2.2
  have HB1 := hide hb1
  clear hb1
  go_wp2
  go_loopw [7] (fun i W => ∃ n k o : Int, 0 ≤ n ∧ n ≤ 100 ∧ i = .int .i64 n ∧ RingM.err n k o = 0 ∧ RingAt W w1.heap.size n k o ∧ Below w.heap.size w W) (fun i _ => 110 - (intOf i).toNat)
  case atStart =>
    have hz1 := unhide HZ1
    exact ⟨0, k0, 0, by omega, by omega, rfl, RingM.err_zero.2 ⟨by omega, unhide hb0, by omega, fun _ => rfl⟩, ⟨⟨by simp, by simp, by simp⟩, ⟨by simp, by simp, by simp⟩, by simp⟩, (by (repeat' (first | exact Below.refl _ _ | refine Below.alloc ?_ ?_ _ | refine Below.setCell ?_ ?_ _ | refine Below.drew ?_ | refine Below.trans ?_ (Below.mono (unhide HB1) ?_))); all_goals (first | exact Nat.le_refl _ | omega | (simp; done) | (simp; omega)))⟩
  case round =>
    obtain ⟨n, k, o, hn0, hn, rfl, he, hr, hb⟩ := hrel
    have HZ := hide (lies hb).2.2
    have HB := hide hb
    have HE := hide he
    have HR := hide hr
    obtain ⟨⟨a0, a1, a2⟩, _, _⟩ := hr
    clear hb he
    by_cases hnm : n < m
    · have C1 := hide (fun w => rkey_yes (ep := n) (key := k) (old := o) n w (RingM.key_zero.2 ⟨unhide HE, ⟨hn0, hn⟩, .inl rfl⟩))
      rw [if_pos rfl] at C1
      by_cases hn100 : n = 100
      · subst hn100
        have hk2 : RingM.keyErr 100 k o 101 = 1 := by unfold RingM.keyErr; rw [if_pos (unhide HE)]; rfl
        have C2 := hide (fun w => rkey_no (ep := 100) (key := k) (old := o) 101 w (by rw [hk2]; omega))
        rw [hk2] at C2
        have hk3 : RingM.turnErr 100 k o = 4 := by unfold RingM.turnErr; rw [if_pos (unhide HE)]; rfl
        have C3 := hide (fun w => rturn_no (ep := 100) (key := k) (old := o) w (by rw [hk3]; omega))
        rw [hk3] at C3
        clear hk2 hk3
        go_wp2_with fail
        refine (unhide C1 _).mono ?_
        rintro e w2 ⟨rfl, hb2⟩
        have HR2 := hide ((unhide HR).later hb2)
        have HB2 := hide hb2
        clear hb2 a0 a1 a2
        obtain ⟨⟨a0, a1, a2⟩, _, _⟩ := unhide HR2
        go_wp2_with fail
        refine (unhide C2 _).mono ?_
        rintro e w3 ⟨rfl, hb3⟩
        have HR3 := hide ((unhide HR2).later hb3)
        have HB3 := hide hb3
        clear hb3 a0 a1 a2
        obtain ⟨⟨a0, a1, a2⟩, _, _⟩ := unhide HR3
        go_wp2_with fail
        refine (unhide C3 _).mono ?_
        rintro e w4 ⟨rfl, hb4⟩
        have HB4 := hide hb4
        clear hb4
        have s1 := (unhide HZ)
        have s2 := (unhide HB2).size
        have s3 := (unhide HB3).size
        have s4 := (unhide HB4).size
        go_wp2_with fail
        refine (same_errno _ _ _ ((unhide HG).later (by (repeat' (first | exact Below.refl _ _ | refine Below.alloc ?_ ?_ _ | refine Below.setCell ?_ ?_ _ | refine Below.drew ?_ | refine Below.trans ?_ (Below.mono (unhide HB4) ?_) | refine Below.trans ?_ (Below.mono (unhide HB3) ?_) | refine Below.trans ?_ (Below.mono (unhide HB2) ?_) | refine Below.trans ?_ (Below.mono (unhide HB) ?_))); all_goals (first | exact Nat.le_refl _ | omega | (simp; done) | (simp; omega))))).mono ?_
        rintro e w5 ⟨rfl, hb5⟩
        have HB5 := hide hb5
        clear hb5
        go_wp2
        go_ret
        exact ⟨rfl, (by (repeat' (first | exact Below.refl _ _ | refine Below.alloc ?_ ?_ _ | refine Below.setCell ?_ ?_ _ | refine Below.drew ?_ | refine Below.trans ?_ (Below.mono (unhide HB5) ?_) | refine Below.trans ?_ (Below.mono (unhide HB4) ?_) | refine Below.trans ?_ (Below.mono (unhide HB3) ?_) | refine Below.trans ?_ (Below.mono (unhide HB2) ?_) | refine Below.trans ?_ (Below.mono (unhide HB) ?_))); all_goals (first | exact Nat.le_refl _ | omega | (simp; done) | (simp; omega)))⟩
      · have hn99 : n < 100 := by omega
        have hk2 : RingM.keyErr n k o (n + 1) = 5 := by
          unfold RingM.keyErr; rw [if_pos (unhide HE), if_neg (by omega), if_neg (by omega), if_pos (by omega)]
        have C2 := hide (fun w => rkey_no (ep := n) (key := k) (old := o) (n + 1) w (by rw [hk2]; omega))
        rw [hk2] at C2
        have C3 := hide (fun w => rturn_yes (ep := n) (key := k) (old := o) w (RingM.turn_zero.2 ⟨unhide HE, hn99⟩))
        obtain ⟨_, hkb, _⟩ := RingM.err_zero.1 (unhide HE)
        have htb := TagM.tag_bd k [n + 1]
        have HE' : Hid (RingM.err (n + 1) (TagM.tag k [n + 1]) k = 0) := hide (RingM.err_zero.2 ⟨by omega, htb, hkb, by omega⟩)
        clear hk2 hkb htb hn100
        generalize TagM.tag k [n + 1] = k' at C3 HE'
        have C5 := hide (fun w => rkey_yes (ep := n + 1) (key := k') (old := k) n w (RingM.key_zero.2 ⟨unhide HE', ⟨hn0, hn⟩, .inr (by omega)⟩))
        rw [if_neg (by omega)] at C5
        go_wp2_with fail
        refine (unhide C1 _).mono ?_
        rintro e w2 ⟨rfl, hb2⟩
        have HR2 := hide ((unhide HR).later hb2)
        have HB2 := hide hb2
        clear hb2 a0 a1 a2
        obtain ⟨⟨a0, a1, a2⟩, _, _⟩ := unhide HR2
        go_wp2_with fail
        refine (unhide C2 _).mono ?_
        rintro e w3 ⟨rfl, hb3⟩
        have HR3 := hide ((unhide HR2).later hb3)
        have HB3 := hide hb3
        clear hb3 a0 a1 a2
        obtain ⟨⟨a0, a1, a2⟩, _, _⟩ := unhide HR3
        go_wp2_with fail
        refine (unhide C3 _).mono ?_
        rintro e w4 ⟨rfl, hb4⟩
        have HR4 := hide ((unhide HR3).later hb4)
        have HB4 := hide hb4
        clear hb4 a0 a1 a2
        have s1 := (unhide HZ)
        have s2 := (unhide HB2).size
        have s3 := (unhide HB3).size
        have s4 := (unhide HB4).size
        go_wp2_with fail
        refine (same_errno _ _ _ ((unhide HG).later (by (repeat' (first | exact Below.refl _ _ | refine Below.alloc ?_ ?_ _ | refine Below.setCell ?_ ?_ _ | refine Below.drew ?_ | refine Below.trans ?_ (Below.mono (unhide HB4) ?_) | refine Below.trans ?_ (Below.mono (unhide HB3) ?_) | refine Below.trans ?_ (Below.mono (unhide HB2) ?_) | refine Below.trans ?_ (Below.mono (unhide HB) ?_))); all_goals (first | exact Nat.le_refl _ | omega | (simp; done) | (simp; omega))))).mono ?_
        rintro e w5 ⟨rfl, hb5⟩
        have HR5 := hide (((unhide HR4).later (by (repeat' (first | exact Below.refl _ _ | refine Below.alloc ?_ ?_ _ | refine Below.setCell ?_ ?_ _ | refine Below.drew ?_)); all_goals (first | exact Nat.le_refl _ | omega | (simp; done) | (simp; omega)))).later hb5)
        have HX5 : Hid (RingAt w5 w4.heap.size (n + 1) k' k) := hide (RingAt.later ⟨⟨by simp, by simp, by simp⟩, ⟨by simp, by simp, by simp⟩, by simp⟩ hb5)
        have HB5 := hide hb5
        have s5 := (unhide HB5).size
        simp at s5
        clear hb5
        obtain ⟨⟨b0, b1, b2⟩, bf, bl⟩ := unhide HX5
        go_wp2_with fail
        refine (rcheck_yes _ (unhide HE')).mono ?_
        rintro e w6 ⟨rfl, hb6⟩
        have HR6 := hide ((unhide HR5).later hb6)
        have HX6 := hide ((unhide HX5).later hb6)
        have HB6 := hide hb6
        clear hb6 b0 b1 b2 bf bl
        obtain ⟨⟨b0, b1, b2⟩, bf, bl⟩ := unhide HX6
        go_wp2_with fail
        refine (unhide C5 _).mono ?_
        rintro e w7 ⟨rfl, hb7⟩
        have HR7 := hide ((unhide HR6).later hb7)
        have HX7 := hide ((unhide HX6).later hb7)
        have HB7 := hide hb7
        clear hb7 b0 b1 b2 bf bl
        obtain ⟨⟨b0, b1, b2⟩, bf, bl⟩ := unhide HX7
        have s6 := (unhide HB6).size
        have s7 := (unhide HB7).size
        by_cases hp : 0 < n
        · have hk8 : RingM.keyErr (n + 1) k' k (n - 1) = 9 := by
            unfold RingM.keyErr; rw [if_pos (unhide HE'), if_neg (by omega), if_pos (by omega)]
          have C8 := hide (fun w => rkey_no (ep := n + 1) (key := k') (old := k) (n - 1) w (by rw [hk8]; omega))
          rw [hk8] at C8
          go_wp2_with fail
          refine (unhide C8 _).mono ?_
          rintro e w8 ⟨rfl, hb8⟩
          have HR8 := hide ((unhide HR7).later hb8)
          have HX8 := hide ((unhide HX7).later hb8)
          have HB8 := hide hb8
          clear hb8 b0 b1 b2 bf bl
          obtain ⟨⟨b0, b1, b2⟩, bf, bl⟩ := unhide HX8
          have s8 := (unhide HB8).size
          go_wp2_with fail
          refine (same_errno _ _ _ ((unhide HG).later (by (repeat' (first | exact Below.refl _ _ | refine Below.alloc ?_ ?_ _ | refine Below.setCell ?_ ?_ _ | refine Below.drew ?_ | refine Below.trans ?_ (Below.mono (unhide HB8) ?_) | refine Below.trans ?_ (Below.mono (unhide HB7) ?_) | refine Below.trans ?_ (Below.mono (unhide HB6) ?_) | refine Below.trans ?_ (Below.mono (unhide HB5) ?_) | refine Below.trans ?_ (Below.mono (unhide HB4) ?_) | refine Below.trans ?_ (Below.mono (unhide HB3) ?_) | refine Below.trans ?_ (Below.mono (unhide HB2) ?_) | refine Below.trans ?_ (Below.mono (unhide HB) ?_))); all_goals (first | exact Nat.le_refl _ | omega | (simp; done) | (simp; omega))))).mono ?_
          rintro e w9 ⟨rfl, hb9⟩
          have HR9 := hide ((unhide HR8).later hb9)
          have HX9 := hide ((unhide HX8).later hb9)
          have HB9 := hide hb9
          clear hb9 b0 b1 b2 bf bl
          obtain ⟨⟨b0, b1, b2⟩, bf, bl⟩ := unhide HX9
          obtain ⟨⟨a0, a1, a2⟩, ⟨f0, f1, f2⟩, al⟩ := unhide HR9
          clear s1 s2 s3 s4 s5 s6 s7 s8
          go_wp2
          have z0 := unhide HZ1
          have z1 := unhide HZ
          have z2 := (unhide HB2).size
          have z3 := (unhide HB3).size
          have z4 := (unhide HB4).size
          have z5 := (unhide HB5).size
          simp at z5
          have z6 := (unhide HB6).size
          have z7 := (unhide HB7).size
          have z8 := (unhide HB8).size
          have z9 := (unhide HB9).size
          go_roundw
          case rel => exact ⟨n + 1, k', k, by omega, by omega, rfl, unhide HE', (unhide HR9).put _ _ _, (by (repeat' (first | exact Below.refl _ _ | refine Below.alloc ?_ ?_ _ | refine Below.setCell ?_ ?_ _ | refine Below.drew ?_ | refine Below.trans ?_ (Below.mono (unhide HB9) ?_) | refine Below.trans ?_ (Below.mono (unhide HB8) ?_) | refine Below.trans ?_ (Below.mono (unhide HB7) ?_) | refine Below.trans ?_ (Below.mono (unhide HB6) ?_) | refine Below.trans ?_ (Below.mono (unhide HB5) ?_) | refine Below.trans ?_ (Below.mono (unhide HB4) ?_) | refine Below.trans ?_ (Below.mono (unhide HB3) ?_) | refine Below.trans ?_ (Below.mono (unhide HB2) ?_) | refine Below.trans ?_ (Below.mono (unhide HB) ?_))); all_goals (first | exact Nat.le_refl _ | omega | (simp; done) | (simp; omega)))⟩
          case measure => simp [intOf]; omega
        · obtain ⟨⟨a0, a1, a2⟩, ⟨f0, f1, f2⟩, al⟩ := unhide HR7
          clear s1 s2 s3 s4 s5 s6 s7
          go_wp2
          have z0 := unhide HZ1
          have z1 := unhide HZ
          have z2 := (unhide HB2).size
          have z3 := (unhide HB3).size
          have z4 := (unhide HB4).size
          have z5 := (unhide HB5).size
          simp at z5
          have z6 := (unhide HB6).size
          have z7 := (unhide HB7).size
          go_roundw
          case rel => exact ⟨n + 1, k', k, by omega, by omega, rfl, unhide HE', (unhide HR7).put _ _ _, (by (repeat' (first | exact Below.refl _ _ | refine Below.alloc ?_ ?_ _ | refine Below.setCell ?_ ?_ _ | refine Below.drew ?_ | refine Below.trans ?_ (Below.mono (unhide HB7) ?_) | refine Below.trans ?_ (Below.mono (unhide HB6) ?_) | refine Below.trans ?_ (Below.mono (unhide HB5) ?_) | refine Below.trans ?_ (Below.mono (unhide HB4) ?_) | refine Below.trans ?_ (Below.mono (unhide HB3) ?_) | refine Below.trans ?_ (Below.mono (unhide HB2) ?_) | refine Below.trans ?_ (Below.mono (unhide HB) ?_))); all_goals (first | exact Nat.le_refl _ | omega | (simp; done) | (simp; omega)))⟩
          case measure => simp [intOf]; omega
    · go_wp2_with fail
      refine (rcheck_yes _ (unhide HE)).mono ?_
      rintro e w2 ⟨rfl, hb2⟩
      have HB2 := hide hb2
      have hz := unhide HZ
      clear hb2
      go_wp2
      go_ret
      exact ⟨rfl, (by (repeat' (first | exact Below.refl _ _ | refine Below.alloc ?_ ?_ _ | refine Below.setCell ?_ ?_ _ | refine Below.drew ?_ | refine Below.trans ?_ (Below.mono (unhide HB2) ?_) | refine Below.trans ?_ (Below.mono (unhide HB) ?_))); all_goals (first | exact Nat.le_refl _ | omega | (simp; done) | (simp; omega)))⟩

theorem walk (a0 a1 : Int) (w : World) (w0 : (Lit.int .i64 a0).wf = true) (w1 : (Lit.int .i64 a1).wf = true) (hg : ErrType w) :
    Calls Tryd.prog 5 #[.int .i64 a0, .int .i64 a1] w fun e w' => e = .returned (.bool true) ∧ Below w.heap.size w w' := by
  by_cases h : 0 ≤ a0 ∧ a0 < 999983
  · exact walk_good a0 a1 w h.1 h.2 hg
  · exact walk_bad a0 a1 w (by omega)


theorem gErr : Tryd.prog.globalNamed "errors.errorType" = some 0 := by kernel_rfl
theorem rtErr : (Tryd.prog.cutTypes.find? (·.1 == "internal/reflectlite.rtype")).map (·.2) = some 67 := by kernel_rfl
theorem oneRow : ((List.range 110).filter fun t => Tryd.prog.rowNamed t [101, 114, 114, 111, 114]) = [25] := by kernel_rfl
theorem sizeT : Tryd.prog.types.size = 110 := by kernel_rfl
theorem handle_of_laid {W : World} (h : laidMetH Tryd.prog Rows.ringTwoRow.laid W) : ErrType W := by
  have h' : laidMet Tryd.prog [] W ∧ handlesMet Tryd.prog Rows.ringTwoRow.laid W := h
  obtain ⟨name, u, ty, e1, e2, e3, e4, e5⟩ := h'.2 _ (List.mem_singleton.2 rfl)
  have en : name = [101, 114, 114, 111, 114] := (Option.some.inj e1).symm
  subst en
  obtain rfl := Option.some.inj (rtErr.symm.trans e2)
  have hm : ty ∈ (List.range 110).filter fun t => Tryd.prog.rowNamed t [101, 114, 114, 111, 114] := List.mem_filter.2 ⟨List.mem_range.2 (by rw [← sizeT]; exact e3), e4⟩
  rw [oneRow] at hm
  obtain rfl := List.mem_singleton.1 hm
  have hh : typeHandle Tryd.prog 25 = .pointer (some ⟨1, 25, none⟩) := by kernel_rfl
  rw [hh] at e5
  unfold ErrType
  simpa using World.var?_cell gErr e5 0
theorem door_met (os : Os) (args : Array Value) : laidMetH Tryd.prog Rows.ringTwoRow.laid ((World.doorLaid Tryd.prog 400 os).forCall (fun _ _ => 0) ⟨#[], args, []⟩).memory :=
  laidMetH_of_parts (laidMet_nil _ _) (by kernel_rfl)


set_option maxRecDepth 100000 in
theorem lifted (os : Os) (started : os.Started) (H : Type) (enc : TypeId × Value → H) :
    ReturnsInHanded {} Tryd.checked os 5 .any (fun w args => (Rows.ringTwoSpec.pre enc Tryd.prog Tryd.f5 [] false w args ∧ laidMetH Tryd.prog Rows.ringTwoRow.laid w) ∧ sizedMet enc Tryd.prog Tryd.f5 (OpenSpec.ofChange Rows.ringTwoSpec) false w args) (Rows.ringTwoSpec.post enc Tryd.prog Tryd.f5 false true false false) := by
  refine returnsInHanded_of_change_and (C := Tryd.checked) (X := fun w _ => laidMetH Tryd.prog Rows.ringTwoRow.laid w) (fun _ _ _ hh h => h.of_heap hh) own started (by kernel_rfl) Tryd.func5
    (ChangeSpec.witness_shaped (enc := enc) (C := Tryd.checked) (os := os) (X := fun w _ => laidMetH Tryd.prog Rows.ringTwoRow.laid w) false (World.doorLaid Tryd.prog 400 os) #[.int .i64 0, .int .i64 0] 8 rfl (World.shaped_of_RefB (by kernel_rfl) (by kernel_rfl)) (by kernel_rfl) (by kernel_rfl) (by kernel_rfl) (door_met os _)) ?_
  intro W base args ds gs before hval0 hW _ hsz hL _
  have hg := handle_of_laid hL
  have hval : ∀ (j : Nat) t v, Tryd.f5.params[j]? = some t → args[j]? = some v → Value.okWide Tryd.prog W .any base t v := hval0
  have hW' := hW
  obtain ⟨p, q, hA0, hV, rfl, hfz, hnd⟩ := hW
  have hA : DataW.TrodAll enc Tryd.prog W 0 (fun _ => true) true Tryd.f5.params.toList args.toList ds p := hA0
  rw [Tryd.params5] at hA hval
  obtain ⟨v0, vs0, d0, ds0, p0, q0, hargs, rfl, rfl, h0, r0⟩ := trodAll_cons hA
  obtain ⟨v1, vs1, d1, ds1, p1, q1, rfl, rfl, rfl, h1, r1⟩ := trodAll_cons r0
  obtain ⟨rfl, rfl, rfl⟩ := trodAll_nil r1
  obtain rfl : args = #[v0, v1] := by cases args; simp_all
  obtain ⟨rfl, rfl⟩ := trodVars_none hV
  have k0 := h0
  have lt0 : ∀ x ∈ p0, x.block < W.heap.size := by obtain ⟨m, hm⟩ := k0; exact DataW.trod_lt m _ _ _ hm
  obtain ⟨a0, rfl, rfl, rfl, w0⟩ := open_int Tryd.underlying3 (hval 0 3 v0 rfl rfl) h0
  have k1 := h1
  have lt1 : ∀ x ∈ p1, x.block < W.heap.size := by obtain ⟨m, hm⟩ := k1; exact DataW.trod_lt m _ _ _ hm
  obtain ⟨a1, rfl, rfl, rfl, w1⟩ := open_int Tryd.underlying3 (hval 1 3 v1 rfl rfl) h1
  clear hA0 hval0
  refine (walk a0 a1 W w0 w1 hg).mono fun e W' ⟨he, bel⟩ => ?_
  subst he
  exact ⟨_, rfl, _, _, _, [], _, [], hW', trodAll_mk1 (shut_bool Tryd.underlying4 _), (trodAll_cons_mk (Below.trod laidOut (by kernel_rfl) (of_decide_eq_true (by kernel_rfl)) k0 bel lt0) (trodAll_cons_mk (Below.trod laidOut (by kernel_rfl) (of_decide_eq_true (by kernel_rfl)) k1 bel lt1) trodAll_mk0)), rfl, bel.frame _, fun h => by cases h⟩

theorem over : Rows.ringTwoRow.holds Tryd.pinned (OpenSpec.ofChange Rows.ringTwoSpec) :=
  OpenClaim.holds_of_wide 5 Tryd.f5 rfl rfl rfl rfl rfl rfl rfl ⟨rfl, rfl, rfl, rfl, rfl⟩ rfl rfl rfl rfl rfl (by kernel_rfl) Tryd.func5 (by kernel_rfl)
    (of_decide_eq_true (by kernel_rfl)) (by unfold Func.isWrapper; first | (rw [if_pos (by decide +kernel)]; kernel_rfl) | (rw [if_neg (by decide +kernel)]; exact ⟨rfl, rfl⟩))
    (fun os started H enc _ => lifted os started H enc)

theorem card : Rows.RingTwoCardSaid :=
  Claim7.holds_tied_plain_at .later [] [.handle] true (true, "d5c11abbc996e12a781b115e5465665958494cced519fd7e992174785b498fc1") true
    over (fun _ h => by cases h) (by kernel_rfl) (fun _ h => by cases h) ringTwo_row_tie rfl ⟨rfl, rfl⟩ (by kernel_rfl) rfl
    (fun f fn hf hfn => by
      obtain rfl : f = 5 := Option.some.inj ((show Tryd.prog.funcNamed "tokenfold/foldlaw1.RingTwo" = some 5 by kernel_rfl).symm.trans hf) |>.symm
      obtain rfl : fn = Tryd.f5 := (Option.some.inj (Tryd.func5.symm.trans hfn)).symm
      exact ⟨by kernel_rfl, fun j t ht => by
        rw [Tryd.params5] at ht
        have hm : t ∈ [3, 3] := by simpa using Array.mem_of_getElem? ht
        have hall : ([3, 3].all fun u => !Tryd.prog.wantsStandIn u) = true := by kernel_rfl
        exact (show Tryd.prog.wantsStandIn t = false by simpa using List.all_eq_true.1 hall t hm)⟩)
    (by kernel_rfl)

end Go.Proofs.YtkfijiklmmdmfaaDoor.ringTwo
namespace Go.Proofs.YtkfijiklmmdmfaaDoor
theorem ringTwo_holds : Rows.RingTwoCardSaid := ringTwo.card
#print axioms ringTwo_holds
end Go.Proofs.YtkfijiklmmdmfaaDoor

