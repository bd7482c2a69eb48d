/-
  What a log's Spend and Sync come to.
-/
import Derived.Test.YtfhpfdlbgmgclakDoorLogWalks
namespace Go.Proofs.YtfhpfdlbgmgclakDoor
open Go.RowKit
attribute [local go_sem ↓] Go.wp_at_zero Go.wp_at_succ

theorem infoLogByte : (Tryd.prog.info? 5).map (fun i => (i.zero, i.size, i.bytes)) = some (some (.int .u8 0), 1, 1) := by kernel_rfl

theorem lstops_yes {B j n c : Nat} {x : LogM.St} {a : Option Addr} {v : Value} (w w0 : World) (h : LogIn B w j x a n c v) (hz : x.left = 0) (hB : Below B w0 w) :
    Calls Tryd.prog 31 #[.pointer (some ⟨j, 0, none⟩)] w fun e w' => e = .returned (.bool true) ∧ LogIn B w' j { x with stop := true } a n c v ∧ Below B w0 w' ∧ Still logS w w' := by
  obtain ⟨⟨-, -, -, c3, c4⟩, hf⟩ := h.at
  have f4 := hf 4
  have hl := h.lt
  have hj := h.base
  have g := h.good
  have R := hide (h.put 4 (.bool true) (x' := { x with stop := true }) ⟨g.well, g.len, g.safe, g.half, fun q => (by simp at q), g.lo, g.hi⟩ rfl rfl rfl)
  have HB := hide hB
  rw [hz] at c3
  generalize x.stop = st at c4
  clear h hf hB g hz
  go_enter Tryd.func31, Tryd.ntmps31
  go_wp2
  go_ret
  exact ⟨rfl, (unhide R).1, (unhide HB).setCell (p := ⟨j, 4, none⟩) hj _, (unhide R).2⟩
theorem lstops_no {B j n c : Nat} {x : LogM.St} {a : Option Addr} {v : Value} (w w0 : World) (h : LogIn B w j x a n c v) (hx : x.stop = false) (hz : ¬ x.left = 0) (hB : Below B w0 w) :
    Calls Tryd.prog 31 #[.pointer (some ⟨j, 0, none⟩)] w fun e w' => e = .returned (.bool false) ∧ LogIn B w' j { x with left := LogM.down x.left } a n c v ∧ Below B w0 w' ∧ Still logS w w' := by
  obtain ⟨⟨-, -, -, c3, c4⟩, hf⟩ := h.at
  have f4 := hf 4
  have f3 := hf 3
  have hl := h.lt
  have hj := h.base
  have g := h.good
  rw [hx] at c4
  have R1 := h.put 4 (.bool false) (x' := x) g (by rw [← hx]; rfl) rfl rfl
  have R2 := hide (R1.1.put 3 (.int .i64 (LogM.down x.left)) (x' := { x with left := LogM.down x.left }) ⟨g.well, g.len, g.safe, g.half, g.whole, LogM.down_lo g.lo, LogM.down_hi g.hi⟩ rfl rfl rfl)
  have R1 := hide R1
  have HB := hide hB
  have lo := g.lo
  have hi := g.hi
  by_cases hp : 0 < x.left
  · rw [LogM.down_pos hp] at R2 ⊢
    generalize hq : x.left = z at c3 R1 R2 hz lo hi hp ⊢
    have hz1 : (z == 0) = false := by simp [hz]
    clear h hf hB g hq
    go_enter Tryd.func31, Tryd.ntmps31
    go_wp2
    go_ret
    exact ⟨rfl, (unhide R2).1, ((unhide HB).setCell (p := ⟨j, 4, none⟩) hj _).setCell (p := ⟨j, 3, none⟩) hj _, (unhide R1).2.trans (unhide R2).2⟩
  · have e : { x with left := LogM.down x.left } = x := by rw [LogM.down_neg hp]
    rw [e]
    clear R2 e
    generalize hq : x.left = z at c3 hz lo hi hp
    have hz1 : (z == 0) = false := by simp [hz]
    clear h hf hB g hq
    go_enter Tryd.func31, Tryd.ntmps31
    go_wp2
    go_ret
    exact ⟨rfl, (unhide R1).1, (unhide HB).setCell (p := ⟨j, 4, none⟩) hj _, (unhide R1).2⟩

theorem lsync_any {B j : Nat} {x : LogM.St} (w w0 : World) (h : LogAt B w j x) (hB : Below B w0 w) :
    Calls Tryd.prog 7 #[.pointer (some ⟨j, 0, none⟩)] w fun e w' => e = .returned (errV (LogM.syncErr x)) ∧ LogAt B w' j (LogM.sync x) ∧ Below B w0 w' ∧ Still logS w w' := by
  obtain ⟨a, n, c, v, h⟩ := h
  obtain ⟨⟨-, -, -, -, c4⟩, -⟩ := h.at
  have hl := h.lt
  have hj := h.base
  unfold LogM.syncErr LogM.sync
  by_cases hs : x.stop = true
  · rw [if_pos hs, if_pos hs, errV_pos (by omega)]
    rw [hs] at c4
    have H := hide h
    have HB := hide hB
    clear h hB hs
    go_enter Tryd.func7, Tryd.ntmps7
    go_wp2
    go_ret
    exact ⟨rfl, ⟨_, _, _, _, unhide H⟩, unhide HB, Still.refl _ _⟩
  · rw [if_neg hs, if_neg hs]
    have hs : x.stop = false := by simpa using hs
    rw [hs] at c4
    by_cases hz : x.left = 0
    · rw [if_pos hz, if_pos hz, errV_pos (by omega)]
      have C := hide (lstops_yes w w0 h hz hB)
      clear h hB hs hz
      go_enter Tryd.func7, Tryd.ntmps7
      go_wp2_with fail
      refine (unhide C).mono ?_
      rintro e w1 ⟨rfl, h1, hb1, hs1⟩
      have H := hide h1
      have HB := hide hb1
      have HS := hide hs1
      clear h1 hb1 hs1
      go_wp2
      go_ret
      exact ⟨rfl, ⟨_, _, _, _, unhide H⟩, unhide HB, unhide HS⟩
    · rw [if_neg hz, if_neg hz, errV_zero rfl]
      have hh := h.good.whole hs
      have C := hide (lstops_no w w0 h hs hz hB)
      have g := hide h.good
      obtain ⟨b, cap, rfl, -, -⟩ := h.form
      have hsz : LogM.size x = 9 * x.R.length := by unfold LogM.size; rw [hh]; rfl
      rw [hsz] at C
      have HSZ := hide hsz
      clear h hB hs hz hh hsz
      go_enter Tryd.func7, Tryd.ntmps7
      go_wp2_with fail
      refine (unhide C).mono ?_
      rintro e w1 ⟨rfl, h1, hb1, hs1⟩
      obtain ⟨⟨-, d1, d2, -, -⟩, hf⟩ := h1.at
      have f2 := hf 2
      have hl1 := h1.lt
      have R := hide (h1.put 2 (.int .i64 ((9 * x.R.length : Nat) : Int)) (x' := { x with s := x.R.length, left := LogM.down x.left }) ⟨(unhide g).well, (unhide g).len, Nat.le_refl _, (unhide g).half, (unhide g).whole, LogM.down_lo (unhide g).lo, LogM.down_hi (unhide g).hi⟩ rfl rfl rfl)
      have HB := hide hb1
      have HS := hide hs1
      clear h1 hb1 hs1 hf
      generalize 9 * x.R.length = q at *
      go_wp2
      go_ret
      exact ⟨rfl, ⟨_, _, _, _, (unhide R).1⟩, (unhide HB).setCell (p := ⟨j, 2, none⟩) hj _, (unhide HS).trans (unhide R).2⟩
end Go.Proofs.YtfhpfdlbgmgclakDoor
