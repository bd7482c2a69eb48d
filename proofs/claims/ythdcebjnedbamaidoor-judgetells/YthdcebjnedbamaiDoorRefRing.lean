/-
  What the reference's Ring, Turn and Key come to.
-/
import Derived.Test.YthdcebjnedbamaiDoorRefTag
import Derived.Test.YthdcebjnedbamaiDoorRingWalks
import Derived.Deep.RegionHeld3
import Derived.Deep.DrawnRows
namespace Go.Proofs.YthdcebjnedbamaiDoor
open Go.RowKit
attribute [local go_sem ↓] Go.wp_at_zero Go.wp_at_succ

set_option maxHeartbeats 800000 in
theorem ref_ring (ep key old : Int) (w : World) :
    Calls Tryd.prog 16 #[.agg #[.int .i64 ep, .int .i64 key, .int .i64 old]] w fun e w' => e = .returned (.int .i64 (RingM.err ep key old)) ∧ Below w.heap.size w w' := by
  unfold RingM.err
  have C1 := hide (in_any key)
  have C2 := hide (in_any old)
  generalize TagM.inB key = a at C1 ⊢
  generalize TagM.inB old = b at C2 ⊢
  by_cases h1 : ep < 0 ∨ 100 < ep
  · rw [if_pos h1]
    by_cases h0 : ep < 0
    · clear h1
      go_enter Tryd.func16, Tryd.ntmps16
      go_wp2_with fail
      refine (unhide C1 _).mono ?_
      rintro e w' ⟨rfl, rfl⟩
      go_wp2_with fail
      refine (unhide C2 _).mono ?_
      rintro e w' ⟨rfl, rfl⟩
      go_wp2
      go_ret
      exact ⟨rfl, (by (repeat' (first | exact Below.refl _ _ | refine Below.alloc ?_ ?_ _ | refine Below.setCell ?_ ?_ _ | refine Below.drew ?_)); all_goals (first | exact Nat.le_refl _ | omega | (simp; done) | (simp; omega)))⟩
    · have h2 : 100 < ep := by omega
      clear h1
      go_enter Tryd.func16, Tryd.ntmps16
      go_wp2_with fail
      refine (unhide C1 _).mono ?_
      rintro e w' ⟨rfl, rfl⟩
      go_wp2_with fail
      refine (unhide C2 _).mono ?_
      rintro e w' ⟨rfl, rfl⟩
      go_wp2
      go_ret
      exact ⟨rfl, (by (repeat' (first | exact Below.refl _ _ | refine Below.alloc ?_ ?_ _ | refine Below.setCell ?_ ?_ _ | refine Below.drew ?_)); all_goals (first | exact Nat.le_refl _ | omega | (simp; done) | (simp; omega)))⟩
  · rw [if_neg h1]
    have h10 : ¬ ep < 0 := by omega
    have h11 : ¬ 100 < ep := by omega
    clear h1
    by_cases h3 : ep = 0
    · subst h3
      by_cases h4 : old = 0
      · subst h4
        cases a <;> cases b
        all_goals
          go_enter Tryd.func16, Tryd.ntmps16
          go_wp2_with fail
          refine (unhide C1 _).mono ?_
          rintro e w' ⟨rfl, rfl⟩
          go_wp2_with fail
          refine (unhide C2 _).mono ?_
          rintro e w' ⟨rfl, rfl⟩
          go_wp2
          go_ret
          exact ⟨rfl, (by (repeat' (first | exact Below.refl _ _ | refine Below.alloc ?_ ?_ _ | refine Below.setCell ?_ ?_ _ | refine Below.drew ?_)); all_goals (first | exact Nat.le_refl _ | omega | (simp; done) | (simp; omega)))⟩
      · have h5 : (old == 0) = false := by simp [h4]
        rw [show (if (0:Int) = 0 ∧ ¬ old = 0 then (3:Int) else 0) = 3 from if_pos ⟨rfl, h4⟩]
        cases a <;> cases b
        all_goals
          go_enter Tryd.func16, Tryd.ntmps16
          go_wp2_with fail
          refine (unhide C1 _).mono ?_
          rintro e w' ⟨rfl, rfl⟩
          go_wp2_with fail
          refine (unhide C2 _).mono ?_
          rintro e w' ⟨rfl, rfl⟩
          go_wp2
          go_ret
          exact ⟨rfl, (by (repeat' (first | exact Below.refl _ _ | refine Below.alloc ?_ ?_ _ | refine Below.setCell ?_ ?_ _ | refine Below.drew ?_)); all_goals (first | exact Nat.le_refl _ | omega | (simp; done) | (simp; omega)))⟩
    · have h5 : (ep == 0) = false := by simp [h3]
      rw [show (if ep = 0 ∧ ¬ old = 0 then (3:Int) else 0) = 0 from if_neg (fun h => h3 h.1)]
      cases a <;> cases b
      all_goals
        go_enter Tryd.func16, Tryd.ntmps16
        go_wp2_with fail
        refine (unhide C1 _).mono ?_
        rintro e w' ⟨rfl, rfl⟩
        go_wp2_with fail
        refine (unhide C2 _).mono ?_
        rintro e w' ⟨rfl, rfl⟩
        go_wp2
        go_ret
        exact ⟨rfl, (by (repeat' (first | exact Below.refl _ _ | refine Below.alloc ?_ ?_ _ | refine Below.setCell ?_ ?_ _ | refine Below.drew ?_)); all_goals (first | exact Nat.le_refl _ | omega | (simp; done) | (simp; omega)))⟩

set_option maxHeartbeats 800000 in
theorem ref_key {ep key old n : Int} (w : World) (he : RingM.err ep key old = 0) (n0 : 0 ≤ n) (n1 : n ≤ 100) :
    Calls Tryd.prog 54 #[.agg #[.int .i64 ep, .int .i64 key, .int .i64 old], .int .i64 n] w fun e w' => e = .returned (.tuple #[.int .i64 (if RingM.keyErr ep key old n = 0 then (if n = ep then key else old) else 0), .int .i64 (RingM.keyErr ep key old n)]) ∧ Below w.heap.size w w' := by
  obtain ⟨⟨e0, e1⟩, _⟩ := RingM.err_zero.1 he
  have hk : RingM.keyErr ep key old n = if n ≤ ep - 2 then 9 else if ep < n then 5 else 0 := by
    unfold RingM.keyErr; rw [if_pos he, if_neg (by omega)]
  clear he
  by_cases h1 : n = ep
  · subst h1
    have hv : RingM.keyErr n key old n = 0 := by rw [hk, if_neg (by omega), if_neg (by omega)]
    rw [hv, if_pos rfl, if_pos rfl]
    clear hk hv
    go_enter Tryd.func54, Tryd.ntmps54
    go_wp2
    go_ret2
    exact ⟨rfl, (by (repeat' (first | exact Below.refl _ _ | refine Below.alloc ?_ ?_ _ | refine Below.setCell ?_ ?_ _ | refine Below.drew ?_)); all_goals (first | exact Nat.le_refl _ | omega | (simp; done) | (simp; omega)))⟩
  · have g1 : (n == ep) = false := by simp [h1]
    by_cases h2 : ep < n
    · have hv : RingM.keyErr ep key old n = 5 := by rw [hk, if_neg (by omega), if_pos h2]
      rw [hv, if_neg (by omega)]
      clear hk hv
      go_enter Tryd.func54, Tryd.ntmps54
      go_wp2
      go_ret2
      exact ⟨rfl, (by (repeat' (first | exact Below.refl _ _ | refine Below.alloc ?_ ?_ _ | refine Below.setCell ?_ ?_ _ | refine Below.drew ?_)); all_goals (first | exact Nat.le_refl _ | omega | (simp; done) | (simp; omega)))⟩
    · by_cases h3 : n = ep - 1
      · have hv : RingM.keyErr ep key old n = 0 := by rw [hk, if_neg (by omega), if_neg h2]
        rw [hv, if_pos rfl, if_neg h1]
        clear hk hv
        have g3 : (n == ep - 1) = true := by simp [h3]
        go_enter Tryd.func54, Tryd.ntmps54
        go_wp2
        go_ret2
        exact ⟨rfl, (by (repeat' (first | exact Below.refl _ _ | refine Below.alloc ?_ ?_ _ | refine Below.setCell ?_ ?_ _ | refine Below.drew ?_)); all_goals (first | exact Nat.le_refl _ | omega | (simp; done) | (simp; omega)))⟩
      · have g3 : (n == ep - 1) = false := by simp [h3]
        have hv : RingM.keyErr ep key old n = 9 := by rw [hk, if_pos (by omega)]
        rw [hv, if_neg (by omega)]
        clear hk hv
        go_enter Tryd.func54, Tryd.ntmps54
        go_wp2
        go_ret2
        exact ⟨rfl, (by (repeat' (first | exact Below.refl _ _ | refine Below.alloc ?_ ?_ _ | refine Below.setCell ?_ ?_ _ | refine Below.drew ?_)); all_goals (first | exact Nat.le_refl _ | omega | (simp; done) | (simp; omega)))⟩

end Go.Proofs.YthdcebjnedbamaiDoor
