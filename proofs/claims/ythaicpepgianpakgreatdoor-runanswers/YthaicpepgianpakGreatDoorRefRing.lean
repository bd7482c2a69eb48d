/-
  What the reference's Ring, Turn and Key come to.
-/
import Derived.Test.YthaicpepgianpakGreatDoorJoinedLoadWalks
import Derived.Test.YthaicpepgianpakGreatDoorRingWalks
import Derived.Deep.RegionHeld3
import Derived.Deep.DrawnRows
namespace Go.Proofs.YthaicpepgianpakGreatDoor
open Go.RowKit
attribute [local go_sem ↓] Go.wp_at_zero Go.wp_at_succ

set_option maxHeartbeats 800000 in
theorem ref_ring (ep key old : Int) (w : World) :
    Calls Tryz.prog 93 #[.agg #[.int .i64 ep, .int .i64 key, .int .i64 old]] w fun e w' => e = .returned (.int .i64 (RingM.err ep key old)) ∧ Below w.heap.size w w' := by
  unfold RingM.err
  have C1 := hide (in_any key)
  have C2 := hide (in_any old)
  generalize TagM.inB key = a at C1 ⊢
  generalize TagM.inB old = b at C2 ⊢
  by_cases h1 : ep < 0 ∨ 100 < ep
  · rw [if_pos h1]
    by_cases h0 : ep < 0
    · clear h1
      go_enter Tryz.func93, Tryz.ntmps93
      go_wp2_with fail
      refine (unhide C1 _).mono ?_
      rintro e w' ⟨rfl, rfl⟩
      go_wp2_with fail
      refine (unhide C2 _).mono ?_
      rintro e w' ⟨rfl, rfl⟩
      go_wp2
      go_ret
      exact ⟨rfl, (by (repeat' (first | exact Below.refl _ _ | refine Below.alloc ?_ ?_ _ | refine Below.setCell ?_ ?_ _ | refine Below.drew ?_)); all_goals (first | exact Nat.le_refl _ | omega | (simp; done) | (simp; omega)))⟩
    · have h2 : 100 < ep := by omega
      clear h1
      go_enter Tryz.func93, Tryz.ntmps93
      go_wp2_with fail
      refine (unhide C1 _).mono ?_
      rintro e w' ⟨rfl, rfl⟩
      go_wp2_with fail
      refine (unhide C2 _).mono ?_
      rintro e w' ⟨rfl, rfl⟩
      go_wp2
      go_ret
      exact ⟨rfl, (by (repeat' (first | exact Below.refl _ _ | refine Below.alloc ?_ ?_ _ | refine Below.setCell ?_ ?_ _ | refine Below.drew ?_)); all_goals (first | exact Nat.le_refl _ | omega | (simp; done) | (simp; omega)))⟩
  · rw [if_neg h1]
    have h10 : ¬ ep < 0 := by omega
    have h11 : ¬ 100 < ep := by omega
    clear h1
    by_cases h3 : ep = 0
    · subst h3
      by_cases h4 : old = 0
      · subst h4
        cases a <;> cases b
        all_goals
          go_enter Tryz.func93, Tryz.ntmps93
          go_wp2_with fail
          refine (unhide C1 _).mono ?_
          rintro e w' ⟨rfl, rfl⟩
          go_wp2_with fail
          refine (unhide C2 _).mono ?_
          rintro e w' ⟨rfl, rfl⟩
          go_wp2
          go_ret
          exact ⟨rfl, (by (repeat' (first | exact Below.refl _ _ | refine Below.alloc ?_ ?_ _ | refine Below.setCell ?_ ?_ _ | refine Below.drew ?_)); all_goals (first | exact Nat.le_refl _ | omega | (simp; done) | (simp; omega)))⟩
      · have h5 : (old == 0) = false := by simp [h4]
        rw [show (if (0:Int) = 0 ∧ ¬ old = 0 then (3:Int) else 0) = 3 from if_pos ⟨rfl, h4⟩]
        cases a <;> cases b
        all_goals
          go_enter Tryz.func93, Tryz.ntmps93
          go_wp2_with fail
          refine (unhide C1 _).mono ?_
          rintro e w' ⟨rfl, rfl⟩
          go_wp2_with fail
          refine (unhide C2 _).mono ?_
          rintro e w' ⟨rfl, rfl⟩
          go_wp2
          go_ret
          exact ⟨rfl, (by (repeat' (first | exact Below.refl _ _ | refine Below.alloc ?_ ?_ _ | refine Below.setCell ?_ ?_ _ | refine Below.drew ?_)); all_goals (first | exact Nat.le_refl _ | omega | (simp; done) | (simp; omega)))⟩
    · have h5 : (ep == 0) = false := by simp [h3]
      rw [show (if ep = 0 ∧ ¬ old = 0 then (3:Int) else 0) = 0 from if_neg (fun h => h3 h.1)]
      cases a <;> cases b
      all_goals
        go_enter Tryz.func93, Tryz.ntmps93
        go_wp2_with fail
        refine (unhide C1 _).mono ?_
        rintro e w' ⟨rfl, rfl⟩
        go_wp2_with fail
        refine (unhide C2 _).mono ?_
        rintro e w' ⟨rfl, rfl⟩
        go_wp2
        go_ret
        exact ⟨rfl, (by (repeat' (first | exact Below.refl _ _ | refine Below.alloc ?_ ?_ _ | refine Below.setCell ?_ ?_ _ | refine Below.drew ?_)); all_goals (first | exact Nat.le_refl _ | omega | (simp; done) | (simp; omega)))⟩

set_option maxHeartbeats 800000 in
theorem ref_key {ep key old n : Int} (w : World) (he : RingM.err ep key old = 0) (n0 : 0 ≤ n) (n1 : n ≤ 100) :
    Calls Tryz.prog 127 #[.agg #[.int .i64 ep, .int .i64 key, .int .i64 old], .int .i64 n] w fun e w' => e = .returned (.tuple #[.int .i64 (if RingM.keyErr ep key old n = 0 then (if n = ep then key else old) else 0), .int .i64 (RingM.keyErr ep key old n)]) ∧ Below w.heap.size w w' := by
  obtain ⟨⟨e0, e1⟩, _⟩ := RingM.err_zero.1 he
  have hk : RingM.keyErr ep key old n = if n ≤ ep - 2 then 9 else if ep < n then 5 else 0 := by
    unfold RingM.keyErr; rw [if_pos he, if_neg (by omega)]
  clear he
  by_cases h1 : n = ep
  · subst h1
    have hv : RingM.keyErr n key old n = 0 := by rw [hk, if_neg (by omega), if_neg (by omega)]
    rw [hv, if_pos rfl, if_pos rfl]
    clear hk hv
    go_enter Tryz.func127, Tryz.ntmps127
    go_wp2
    go_ret2
    exact ⟨rfl, (by (repeat' (first | exact Below.refl _ _ | refine Below.alloc ?_ ?_ _ | refine Below.setCell ?_ ?_ _ | refine Below.drew ?_)); all_goals (first | exact Nat.le_refl _ | omega | (simp; done) | (simp; omega)))⟩
  · have g1 : (n == ep) = false := by simp [h1]
    by_cases h2 : ep < n
    · have hv : RingM.keyErr ep key old n = 5 := by rw [hk, if_neg (by omega), if_pos h2]
      rw [hv, if_neg (by omega)]
      clear hk hv
      go_enter Tryz.func127, Tryz.ntmps127
      go_wp2
      go_ret2
      exact ⟨rfl, (by (repeat' (first | exact Below.refl _ _ | refine Below.alloc ?_ ?_ _ | refine Below.setCell ?_ ?_ _ | refine Below.drew ?_)); all_goals (first | exact Nat.le_refl _ | omega | (simp; done) | (simp; omega)))⟩
    · by_cases h3 : n = ep - 1
      · have hv : RingM.keyErr ep key old n = 0 := by rw [hk, if_neg (by omega), if_neg h2]
        rw [hv, if_pos rfl, if_neg h1]
        clear hk hv
        have g3 : (n == ep - 1) = true := by simp [h3]
        go_enter Tryz.func127, Tryz.ntmps127
        go_wp2
        go_ret2
        exact ⟨rfl, (by (repeat' (first | exact Below.refl _ _ | refine Below.alloc ?_ ?_ _ | refine Below.setCell ?_ ?_ _ | refine Below.drew ?_)); all_goals (first | exact Nat.le_refl _ | omega | (simp; done) | (simp; omega)))⟩
      · have g3 : (n == ep - 1) = false := by simp [h3]
        have hv : RingM.keyErr ep key old n = 9 := by rw [hk, if_pos (by omega)]
        rw [hv, if_neg (by omega)]
        clear hk hv
        go_enter Tryz.func127, Tryz.ntmps127
        go_wp2
        go_ret2
        exact ⟨rfl, (by (repeat' (first | exact Below.refl _ _ | refine Below.alloc ?_ ?_ _ | refine Below.setCell ?_ ?_ _ | refine Below.drew ?_)); all_goals (first | exact Nat.le_refl _ | omega | (simp; done) | (simp; omega)))⟩
theorem tag1 (key n : Int) (b : Nat) (w : World) (hc : w.cell? ⟨b, 0, none⟩ = some (.int .i64 n)) (h0 : 0 ≤ key) (h1 : key < 999983) (h2 : 0 ≤ n) (h3 : n < 999983) :
    Calls Tryz.prog 18 #[.int .i64 key, .slice (some ⟨b, 0, none⟩) 1 1] w fun e w' => e = .returned (.int .i64 (TagM.tag key [n])) ∧ w' = w :=
  ref_tag key (some ⟨b, 0, none⟩) 1 [n] w ⟨by simp, fun k hk => ⟨b, 0, rfl, by
    obtain rfl : k = 0 := by simp at hk; omega
    exact hc⟩⟩ (TagM.err_zero.2 ⟨(TagM.inB_iff key).2 ⟨h0, h1⟩, by simp, by simp [(TagM.inB_iff n).2 ⟨h2, h3⟩]⟩)

set_option maxHeartbeats 1600000 in
theorem ref_turn {ep key old : Int} (w : World) (he : RingM.err ep key old = 0) (h100 : ep < 100) :
    Calls Tryz.prog 26 #[.agg #[.int .i64 ep, .int .i64 key, .int .i64 old]] w fun e w' => e = .returned (.tuple #[.agg #[.int .i64 (ep + 1), .int .i64 (TagM.tag key [ep + 1]), .int .i64 key], .int .i64 0]) ∧ Below w.heap.size w w' := by
  obtain ⟨⟨e0, e1⟩, ⟨k0, k1⟩, _⟩ := RingM.err_zero.1 he
  have HW := hide (show IntKind.i64.wrap (ep + 1) = ep + 1 by rw [IntKind.wrap_i64]; omega)
  clear he e1
  go_enter Tryz.func26, Tryz.ntmps26
  go_wp2
  go_region_held3 (fun w' => w'.cell? ⟨w.heap.size, 0, none⟩ = some (.int .i64 ep) ∧ w'.cell? ⟨w.heap.size, 1, none⟩ = some (.int .i64 key)) (go_keep)
    (first | (go_at_call 18; refine (tag1 key (ep + 1) _ _ (by rw [unhide HW]; first | (rw [World.cell?_alloc_at _ _ _ _ (by simp)]; rfl) | (rw [World.cell?_drew, World.cell?_alloc_at _ _ _ _ (by simp)]; rfl)) k0 k1 (by omega) (by omega)).mono ?_; rintro e w' ⟨rfl, rfl⟩))
  rw [unhide HW]
  go_wp2
  exact bodyPost_ret (v := .tuple #[.agg #[.int .i64 (ep + 1), .int .i64 (TagM.tag key [ep + 1]), .int .i64 key], .int .i64 0]) (by simp [results, Tryz.results26, go_sem]) rfl ⟨rfl, (by (repeat' (first | exact Below.refl _ _ | refine Below.alloc ?_ ?_ _ | refine Below.setCell ?_ ?_ _ | refine Below.drew ?_)); all_goals (first | exact Nat.le_refl _ | omega | (simp; done) | (simp; omega)))⟩

set_option maxHeartbeats 800000 in
theorem ref_turn_full {key old : Int} (w : World) :
    Calls Tryz.prog 26 #[.agg #[.int .i64 100, .int .i64 key, .int .i64 old]] w fun e w' => e = .returned (.tuple #[.agg #[.int .i64 0, .int .i64 0, .int .i64 0], .int .i64 4]) ∧ Below w.heap.size w w' := by
  go_enter Tryz.func26, Tryz.ntmps26
  go_wp2
  exact bodyPost_ret (v := .tuple #[.agg #[.int .i64 0, .int .i64 0, .int .i64 0], .int .i64 4]) (by simp [results, Tryz.results26, go_sem]) rfl ⟨rfl, (by (repeat' (first | exact Below.refl _ _ | refine Below.alloc ?_ ?_ _ | refine Below.setCell ?_ ?_ _ | refine Below.drew ?_)); all_goals (first | exact Nat.le_refl _ | omega | (simp; done) | (simp; omega)))⟩

theorem ref_turn_any {ep key old x y z : Int} (he : RingM.err ep key old = 0) (h0 : RingM.turnErr ep key old = 0 → x = ep + 1 ∧ y = TagM.tag key [ep + 1] ∧ z = key) (h1 : ¬ RingM.turnErr ep key old = 0 → x = 0 ∧ y = 0 ∧ z = 0) (w : World) :
    Calls Tryz.prog 26 #[.agg #[.int .i64 ep, .int .i64 key, .int .i64 old]] w fun e w' => e = .returned (.tuple #[.agg #[.int .i64 x, .int .i64 y, .int .i64 z], .int .i64 (RingM.turnErr ep key old)]) ∧ Below w.heap.size w w' := by
  obtain ⟨⟨e0, e1⟩, _⟩ := RingM.err_zero.1 he
  by_cases h : RingM.turnErr ep key old = 0
  · obtain ⟨rfl, rfl, rfl⟩ := h0 h
    rw [h]
    exact ref_turn w he (RingM.turn_zero.1 h).2
  · obtain ⟨rfl, rfl, rfl⟩ := h1 h
    have h100 : ep = 100 := by
      by_cases hh : ep = 100
      · exact hh
      · exact absurd (RingM.turn_zero.2 ⟨he, by omega⟩) h
    subst h100
    have h4 : RingM.turnErr 100 key old = 4 := by unfold RingM.turnErr; rw [if_pos he, if_pos rfl]
    rw [h4]
    exact ref_turn_full w

end Go.Proofs.YthaicpepgianpakGreatDoor
