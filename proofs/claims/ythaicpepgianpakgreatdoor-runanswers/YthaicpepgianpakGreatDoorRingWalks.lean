/-
  What the calls of package ring come to, said of a ring's three numbers: isEpoch, New, Check, Turn, Key.
-/
import Derived.Test.YthaicpepgianpakGreatDoorJoinedBase
import Derived.Test.YthaicpepgianpakGreatDoorJoinedRunMath
namespace Go.Proofs.YthaicpepgianpakGreatDoor
open Go.RowKit

/-- An error by its number: 0 is none. -/
def errV (n : Int) : Value := if n = 0 then .nilIface else .iface 85 (.int .i64 n)
theorem errV_zero {n : Int} (h : n = 0) : errV n = .nilIface := if_pos h
theorem errV_pos {n : Int} (h : ¬ n = 0) : errV n = .iface 85 (.int .i64 n) := if_neg h
/-- A ring by its three numbers. -/
def ringV (ep key old : Int) : Value := .agg #[.int .i64 ep, .int .i64 key, .int .i64 old]

theorem ep_yes (n : Int) (w : World) (h0 : 0 ≤ n) (h1 : n ≤ 100) :
    Calls Tryz.prog 124 #[.int .i64 n] w fun e w' => e = .returned (.bool true) ∧ w' = w := by
  go_enter Tryz.func124, Tryz.ntmps124
  go_wp2
  go_ret
  exact ⟨rfl, rfl⟩

theorem ep_no (n : Int) (w : World) (h : n < 0 ∨ 100 < n) :
    Calls Tryz.prog 124 #[.int .i64 n] w fun e w' => e = .returned (.bool false) ∧ w' = w := by
  by_cases h0 : 0 ≤ n
  · have h1 : ¬ n ≤ 100 := by omega
    go_enter Tryz.func124, Tryz.ntmps124
    go_wp2
    go_ret
    exact ⟨rfl, rfl⟩
  · go_enter Tryz.func124, Tryz.ntmps124
    go_wp2
    go_ret
    exact ⟨rfl, rfl⟩

set_option maxHeartbeats 800000 in
theorem rcheck_any (ep key old : Int) (w : World) :
    Calls Tryz.prog 88 #[.agg #[.int .i64 ep, .int .i64 key, .int .i64 old]] w fun e w' => e = .returned (errV (RingM.err ep key old)) ∧ Below w.heap.size w w' := by
  unfold RingM.err
  by_cases h1 : ep < 0 ∨ 100 < ep
  · rw [if_pos h1]
    have H1 := hide h1
    clear h1
    go_enter Tryz.func88, Tryz.ntmps88
    go_wp2_with fail
    refine (ep_no _ _ (unhide H1)).mono ?_
    rintro e w' ⟨rfl, rfl⟩
    go_wp2
    go_ret
    exact ⟨rfl, (Below.refl _ _).alloc (Nat.le_refl _) _⟩
  · rw [if_neg h1]
    have h10 : 0 ≤ ep := by omega
    have h11 : ep ≤ 100 := by omega
    clear h1
    by_cases h2 : TagM.inB key = false
    · rw [if_pos h2]
      have H2 := hide ((TagM.inB_not _).1 h2)
      clear h2
      go_enter Tryz.func88, Tryz.ntmps88
      go_wp2_with fail
      refine (ep_yes _ _ h10 h11).mono ?_
      rintro e w' ⟨rfl, rfl⟩
      go_wp2_with fail
      refine (fits_no _ _ (unhide H2)).mono ?_
      rintro e w' ⟨rfl, rfl⟩
      go_wp2
      go_ret
      exact ⟨rfl, (Below.refl _ _).alloc (Nat.le_refl _) _⟩
    · rw [if_neg h2]
      obtain ⟨h20, h21⟩ := (TagM.inB_iff key).1 (by simpa using h2)
      clear h2
      by_cases h3 : TagM.inB old = false
      · rw [if_pos h3]
        have H3 := hide ((TagM.inB_not _).1 h3)
        clear h3
        go_enter Tryz.func88, Tryz.ntmps88
        go_wp2_with fail
        refine (ep_yes _ _ h10 h11).mono ?_
        rintro e w' ⟨rfl, rfl⟩
        go_wp2_with fail
        refine (fits_yes _ _ h20 h21).mono ?_
        rintro e w' ⟨rfl, rfl⟩
        go_wp2_with fail
        refine (fits_no _ _ (unhide H3)).mono ?_
        rintro e w' ⟨rfl, rfl⟩
        go_wp2
        go_ret
        exact ⟨rfl, (Below.refl _ _).alloc (Nat.le_refl _) _⟩
      · rw [if_neg h3]
        obtain ⟨h30, h31⟩ := (TagM.inB_iff old).1 (by simpa using h3)
        clear h3
        by_cases h4 : ep = 0
        · by_cases h5 : old = 0
          · rw [if_neg (by omega)]
            subst h4 h5
            go_enter Tryz.func88, Tryz.ntmps88
            go_wp2_with fail
            refine (ep_yes _ _ h10 h11).mono ?_
            rintro e w' ⟨rfl, rfl⟩
            go_wp2_with fail
            refine (fits_yes _ _ h20 h21).mono ?_
            rintro e w' ⟨rfl, rfl⟩
            go_wp2_with fail
            refine (fits_yes _ _ h30 h31).mono ?_
            rintro e w' ⟨rfl, rfl⟩
            go_wp2
            go_ret
            exact ⟨rfl, (Below.refl _ _).alloc (Nat.le_refl _) _⟩
          · rw [if_pos ⟨h4, h5⟩]
            subst h4
            have h5' : (old == 0) = false := by simp [h5]
            go_enter Tryz.func88, Tryz.ntmps88
            go_wp2_with fail
            refine (ep_yes _ _ h10 h11).mono ?_
            rintro e w' ⟨rfl, rfl⟩
            go_wp2_with fail
            refine (fits_yes _ _ h20 h21).mono ?_
            rintro e w' ⟨rfl, rfl⟩
            go_wp2_with fail
            refine (fits_yes _ _ h30 h31).mono ?_
            rintro e w' ⟨rfl, rfl⟩
            go_wp2
            go_ret
            exact ⟨rfl, (Below.refl _ _).alloc (Nat.le_refl _) _⟩
        · rw [if_neg (by omega)]
          have h4' : (ep == 0) = false := by simp [h4]
          go_enter Tryz.func88, Tryz.ntmps88
          go_wp2_with fail
          refine (ep_yes _ _ h10 h11).mono ?_
          rintro e w' ⟨rfl, rfl⟩
          go_wp2_with fail
          refine (fits_yes _ _ h20 h21).mono ?_
          rintro e w' ⟨rfl, rfl⟩
          go_wp2_with fail
          refine (fits_yes _ _ h30 h31).mono ?_
          rintro e w' ⟨rfl, rfl⟩
          go_wp2
          go_ret
          exact ⟨rfl, (Below.refl _ _).alloc (Nat.le_refl _) _⟩

theorem rcheck_yes {ep key old : Int} (w : World) (h : RingM.err ep key old = 0) :
    Calls Tryz.prog 88 #[.agg #[.int .i64 ep, .int .i64 key, .int .i64 old]] w fun e w' => e = .returned .nilIface ∧ Below w.heap.size w w' := by
  have := rcheck_any ep key old w
  rwa [errV_zero h] at this
theorem rcheck_no {ep key old : Int} (w : World) (h : ¬ RingM.err ep key old = 0) :
    Calls Tryz.prog 88 #[.agg #[.int .i64 ep, .int .i64 key, .int .i64 old]] w fun e w' => e = .returned (.iface 85 (.int .i64 (RingM.err ep key old))) ∧ Below w.heap.size w w' := by
  have := rcheck_any ep key old w
  rwa [errV_pos h] at this

theorem of1_yes (key n : Int) (b : Nat) (w : World) (hc : w.cell? ⟨b, 0, none⟩ = some (.int .i64 n)) (h0 : 0 ≤ key) (h1 : key < 999983) (h2 : 0 ≤ n) (h3 : n < 999983) :
    Calls Tryz.prog 74 #[.int .i64 key, .slice (some ⟨b, 0, none⟩) 1 1] w fun e w' => e = .returned (.tuple #[.int .i64 (TagM.tag key [n]), .nilIface]) ∧ w' = w :=
  of_ok key b 0 1 [n] w h0 h1 (by simp) (by simp [(TagM.inB_iff n).2 ⟨h2, h3⟩]) (fun k hk => by
    obtain rfl : k = 0 := by simp at hk; omega
    exact hc)

set_option maxHeartbeats 400000 in
theorem rnew_yes (s : Int) (w : World) (h0 : 0 ≤ s) (h1 : s < 999983) :
    Calls Tryz.prog 47 #[.int .i64 s] w fun e w' => e = .returned (.tuple #[.agg #[.int .i64 0, .int .i64 (TagM.tag s [0]), .int .i64 0], .nilIface]) ∧ Below w.heap.size w w' := by
  go_enter Tryz.func47, Tryz.ntmps47
  go_wp2_with fail
  refine (of1_yes _ 0 _ _ (by simp) h0 h1 (by omega) (by omega)).mono ?_
  rintro e w' ⟨rfl, rfl⟩
  go_wp2
  exact bodyPost_ret (v := .tuple #[.agg #[.int .i64 0, .int .i64 (TagM.tag s [0]), .int .i64 0], .nilIface]) (by simp [results, Tryz.results47, go_sem]) rfl ⟨rfl, (by (repeat' (first | exact Below.refl _ _ | refine Below.alloc ?_ ?_ _ | refine Below.setCell ?_ ?_ _ | refine Below.drew ?_)); all_goals (first | exact Nat.le_refl _ | omega | (simp; done) | (simp; omega)))⟩

set_option maxHeartbeats 400000 in
theorem rnew_no (s : Int) (w : World) (h : s < 0 ∨ 999983 ≤ s) :
    Calls Tryz.prog 47 #[.int .i64 s] w fun e w' => e = .returned (.tuple #[.agg #[.int .i64 0, .int .i64 0, .int .i64 0], .iface 85 (.int .i64 1)]) ∧ Below w.heap.size w w' := by
  have H := hide h
  clear h
  go_enter Tryz.func47, Tryz.ntmps47
  go_wp2_with fail
  refine (of_key _ _ _ _ _ (unhide H)).mono ?_
  rintro e w' ⟨rfl, rfl⟩
  go_wp2
  exact bodyPost_ret (v := .tuple #[.agg #[.int .i64 0, .int .i64 0, .int .i64 0], .iface 85 (.int .i64 1)]) (by simp [results, Tryz.results47, go_sem]) rfl ⟨rfl, (by (repeat' (first | exact Below.refl _ _ | refine Below.alloc ?_ ?_ _ | refine Below.setCell ?_ ?_ _ | refine Below.drew ?_)); all_goals (first | exact Nat.le_refl _ | omega | (simp; done) | (simp; omega)))⟩

set_option maxHeartbeats 800000 in
theorem rturn_yes {ep key old : Int} (w : World) (h : RingM.turnErr ep key old = 0) :
    Calls Tryz.prog 63 #[.agg #[.int .i64 ep, .int .i64 key, .int .i64 old]] w fun e w' => e = .returned (.tuple #[.agg #[.int .i64 (ep + 1), .int .i64 (TagM.tag key [ep + 1]), .int .i64 key], .nilIface]) ∧ Below w.heap.size w w' := by
  obtain ⟨he, h100⟩ := RingM.turn_zero.1 h
  have C := hide (fun w => rcheck_yes w he)
  obtain ⟨⟨e0, e1⟩, ⟨k0, k1⟩, _⟩ := RingM.err_zero.1 he
  have hne : (ep == 100) = false := by simp; omega
  clear h he e1
  go_enter Tryz.func63, Tryz.ntmps63
  go_wp2_with fail
  refine (unhide C _).mono ?_
  rintro e w1 ⟨rfl, hb⟩
  obtain ⟨hc, hf, hz⟩ := lies hb
  simp at hz
  have hz0 : w.heap.size < w1.heap.size := by omega
  have hz1 : w.heap.size + 1 < w1.heap.size := by omega
  have HB := hide hb
  clear hb
  go_wp2_with fail
  refine (of1_yes key (ep + 1) _ _ (by simp) k0 k1 (by omega) (by omega)).mono ?_
  rintro e w' ⟨rfl, rfl⟩
  go_wp2
  refine bodyPost_ret (v := .tuple #[.agg #[.int .i64 (ep + 1), .int .i64 (TagM.tag key [ep + 1]), .int .i64 key], .nilIface]) (by simp [results, Tryz.results63, go_sem, hc, hz1]) rfl ⟨rfl, ?_⟩
  exact (by (repeat' (first | exact Below.refl _ _ | refine Below.alloc ?_ ?_ _ | refine Below.setCell ?_ ?_ _ | refine Below.drew ?_ | refine Below.trans ?_ (Below.mono (unhide HB) ?_))); all_goals (first | exact Nat.le_refl _ | omega | (simp; done) | (simp; omega)))

set_option maxHeartbeats 800000 in
theorem rturn_no {ep key old : Int} (w : World) (h : ¬ RingM.turnErr ep key old = 0) :
    Calls Tryz.prog 63 #[.agg #[.int .i64 ep, .int .i64 key, .int .i64 old]] w fun e w' => e = .returned (.tuple #[.agg #[.int .i64 0, .int .i64 0, .int .i64 0], .iface 85 (.int .i64 (RingM.turnErr ep key old))]) ∧ Below w.heap.size w w' := by
  unfold RingM.turnErr at h ⊢
  by_cases he : RingM.err ep key old = 0
  · rw [if_pos he] at h ⊢
    have h1 : ep = 100 := by
      by_cases h2 : ep = 100
      · exact h2
      · rw [if_neg h2] at h; exact absurd rfl h
    subst h1
    rw [if_pos rfl]
    have C := hide (fun w => rcheck_yes w he)
    clear h he
    go_enter Tryz.func63, Tryz.ntmps63
    go_wp2_with fail
    refine (unhide C _).mono ?_
    rintro e w1 ⟨rfl, hb⟩
    obtain ⟨hc, hf, hz⟩ := lies hb
    simp at hz
    have HB := hide hb
    clear hb
    go_wp2
    refine bodyPost_ret (v := .tuple #[.agg #[.int .i64 0, .int .i64 0, .int .i64 0], .iface 85 (.int .i64 4)]) (by simp [results, Tryz.results63, go_sem, hc]) rfl ⟨rfl, ?_⟩
    exact (by (repeat' (first | exact Below.refl _ _ | refine Below.alloc ?_ ?_ _ | refine Below.setCell ?_ ?_ _ | refine Below.drew ?_ | refine Below.trans ?_ (Below.mono (unhide HB) ?_))); all_goals (first | exact Nat.le_refl _ | omega | (simp; done) | (simp; omega)))
  · rw [if_neg he]
    have C := hide (fun w => rcheck_no w he)
    clear h he
    generalize RingM.err ep key old = n at C ⊢
    go_enter Tryz.func63, Tryz.ntmps63
    go_wp2_with fail
    refine (unhide C _).mono ?_
    rintro e w1 ⟨rfl, hb⟩
    obtain ⟨hc, hf, hz⟩ := lies hb
    simp at hz
    have HB := hide hb
    clear hb
    go_wp2
    refine bodyPost_ret (v := .tuple #[.agg #[.int .i64 0, .int .i64 0, .int .i64 0], .iface 85 (.int .i64 n)]) (by simp [results, Tryz.results63, go_sem, hc]) rfl ⟨rfl, ?_⟩
    exact (by (repeat' (first | exact Below.refl _ _ | refine Below.alloc ?_ ?_ _ | refine Below.setCell ?_ ?_ _ | refine Below.drew ?_ | refine Below.trans ?_ (Below.mono (unhide HB) ?_))); all_goals (first | exact Nat.le_refl _ | omega | (simp; done) | (simp; omega)))

set_option maxHeartbeats 800000 in
theorem rkey_no {ep key old : Int} (n : Int) (w : World) (h : ¬ RingM.keyErr ep key old n = 0) :
    Calls Tryz.prog 154 #[.agg #[.int .i64 ep, .int .i64 key, .int .i64 old], .int .i64 n] w fun e w' => e = .returned (.tuple #[.int .i64 0, .iface 85 (.int .i64 (RingM.keyErr ep key old n))]) ∧ Below w.heap.size w w' := by
  unfold RingM.keyErr at h ⊢
  by_cases he : RingM.err ep key old = 0
  · rw [if_pos he] at h ⊢
    have C := hide (fun w => rcheck_yes w he)
    obtain ⟨⟨e0, e1⟩, _⟩ := RingM.err_zero.1 he
    clear he
    by_cases h1 : n < 0 ∨ 100 < n
    · rw [if_pos h1]
      have H1 := hide h1
      clear h h1
      go_enter Tryz.func154, Tryz.ntmps154
      go_wp2_with fail
      refine (unhide C _).mono ?_
      rintro e w1 ⟨rfl, hb⟩
      obtain ⟨hc, hf, hz⟩ := lies hb
      simp at hz
      have HB := hide hb
      clear hb
      go_wp2_with fail
      refine (ep_no _ _ (unhide H1)).mono ?_
      rintro e w' ⟨rfl, rfl⟩
      go_wp2
      go_ret2
      exact ⟨rfl, (by (repeat' (first | exact Below.refl _ _ | refine Below.alloc ?_ ?_ _ | refine Below.setCell ?_ ?_ _ | refine Below.drew ?_ | refine Below.trans ?_ (Below.mono (unhide HB) ?_))); all_goals (first | exact Nat.le_refl _ | omega | (simp; done) | (simp; omega)))⟩
    · rw [if_neg h1] at h ⊢
      have n0 : 0 ≤ n := by omega
      have n1 : n ≤ 100 := by omega
      clear h1
      by_cases h2 : n ≤ ep - 2
      · rw [if_pos h2]
        clear h
        go_enter Tryz.func154, Tryz.ntmps154
        go_wp2_with fail
        refine (unhide C _).mono ?_
        rintro e w1 ⟨rfl, hb⟩
        obtain ⟨hc, hf, hz⟩ := lies hb
        simp at hz
        have HB := hide hb
        clear hb
        go_wp2_with fail
        refine (ep_yes _ _ n0 n1).mono ?_
        rintro e w' ⟨rfl, rfl⟩
        go_wp2
        go_ret2
        exact ⟨rfl, (by (repeat' (first | exact Below.refl _ _ | refine Below.alloc ?_ ?_ _ | refine Below.setCell ?_ ?_ _ | refine Below.drew ?_ | refine Below.trans ?_ (Below.mono (unhide HB) ?_))); all_goals (first | exact Nat.le_refl _ | omega | (simp; done) | (simp; omega)))⟩
      · rw [if_neg h2] at h ⊢
        have h3 : ep < n := by
          by_cases h3 : ep < n
          · exact h3
          · rw [if_neg h3] at h; exact absurd rfl h
        rw [if_pos h3]
        clear h
        go_enter Tryz.func154, Tryz.ntmps154
        go_wp2_with fail
        refine (unhide C _).mono ?_
        rintro e w1 ⟨rfl, hb⟩
        obtain ⟨hc, hf, hz⟩ := lies hb
        simp at hz
        have HB := hide hb
        clear hb
        go_wp2_with fail
        refine (ep_yes _ _ n0 n1).mono ?_
        rintro e w' ⟨rfl, rfl⟩
        go_wp2
        go_ret2
        exact ⟨rfl, (by (repeat' (first | exact Below.refl _ _ | refine Below.alloc ?_ ?_ _ | refine Below.setCell ?_ ?_ _ | refine Below.drew ?_ | refine Below.trans ?_ (Below.mono (unhide HB) ?_))); all_goals (first | exact Nat.le_refl _ | omega | (simp; done) | (simp; omega)))⟩
  · rw [if_neg he]
    have C := hide (fun w => rcheck_no w he)
    clear h he
    generalize RingM.err ep key old = x at C ⊢
    go_enter Tryz.func154, Tryz.ntmps154
    go_wp2_with fail
    refine (unhide C _).mono ?_
    rintro e w1 ⟨rfl, hb⟩
    have HB := hide hb
    clear hb
    go_wp2
    go_ret2
    exact ⟨rfl, (by (repeat' (first | exact Below.refl _ _ | refine Below.alloc ?_ ?_ _ | refine Below.setCell ?_ ?_ _ | refine Below.drew ?_ | refine Below.trans ?_ (Below.mono (unhide HB) ?_))); all_goals (first | exact Nat.le_refl _ | omega | (simp; done) | (simp; omega)))⟩

set_option maxHeartbeats 800000 in
theorem rkey_yes {ep key old : Int} (n : Int) (w : World) (h : RingM.keyErr ep key old n = 0) :
    Calls Tryz.prog 154 #[.agg #[.int .i64 ep, .int .i64 key, .int .i64 old], .int .i64 n] w fun e w' => e = .returned (.tuple #[.int .i64 (if n = ep then key else old), .nilIface]) ∧ Below w.heap.size w w' := by
  obtain ⟨he, ⟨n0, n1⟩, h2⟩ := RingM.key_zero.1 h
  have C := hide (fun w => rcheck_yes w he)
  obtain ⟨⟨e0, e1⟩, _⟩ := RingM.err_zero.1 he
  clear h he
  by_cases h3 : n = ep
  · subst h3
    rw [if_pos rfl]
    have g1 : ¬ n ≤ n - 2 := by omega
    clear h2
    go_enter Tryz.func154, Tryz.ntmps154
    go_wp2_with fail
    refine (unhide C _).mono ?_
    rintro e w1 ⟨rfl, hb⟩
    obtain ⟨hc, hf, hz⟩ := lies hb
    simp at hz
    have HB := hide hb
    clear hb
    go_wp2_with fail
    refine (ep_yes _ _ n0 n1).mono ?_
    rintro e w' ⟨rfl, rfl⟩
    go_wp2
    go_ret2
    exact ⟨rfl, (by (repeat' (first | exact Below.refl _ _ | refine Below.alloc ?_ ?_ _ | refine Below.setCell ?_ ?_ _ | refine Below.drew ?_ | refine Below.trans ?_ (Below.mono (unhide HB) ?_))); all_goals (first | exact Nat.le_refl _ | omega | (simp; done) | (simp; omega)))⟩
  · rw [if_neg h3]
    have g1 : ¬ n ≤ ep - 2 := by omega
    have g2 : ¬ ep < n := by omega
    have g3 : (n == ep) = false := by simp [h3]
    clear h2
    go_enter Tryz.func154, Tryz.ntmps154
    go_wp2_with fail
    refine (unhide C _).mono ?_
    rintro e w1 ⟨rfl, hb⟩
    obtain ⟨hc, hf, hz⟩ := lies hb
    simp at hz
    have HB := hide hb
    clear hb
    go_wp2_with fail
    refine (ep_yes _ _ n0 n1).mono ?_
    rintro e w' ⟨rfl, rfl⟩
    go_wp2
    go_ret2
    exact ⟨rfl, (by (repeat' (first | exact Below.refl _ _ | refine Below.alloc ?_ ?_ _ | refine Below.setCell ?_ ?_ _ | refine Below.drew ?_ | refine Below.trans ?_ (Below.mono (unhide HB) ?_))); all_goals (first | exact Nat.le_refl _ | omega | (simp; done) | (simp; omega)))⟩

end Go.Proofs.YthaicpepgianpakGreatDoor
