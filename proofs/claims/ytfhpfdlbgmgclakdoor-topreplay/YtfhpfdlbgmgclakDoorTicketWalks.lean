/-
  What the calls of package ticket come to, said of a ring's and a ticket's numbers: fits, Make, Check.
-/
import Derived.Test.YtfhpfdlbgmgclakDoorTokenWalks
import Derived.Test.YtfhpfdlbgmgclakDoorTicketMath
namespace Go.Proofs.YtfhpfdlbgmgclakDoor
open Go.RowKit


set_option maxHeartbeats 800000 in
theorem kmake_yes {ep key old a t : Int} (w : World) (h : TokenM.makeErr ep key old a t = 0) :
    Calls Tryd.prog 47 #[.agg #[.int .i64 ep, .int .i64 key, .int .i64 old], .int .i64 a, .int .i64 t] w fun e w' => e = .returned (.tuple #[.agg #[.int .i64 ep, .int .i64 a, .int .i64 t, .int .i64 (TagM.tag key [2, a, t])], .nilIface]) ∧ Below w.heap.size w w' := by
  obtain ⟨he, ha, ht⟩ := TokenM.make_zero.1 h
  have C := hide (fun w => rcheck_yes w he)
  have C1 := hide (fits_any a)
  have C2 := hide (time_any t)
  rw [ha] at C1
  rw [ht] at C2
  obtain ⟨_, hk, _⟩ := RingM.err_zero.1 he
  have HA := hide ha
  have HT := hide (TokenM.timeB_in ht)
  have HK := hide hk
  clear h he ha ht hk
  go_enter Tryd.func47, Tryd.ntmps47
  go_wp2_with fail
  refine (unhide C _).mono ?_
  rintro e w1 ⟨rfl, hb1⟩
  obtain ⟨hc1, hf1, hz1⟩ := lies hb1
  try simp at hz1
  have HB1 := hide hb1
  clear hb1
  have g1 : w.heap.size < w1.heap.size := by omega
  have g11 : w.heap.size + 1 < w1.heap.size := by omega
  go_wp2_with fail
  refine (unhide C1 _).mono ?_
  rintro e w' ⟨rfl, rfl⟩
  go_wp2_with fail
  refine (unhide C2 _).mono ?_
  rintro e w' ⟨rfl, rfl⟩
  go_wp2_with fail
  refine (of3_yes key 2 a t _ _ (by simp) (by simp) (by simp) (unhide HK) rfl (unhide HA) (unhide HT)).mono ?_
  rintro e w' ⟨rfl, rfl⟩
  go_wp2
  exact bodyPost_ret (v := .tuple #[.agg #[.int .i64 ep, .int .i64 a, .int .i64 t, .int .i64 (TagM.tag key [2, a, t])], .nilIface]) (by simp [results, Tryd.results47, go_sem, hc1, g11]) rfl ⟨rfl, (by (repeat' (first | exact Below.refl _ _ | refine Below.alloc ?_ ?_ _ | refine Below.setCell ?_ ?_ _ | refine Below.drew ?_ | refine Below.trans ?_ (Below.mono (unhide HB1) ?_))); all_goals (first | exact Nat.le_refl _ | omega | (simp; done) | (simp; omega)))⟩

set_option maxHeartbeats 800000 in
theorem kmake_no {ep key old a t : Int} (w : World) (h : ¬ TokenM.makeErr ep key old a t = 0) :
    Calls Tryd.prog 47 #[.agg #[.int .i64 ep, .int .i64 key, .int .i64 old], .int .i64 a, .int .i64 t] w fun e w' => e = .returned (.tuple #[.agg #[.int .i64 0, .int .i64 0, .int .i64 0, .int .i64 0], .iface 67 (.int .i64 (TokenM.makeErr ep key old a t))]) ∧ Below w.heap.size w w' := by
  unfold TokenM.makeErr at h ⊢
  by_cases he : RingM.err ep key old = 0
  · rw [if_pos he] at h ⊢
    have C := hide (fun w => rcheck_yes w he)
    have C1 := hide (fits_any a)
    have C2 := hide (time_any t)
    generalize TagM.inB a = p at C1 h ⊢
    generalize TokenM.timeB t = q at C2 h ⊢
    clear he
    cases p
    · clear h
      go_enter Tryd.func47, Tryd.ntmps47
      go_wp2_with fail
      refine (unhide C _).mono ?_
      rintro e w1 ⟨rfl, hb1⟩
      obtain ⟨hc1, hf1, hz1⟩ := lies hb1
      try simp at hz1
      have HB1 := hide hb1
      clear hb1
      go_wp2_with fail
      refine (unhide C1 _).mono ?_
      rintro e w' ⟨rfl, rfl⟩
      go_wp2
      exact bodyPost_ret (v := .tuple #[.agg #[.int .i64 0, .int .i64 0, .int .i64 0, .int .i64 0], .iface 67 (.int .i64 1)]) (by simp [results, Tryd.results47, go_sem, hc1]) rfl ⟨rfl, (by (repeat' (first | exact Below.refl _ _ | refine Below.alloc ?_ ?_ _ | refine Below.setCell ?_ ?_ _ | refine Below.drew ?_ | refine Below.trans ?_ (Below.mono (unhide HB1) ?_))); all_goals (first | exact Nat.le_refl _ | omega | (simp; done) | (simp; omega)))⟩
    · cases q
      · clear h
        go_enter Tryd.func47, Tryd.ntmps47
        go_wp2_with fail
        refine (unhide C _).mono ?_
        rintro e w1 ⟨rfl, hb1⟩
        obtain ⟨hc1, hf1, hz1⟩ := lies hb1
        try simp at hz1
        have HB1 := hide hb1
        clear hb1
        go_wp2_with fail
        refine (unhide C1 _).mono ?_
        rintro e w' ⟨rfl, rfl⟩
        go_wp2_with fail
        refine (unhide C2 _).mono ?_
        rintro e w' ⟨rfl, rfl⟩
        go_wp2
        exact bodyPost_ret (v := .tuple #[.agg #[.int .i64 0, .int .i64 0, .int .i64 0, .int .i64 0], .iface 67 (.int .i64 1)]) (by simp [results, Tryd.results47, go_sem, hc1]) rfl ⟨rfl, (by (repeat' (first | exact Below.refl _ _ | refine Below.alloc ?_ ?_ _ | refine Below.setCell ?_ ?_ _ | refine Below.drew ?_ | refine Below.trans ?_ (Below.mono (unhide HB1) ?_))); all_goals (first | exact Nat.le_refl _ | omega | (simp; done) | (simp; omega)))⟩
      · exact absurd rfl h
  · rw [if_neg he]
    have C := hide (fun w => rcheck_no w he)
    clear h he
    generalize RingM.err ep key old = n at C ⊢
    go_enter Tryd.func47, Tryd.ntmps47
    go_wp2_with fail
    refine (unhide C _).mono ?_
    rintro e w1 ⟨rfl, hb1⟩
    obtain ⟨hc1, hf1, hz1⟩ := lies hb1
    try simp at hz1
    have HB1 := hide hb1
    clear hb1
    go_wp2
    exact bodyPost_ret (v := .tuple #[.agg #[.int .i64 0, .int .i64 0, .int .i64 0, .int .i64 0], .iface 67 (.int .i64 n)]) (by simp [results, Tryd.results47, go_sem, hc1]) rfl ⟨rfl, (by (repeat' (first | exact Below.refl _ _ | refine Below.alloc ?_ ?_ _ | refine Below.setCell ?_ ?_ _ | refine Below.drew ?_ | refine Below.trans ?_ (Below.mono (unhide HB1) ?_))); all_goals (first | exact Nat.le_refl _ | omega | (simp; done) | (simp; omega)))⟩

theorem kmake_any (ep key old a t : Int) : ∃ x0 x1 x2 x3 : Int, (∀ w, Calls Tryd.prog 47 #[.agg #[.int .i64 ep, .int .i64 key, .int .i64 old], .int .i64 a, .int .i64 t] w fun e w' => e = .returned (.tuple #[.agg #[.int .i64 x0, .int .i64 x1, .int .i64 x2, .int .i64 x3], errV (TokenM.makeErr ep key old a t)]) ∧ Below w.heap.size w w')
    ∧ (TokenM.makeErr ep key old a t = 0 → x0 = ep ∧ x1 = a ∧ x2 = t ∧ x3 = TagM.tag key [2, a, t]) ∧ (¬ TokenM.makeErr ep key old a t = 0 → x0 = 0 ∧ x1 = 0 ∧ x2 = 0 ∧ x3 = 0) := by
  by_cases h : TokenM.makeErr ep key old a t = 0
  · exact ⟨_, _, _, _, fun w => by rw [errV_zero h]; exact kmake_yes w h, fun _ => ⟨rfl, rfl, rfl, rfl⟩, fun h' => absurd h h'⟩
  · exact ⟨_, _, _, _, fun w => by rw [errV_pos h]; exact kmake_no w h, fun h' => absurd h' h, fun _ => ⟨rfl, rfl, rfl, rfl⟩⟩


end Go.Proofs.YtfhpfdlbgmgclakDoor
