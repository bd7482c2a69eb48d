/-
  What the calls of package reset come to, said of a secret's, a conn's and a tag's numbers: Of, Is.
-/
import Derived.Test.YtimilfnbbimipajConnWalks
import Derived.Test.YtimilfnbbimipajResetMath
namespace Go.Proofs.Ytimilfnbbimipaj
open Go.RowKit

/-- Of two numbers that lie in a block. -/
theorem of2_yes (key x y : Int) (b : Nat) (w : World) (c0 : w.cell? ⟨b, 0, none⟩ = some (.int .i64 x)) (c1 : w.cell? ⟨b, 1, none⟩ = some (.int .i64 y))
    (hk : 0 ≤ key ∧ key < 999983) (hx : TagM.inB x = true) (hy : TagM.inB y = true) :
    Calls Try.prog 34 #[.int .i64 key, .slice (some ⟨b, 0, none⟩) 2 2] w fun e w' => e = .returned (.tuple #[.int .i64 (TagM.tag key [x, y]), .nilIface]) ∧ w' = w :=
  of_ok key b 0 2 [x, y] w hk.1 hk.2 (by simp) (by simp [hx, hy]) (fun k hk => by
    match k, hk with
    | 0, _ => exact c0
    | 1, _ => exact c1
    | k + 2, hk => simp at hk; omega)

set_option maxHeartbeats 1600000 in
set_option maxRecDepth 8000 in
theorem rof_any (k s m : Int) (w : World) : Calls Try.prog 15 #[.int .i64 k, .agg #[.int .i64 s, .int .i64 m]] w fun e w' => e = .returned (.tuple #[.int .i64 (ConnM.told (ResetM.err k s m) (ResetM.tag k s m)), errV (ResetM.err k s m)]) ∧ Below w.heap.size w w' := by
  have C := hide (fun w => cnumber_any s m w)
  rcases ResetM.bad_two s m with hb | hb
  · rw [hb, ConnM.told_zero rfl, errV_zero rfl] at C
    by_cases hk : TagM.inB k = true
    · rw [ResetM.err_zero hb hk, ConnM.told_zero rfl, errV_zero rfl]
      unfold ResetM.tag
      have HK := hide ((TagM.inB_iff _).1 hk)
      have HX := hide ((TagM.inB_iff _).2 (ResetM.turn_in hb))
      generalize ConnM.turn (4096 * s + m) = x at C HX ⊢
      clear hb hk
      go_enter Try.func15, Try.ntmps15
      go_wp2_with fail
      refine (unhide C _).mono ?_
      rintro e w1 ⟨rfl, hb1⟩
      obtain ⟨hc1, hf1, hz1⟩ := lies hb1
      try simp at hz1
      have HB1 := hide hb1
      clear hb1
      have g1 : w.heap.size < w1.heap.size := by omega
      go_wp2_with fail
      refine (of2_yes k 3 x _ _ (by simp) (by simp) (unhide HK) rfl (unhide HX)).mono ?_
      rintro e w' ⟨rfl, rfl⟩
      go_wp2
      exact bodyPost_ret (v := .tuple #[.int .i64 (TagM.tag k [3, x]), .nilIface]) (by simp [results, Try.results15, go_sem]) rfl ⟨rfl, (by (repeat' (first | exact Below.refl _ _ | refine Below.alloc ?_ ?_ _ | refine Below.setCell ?_ ?_ _ | refine Below.drew ?_ | refine Below.trans ?_ (Below.mono (unhide HB1) ?_))); all_goals (first | exact Nat.le_refl _ | omega | (simp; done) | (simp; omega)))⟩
    · have hk' : TagM.inB k = false := by simpa using hk
      rw [ResetM.err_key hk', ConnM.told_pos (by omega), errV_pos (by omega)]
      have HK := hide ((TagM.inB_not _).1 hk')
      generalize ConnM.turn (4096 * s + m) = x at C
      clear hb hk hk'
      go_enter Try.func15, Try.ntmps15
      go_wp2_with fail
      refine (unhide C _).mono ?_
      rintro e w1 ⟨rfl, hb1⟩
      obtain ⟨hc1, hf1, hz1⟩ := lies hb1
      try simp at hz1
      have HB1 := hide hb1
      clear hb1
      go_wp2_with fail
      refine (of_key k _ _ _ _ (unhide HK)).mono ?_
      rintro e w' ⟨rfl, rfl⟩
      go_wp2
      exact bodyPost_ret (v := .tuple #[.int .i64 0, .iface 59 (.int .i64 1)]) (by simp [results, Try.results15, go_sem]) rfl ⟨rfl, (by (repeat' (first | exact Below.refl _ _ | refine Below.alloc ?_ ?_ _ | refine Below.setCell ?_ ?_ _ | refine Below.drew ?_ | refine Below.trans ?_ (Below.mono (unhide HB1) ?_))); all_goals (first | exact Nat.le_refl _ | omega | (simp; done) | (simp; omega)))⟩
  · rw [hb, ConnM.told_pos (by omega), errV_pos (by omega)] at C
    rw [ResetM.err_conn hb, ConnM.told_pos (by omega), errV_pos (by omega)]
    clear hb
    go_enter Try.func15, Try.ntmps15
    go_wp2_with fail
    refine (unhide C _).mono ?_
    rintro e w1 ⟨rfl, hb1⟩
    obtain ⟨hc1, hf1, hz1⟩ := lies hb1
    try simp at hz1
    have HB1 := hide hb1
    clear hb1
    go_wp2
    exact bodyPost_ret (v := .tuple #[.int .i64 0, .iface 59 (.int .i64 1)]) (by simp [results, Try.results15, go_sem]) rfl ⟨rfl, (by (repeat' (first | exact Below.refl _ _ | refine Below.alloc ?_ ?_ _ | refine Below.setCell ?_ ?_ _ | refine Below.drew ?_ | refine Below.trans ?_ (Below.mono (unhide HB1) ?_))); all_goals (first | exact Nat.le_refl _ | omega | (simp; done) | (simp; omega)))⟩

end Go.Proofs.Ytimilfnbbimipaj
