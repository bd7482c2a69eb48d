/-
  What the calls of package spent come to, said of lists of pairs: left, Spend, Has, Drop.
-/
import Derived.Test.YtiklmcolodgnoaiSpentWalks
namespace Go.Proofs.Ytiklmcolodgnoai
open Go.RowKit
attribute [local go_sem ↓] Go.wp_at_zero Go.wp_at_succ

theorem infoSpent : (Try.prog.info? 37).map (fun i => (i.zero, i.size, i.bytes)) = some (some (.agg #[.int .i64 0, .int .i64 0]), 2, 16) := by kernel_rfl


theorem len16 {l : List (Int × Int)} {w : World} {a : Option Addr} {len cap : Nat} (hp : PRow w a len cap l) (h : SpentM.err l = 0) : len ≤ 16 := by rw [← hp.1]; exact (SpentM.err_zero.1 h).1

set_option maxHeartbeats 1600000 in
theorem shas_any {l : List (Int × Int)} {a : Option Addr} {len cap : Nat} (n : Int) (w : World) (hp : PRow w a len cap l) :
    Calls Try.prog 7 #[.slice a len cap, .int .i64 n] w fun e w' => e = .returned (.tuple #[.bool (SpentM.has l n), errV (SpentM.hasErr l n)]) ∧ Below w.heap.size w w' := by
  have C := hide (scheck_any w hp)
  have HP := hide hp
  unfold SpentM.has
  by_cases he : SpentM.err l = 0
  · have hl := len16 hp he
    rw [errV_zero he] at C
    have CF := hide (fun w => fits_any n w)
    clear hp
    cases hn : TagM.inB n with
    | false =>
      have hh : SpentM.hasErr l n = 1 := by unfold SpentM.hasErr; rw [if_pos he, hn]; rfl
      rw [hh, errV_pos (by omega)]
      rw [hn] at CF
      clear hh hn he
      go_enter Try.func7, Try.ntmps7
      go_wp2_with fail
      refine (unhide C).mono ?_
      rintro e w1 ⟨rfl, hb1⟩
      have HB1 := hide hb1
      clear hb1
      go_wp2_with fail
      refine (unhide CF _).mono ?_
      rintro e w' ⟨rfl, rfl⟩
      go_wp2
      go_ret2
      exact ⟨rfl, unhide HB1⟩
    | true =>
      have hh : SpentM.hasErr l n = 0 := by unfold SpentM.hasErr; rw [if_pos he, hn]; rfl
      rw [hh, errV_zero rfl]
      rw [hn] at CF
      clear hh hn he
      have Q := hide (fun (B : Nat) (W : World) (hp : PRow W a len cap l) (hc : W.cell? ⟨B, 0, none⟩ = some (.int .i64 n)) => contains_row n B W hl hp hc)
      generalize SpentM.hasB l n = q at Q ⊢
      go_enter Try.func7, Try.ntmps7
      go_wp2_with fail
      refine (unhide C).mono ?_
      rintro e w1 ⟨rfl, hb1⟩
      have HB1 := hide hb1
      clear hb1
      go_wp2_with fail
      refine (unhide CF _).mono ?_
      rintro e w' ⟨rfl, rfl⟩
      go_wp2_with fail
      refine (numbered_any _ _).mono ?_
      rintro e w2 ⟨rfl, hq, hb2⟩
      have HB2 := hide (bel3 (unhide HB1) (Below.refl _ _) hb2)
      have HQ := hide hq
      clear hb2 hq
      go_wp2_with fail
      refine (unhide Q _ _ ((unhide HP).later (unhide HB2)) (unhide HQ)).mono ?_
      rintro e w3 ⟨rfl, hb3⟩
      have HB3 := hide (bel3 (unhide HB2) (Below.refl _ _) hb3)
      clear hb3
      go_wp2
      go_ret2
      exact ⟨rfl, unhide HB3⟩
  · have hh : SpentM.hasErr l n = SpentM.err l := by unfold SpentM.hasErr; rw [if_neg he]
    rw [errV_pos he] at C
    rw [hh, errV_pos he, show decide (SpentM.err l = 0) = false by simp [he], Bool.false_and]
    generalize SpentM.err l = q at C ⊢
    clear hp he hh HP
    go_enter Try.func7, Try.ntmps7
    go_wp2_with fail
    refine (unhide C).mono ?_
    rintro e w1 ⟨rfl, hb1⟩
    have HB1 := hide hb1
    clear hb1
    go_wp2
    go_ret2
    exact ⟨rfl, unhide HB1⟩


end Go.Proofs.Ytiklmcolodgnoai
