/-
  TopTurned's walks where a token was refused, round by round.
-/
import Derived.Test.YthdcebjnedbamaiDoorJudgeWalks
import Derived.Test.YthdcebjnedbamaiDoorOneWalks
import Derived.Deep.Cut
import Derived.ProofKit
import Derived.Lib.SmallJoins
namespace Go.Proofs.YthdcebjnedbamaiDoor
open Go.RowKit
set_option linter.unusedVariables false

set_option maxHeartbeats 12800000 in
set_option maxRecDepth 8000 in
theorem turned_no_bad (seed turns a n t K m1 m2 : Int) (w : World) (HG : Hid (ErrType w)) (CN : Hid (∀ W : World, Calls Tryd.prog 23 #[.int .i64 seed] W fun e w' => e = .returned (.tuple #[.agg #[.int .i64 0, .int .i64 K, .int .i64 0], .nilIface]) ∧ Below W.heap.size W w')) (hr : Hid (RingM.err 0 K 0 = 0)) (CM : Hid (∀ W : World, Calls Tryd.prog 24 #[.agg #[.int .i64 0, .int .i64 K, .int .i64 0], .int .i64 a, .int .i64 t] W fun e w' => e = .returned (.tuple #[.agg #[.int .i64 0, .int .i64 0, .int .i64 0, .int .i64 0], .iface 71 (.int .i64 m1)]) ∧ Below W.heap.size W w')) (CU : Hid (∀ W : World, Calls Tryd.prog 25 #[.agg #[.int .i64 0, .int .i64 K, .int .i64 0], .int .i64 n, .int .i64 t] W fun e w' => e = .returned (.tuple #[.agg #[.int .i64 0, .int .i64 0, .int .i64 0, .int .i64 0], .iface 71 (.int .i64 m2)]) ∧ Below W.heap.size W w')) (CS : Hid (∀ W : World, ErrType W → Calls Tryd.prog 10 #[.iface 71 (.int .i64 9), .int .i64 9] W fun e w' => e = .returned (.bool true) ∧ Below W.heap.size W w')) :
    Calls Tryd.prog 5 #[.int .i64 seed, .int .i64 turns, .int .i64 a, .int .i64 t, .int .i64 n] w fun e w' => e = .returned (.bool true) ∧ Below w.heap.size w w' := by
  go_enter Tryd.func5, Tryd.ntmps5
  go_wp2_with fail
  refine (one_true _).mono ?_
  rintro e w1 ⟨rfl, hb1⟩
  have HB1 := hide (show Below w.heap.size w w1 from Below.trans (by (repeat' (first | exact Below.refl _ _ | refine Below.alloc ?_ ?_ _ | refine Below.setCell ?_ ?_ _ | refine Below.drew ?_)); all_goals (first | exact Nat.le_refl _ | omega | (simp; done) | (simp; omega))) (hb1.mono (by first | exact Nat.le_refl _ | (simp; done) | (simp; omega))))
  clear hb1
  go_wp2_with fail
  refine (unhide CN _).mono ?_
  rintro e w2 ⟨rfl, hb2⟩
  have HB2 := hide (show Below w.heap.size w w2 from (by have := (unhide HB1).size; exact Below.trans (by (repeat' (first | exact Below.refl _ _ | refine Below.alloc ?_ ?_ _ | refine Below.setCell ?_ ?_ _ | refine Below.drew ?_ | refine Below.trans ?_ (Below.mono (unhide HB1) ?_))); all_goals (first | exact Nat.le_refl _ | omega | (simp; done) | (simp; omega))) (hb2.mono (by first | omega | (simp; done) | (simp; omega)))))
  clear hb2
  go_wp2_with fail
  refine (unhide CM _).mono ?_
  rintro e w3 ⟨rfl, hb3⟩
  have HR3 : Hid (Held w3 (w2.heap.size) (n3 0 K 0)) := hide ((Held.fresh (n3 0 K 0) _ (by first | rfl | (simp; done))).later hb3)
  have HB3 := hide (show Below w.heap.size w w3 from (by have := (unhide HB2).size; exact Below.trans (by (repeat' (first | exact Below.refl _ _ | refine Below.alloc ?_ ?_ _ | refine Below.setCell ?_ ?_ _ | refine Below.drew ?_ | refine Below.trans ?_ (Below.mono (unhide HB2) ?_))); all_goals (first | exact Nat.le_refl _ | omega | (simp; done) | (simp; omega))) (hb3.mono (by first | omega | (simp; done) | (simp; omega)))))
  clear hb3
  obtain ⟨r0, r1, r2⟩ := (unhide HR3).c3.1
  have rl := (unhide HR3).2
  go_wp2_with fail
  refine (unhide CU _).mono ?_
  rintro e w4 ⟨rfl, hb4⟩
  clear r0 r1 r2 rl
  have HR4 := hide (((unhide HR3).later (by (repeat' (first | exact Below.refl _ _ | refine Below.alloc ?_ ?_ _ | refine Below.setCell ?_ ?_ _ | refine Below.drew ?_)); all_goals (first | exact Nat.le_refl _ | omega | (simp; done) | (simp; omega)))).later hb4)
  have HT4 : Hid (Held w4 (w3.heap.size) (n4 0 0 0 0)) := hide ((Held.fresh (n4 0 0 0 0) _ (by first | rfl | (simp; done))).later hb4)
  have HB4 := hide (show Below w.heap.size w w4 from (by have := (unhide HB3).size; exact Below.trans (by (repeat' (first | exact Below.refl _ _ | refine Below.alloc ?_ ?_ _ | refine Below.setCell ?_ ?_ _ | refine Below.drew ?_ | refine Below.trans ?_ (Below.mono (unhide HB3) ?_))); all_goals (first | exact Nat.le_refl _ | omega | (simp; done) | (simp; omega))) (hb4.mono (by first | omega | (simp; done) | (simp; omega)))))
  clear hb4
  go_upto_region 9 with fail
  have HU5 : Hid (Held (w4.alloc (.cells #[.int .i64 0, .int .i64 0, .int .i64 0, .int .i64 0] 44)) w4.heap.size (n4 0 0 0 0)) := hide (Held.fresh (w := w4) (n4 0 0 0 0) 44 rfl)
  have HR5 : Hid (Held (w4.alloc (.cells #[.int .i64 0, .int .i64 0, .int .i64 0, .int .i64 0] 44)) _ _) := hide ((unhide HR4).later (by (repeat' (first | exact Below.refl _ _ | refine Below.alloc ?_ ?_ _ | refine Below.setCell ?_ ?_ _ | refine Below.drew ?_)); all_goals (first | exact Nat.le_refl _ | omega | (simp; done) | (simp; omega))))
  have HT5 : Hid (Held (w4.alloc (.cells #[.int .i64 0, .int .i64 0, .int .i64 0, .int .i64 0] 44)) _ _) := hide ((unhide HT4).later (by (repeat' (first | exact Below.refl _ _ | refine Below.alloc ?_ ?_ _ | refine Below.setCell ?_ ?_ _ | refine Below.drew ?_)); all_goals (first | exact Nat.le_refl _ | omega | (simp; done) | (simp; omega))))
  have HB5 : Hid (Below w.heap.size w (w4.alloc (.cells #[.int .i64 0, .int .i64 0, .int .i64 0, .int .i64 0] 44))) := hide (by have := (unhide HB4).size; exact (by (repeat' (first | exact Below.refl _ _ | refine Below.alloc ?_ ?_ _ | refine Below.setCell ?_ ?_ _ | refine Below.drew ?_ | refine Below.trans ?_ (Below.mono (unhide HB4) ?_))); all_goals (first | exact Nat.le_refl _ | omega | (simp; done) | (simp; omega))))
  have z1 : w.heap.size ≤ w2.heap.size := (unhide HB2).size
  have z2 : w2.heap.size < w3.heap.size := (unhide HR3).2
  have z3 : w3.heap.size < w4.heap.size := (unhide HT4).2
  generalize (w4.alloc (.cells #[.int .i64 0, .int .i64 0, .int .i64 0, .int .i64 0] 44)) = w5 at HU5 HR5 HT5 HB5 ⊢
  clear HR3 HR4 HT4 HB1 HB2 HB3 HB4
  go_wp2
  go_loopw [18] (fun i wr => ∃ (k key old : Int), 0 ≤ k ∧ k ≤ 8 ∧ i = .int .i64 k ∧ Hid (RingM.err k key old = 0) ∧ Hid (k = 0 → key = K) ∧ Hid (Held wr w2.heap.size (n3 k key old)) ∧ Hid (Held wr w3.heap.size (n4 0 0 0 0)) ∧ Hid (Held wr w4.heap.size (n4 0 0 0 0)) ∧ Hid (Below w.heap.size w wr)) (fun i _ => 8 - (intOf i).toNat)
  case atStart => exact ⟨0, K, 0, by omega, by omega, rfl, hr, hide (fun _ => rfl), HR5, HT5, HU5, HB5⟩
  case round =>
    clear HR5 HT5 HU5 HB5
    obtain ⟨k, key, old, hk0, hk8, rfl, HE, HK, HR9, HT9, HU9, HB9⟩ := hrel
    by_cases hkt : k < turns
    · by_cases hkl : k < 8
      · by_cases h0 : k = 0
        · subst h0
          obtain rfl : key = K := unhide HK rfl
          have CT := hide (fun W => rturn_yes (ep := 0) (key := key) (old := old) W (RingM.turn_zero.2 ⟨unhide HE, by omega⟩))
          rw [show (0 : Int) + 1 = 1 from rfl] at CT
          have HE1 : Hid (RingM.err 1 (TagM.tag key [1]) key = 0) := hide (RingM.err_zero.2 ⟨by omega, TagM.tag_bd _ _, (RingM.err_zero.1 (unhide HE)).2.1, by omega⟩)
          generalize TagM.tag key [1] = k1 at CT HE1
          have hl9 := (unhide HU9).2
          obtain ⟨r0, r1, r2⟩ := (unhide HR9).c3.1
          have rl := (unhide HR9).2
          go_wp2_with fail
          refine (unhide CT _).mono ?_
          rintro e w10 ⟨rfl, hb10⟩
          clear r0 r1 r2 rl
          have HR10 := hide (((unhide HR9).later (by (repeat' (first | exact Below.refl _ _ | refine Below.alloc ?_ ?_ _ | refine Below.setCell ?_ ?_ _ | refine Below.drew ?_)); all_goals (first | exact Nat.le_refl _ | omega | (simp; done) | (simp; omega)))).later hb10)
          have HT10 := hide (((unhide HT9).later (by (repeat' (first | exact Below.refl _ _ | refine Below.alloc ?_ ?_ _ | refine Below.setCell ?_ ?_ _ | refine Below.drew ?_)); all_goals (first | exact Nat.le_refl _ | omega | (simp; done) | (simp; omega)))).later hb10)
          have HU10 := hide (((unhide HU9).later (by (repeat' (first | exact Below.refl _ _ | refine Below.alloc ?_ ?_ _ | refine Below.setCell ?_ ?_ _ | refine Below.drew ?_)); all_goals (first | exact Nat.le_refl _ | omega | (simp; done) | (simp; omega)))).later hb10)
          have HB10 := hide (show Below w.heap.size w w10 from (by have := (unhide HB9).size; exact Below.trans (by (repeat' (first | exact Below.refl _ _ | refine Below.alloc ?_ ?_ _ | refine Below.setCell ?_ ?_ _ | refine Below.drew ?_ | refine Below.trans ?_ (Below.mono (unhide HB9) ?_))); all_goals (first | exact Nat.le_refl _ | omega | (simp; done) | (simp; omega))) (hb10.mono (by first | omega | (simp; done) | (simp; omega)))))
          clear hb10
          go_upto_region 15 with fail
          have HR11 : Hid (Held (w10.alloc (.cells #[.int .i64 1, .int .i64 k1, .int .i64 key] 40)) _ _) := hide ((unhide HR10).later (by (repeat' (first | exact Below.refl _ _ | refine Below.alloc ?_ ?_ _ | refine Below.setCell ?_ ?_ _ | refine Below.drew ?_)); all_goals (first | exact Nat.le_refl _ | omega | (simp; done) | (simp; omega))))
          have HT11 : Hid (Held (w10.alloc (.cells #[.int .i64 1, .int .i64 k1, .int .i64 key] 40)) _ _) := hide ((unhide HT10).later (by (repeat' (first | exact Below.refl _ _ | refine Below.alloc ?_ ?_ _ | refine Below.setCell ?_ ?_ _ | refine Below.drew ?_)); all_goals (first | exact Nat.le_refl _ | omega | (simp; done) | (simp; omega))))
          have HU11 : Hid (Held (w10.alloc (.cells #[.int .i64 1, .int .i64 k1, .int .i64 key] 40)) _ _) := hide ((unhide HU10).later (by (repeat' (first | exact Below.refl _ _ | refine Below.alloc ?_ ?_ _ | refine Below.setCell ?_ ?_ _ | refine Below.drew ?_)); all_goals (first | exact Nat.le_refl _ | omega | (simp; done) | (simp; omega))))
          have HX11 : Hid (Held (w10.alloc (.cells #[.int .i64 1, .int .i64 k1, .int .i64 key] 40)) w10.heap.size (n3 1 k1 key)) := hide (Held.fresh (w := w10) (n3 1 k1 key) 40 rfl)
          have HB11 : Hid (Below w.heap.size w (w10.alloc (.cells #[.int .i64 1, .int .i64 k1, .int .i64 key] 40))) := hide (by have := (unhide HB10).size; exact (by (repeat' (first | exact Below.refl _ _ | refine Below.alloc ?_ ?_ _ | refine Below.setCell ?_ ?_ _ | refine Below.drew ?_ | refine Below.trans ?_ (Below.mono (unhide HB10) ?_))); all_goals (first | exact Nat.le_refl _ | omega | (simp; done) | (simp; omega))))
          have z10 : w4.heap.size < w10.heap.size := (unhide HU10).2
          generalize (w10.alloc (.cells #[.int .i64 1, .int .i64 k1, .int .i64 key] 40)) = w11 at HX11 HR11 HT11 HU11 HB11 ⊢
          obtain ⟨r0, r1, r2⟩ := (unhide HR11).c3.1
          obtain ⟨rf0, rf1, rf2⟩ := (unhide HR11).c3.2
          have rl := (unhide HR11).2
          obtain ⟨x0, x1, x2⟩ := (unhide HX11).c3.1
          have xl := (unhide HX11).2
          go_upto_region 16 with fail
          clear r0 r1 r2 rf0 rf1 rf2 rl x0 x1 x2 xl
          have HR12 : Hid (Held (((w11.setCell ⟨w2.heap.size, 0, none⟩ (.int .i64 1)).setCell ⟨w2.heap.size, 1, none⟩ (.int .i64 k1)).setCell ⟨w2.heap.size, 2, none⟩ (.int .i64 key)) (w2.heap.size) (n3 1 k1 key)) := hide ((((unhide HR11).put 0 (.int .i64 1)).put 1 (.int .i64 k1)).put 2 (.int .i64 key))
          have HT12 := hide ((((unhide HT11).far (c := w2.heap.size) (by have := (unhide HB11).size; omega) 0 (.int .i64 1)).far (c := w2.heap.size) (by have := (unhide HB11).size; omega) 1 (.int .i64 k1)).far (c := w2.heap.size) (by have := (unhide HB11).size; omega) 2 (.int .i64 key))
          have HU12 := hide ((((unhide HU11).far (c := w2.heap.size) (by have := (unhide HB11).size; omega) 0 (.int .i64 1)).far (c := w2.heap.size) (by have := (unhide HB11).size; omega) 1 (.int .i64 k1)).far (c := w2.heap.size) (by have := (unhide HB11).size; omega) 2 (.int .i64 key))
          have HX12 := hide ((((unhide HX11).far (c := w2.heap.size) (by have := (unhide HB11).size; omega) 0 (.int .i64 1)).far (c := w2.heap.size) (by have := (unhide HB11).size; omega) 1 (.int .i64 k1)).far (c := w2.heap.size) (by have := (unhide HB11).size; omega) 2 (.int .i64 key))
          have HB12 : Hid (Below w.heap.size w (((w11.setCell ⟨w2.heap.size, 0, none⟩ (.int .i64 1)).setCell ⟨w2.heap.size, 1, none⟩ (.int .i64 k1)).setCell ⟨w2.heap.size, 2, none⟩ (.int .i64 key))) := hide (by have := (unhide HB11).size; exact (by (repeat' (first | exact Below.refl _ _ | refine Below.alloc ?_ ?_ _ | refine Below.setCell ?_ ?_ _ | refine Below.drew ?_ | refine Below.trans ?_ (Below.mono (unhide HB11) ?_))); all_goals (first | exact Nat.le_refl _ | omega | (simp; done) | (simp; omega))))
          generalize (((w11.setCell ⟨w2.heap.size, 0, none⟩ (.int .i64 1)).setCell ⟨w2.heap.size, 1, none⟩ (.int .i64 k1)).setCell ⟨w2.heap.size, 2, none⟩ (.int .i64 key)) = w12 at HR12 HT12 HU12 HX12 HB12 ⊢
          go_wp2
          go_roundw
          case rel => exact ⟨1, k1, key, by omega, by omega, by go_num, HE1, hide (fun h => absurd h (by omega)), HR12, HT12, HU12, HB12⟩
          case measure => first | (simp [intOf]; done) | (simp [intOf]; omega)
        · have h1 : 0 < k := by omega
          have h2 : (k == 0) = false := beq_no h0
          have CT := hide (fun W => rturn_yes W (RingM.turn_zero.2 ⟨unhide HE, by omega⟩))
          have HE1 : Hid (RingM.err (k + 1) (TagM.tag key [k + 1]) key = 0) := hide (RingM.err_zero.2 ⟨by omega, TagM.tag_bd _ _, (RingM.err_zero.1 (unhide HE)).2.1, by omega⟩)
          generalize TagM.tag key [k + 1] = k1 at CT HE1
          have hl9 := (unhide HU9).2
          obtain ⟨r0, r1, r2⟩ := (unhide HR9).c3.1
          have rl := (unhide HR9).2
          go_wp2_with fail
          refine (unhide CT _).mono ?_
          rintro e w10 ⟨rfl, hb10⟩
          clear r0 r1 r2 rl
          have HR10 := hide (((unhide HR9).later (by (repeat' (first | exact Below.refl _ _ | refine Below.alloc ?_ ?_ _ | refine Below.setCell ?_ ?_ _ | refine Below.drew ?_)); all_goals (first | exact Nat.le_refl _ | omega | (simp; done) | (simp; omega)))).later hb10)
          have HT10 := hide (((unhide HT9).later (by (repeat' (first | exact Below.refl _ _ | refine Below.alloc ?_ ?_ _ | refine Below.setCell ?_ ?_ _ | refine Below.drew ?_)); all_goals (first | exact Nat.le_refl _ | omega | (simp; done) | (simp; omega)))).later hb10)
          have HU10 := hide (((unhide HU9).later (by (repeat' (first | exact Below.refl _ _ | refine Below.alloc ?_ ?_ _ | refine Below.setCell ?_ ?_ _ | refine Below.drew ?_)); all_goals (first | exact Nat.le_refl _ | omega | (simp; done) | (simp; omega)))).later hb10)
          have HB10 := hide (show Below w.heap.size w w10 from (by have := (unhide HB9).size; exact Below.trans (by (repeat' (first | exact Below.refl _ _ | refine Below.alloc ?_ ?_ _ | refine Below.setCell ?_ ?_ _ | refine Below.drew ?_ | refine Below.trans ?_ (Below.mono (unhide HB9) ?_))); all_goals (first | exact Nat.le_refl _ | omega | (simp; done) | (simp; omega))) (hb10.mono (by first | omega | (simp; done) | (simp; omega)))))
          clear hb10
          go_upto_region 15 with fail
          have HR11 : Hid (Held (w10.alloc (.cells #[.int .i64 (k + 1), .int .i64 k1, .int .i64 key] 40)) _ _) := hide ((unhide HR10).later (by (repeat' (first | exact Below.refl _ _ | refine Below.alloc ?_ ?_ _ | refine Below.setCell ?_ ?_ _ | refine Below.drew ?_)); all_goals (first | exact Nat.le_refl _ | omega | (simp; done) | (simp; omega))))
          have HT11 : Hid (Held (w10.alloc (.cells #[.int .i64 (k + 1), .int .i64 k1, .int .i64 key] 40)) _ _) := hide ((unhide HT10).later (by (repeat' (first | exact Below.refl _ _ | refine Below.alloc ?_ ?_ _ | refine Below.setCell ?_ ?_ _ | refine Below.drew ?_)); all_goals (first | exact Nat.le_refl _ | omega | (simp; done) | (simp; omega))))
          have HU11 : Hid (Held (w10.alloc (.cells #[.int .i64 (k + 1), .int .i64 k1, .int .i64 key] 40)) _ _) := hide ((unhide HU10).later (by (repeat' (first | exact Below.refl _ _ | refine Below.alloc ?_ ?_ _ | refine Below.setCell ?_ ?_ _ | refine Below.drew ?_)); all_goals (first | exact Nat.le_refl _ | omega | (simp; done) | (simp; omega))))
          have HX11 : Hid (Held (w10.alloc (.cells #[.int .i64 (k + 1), .int .i64 k1, .int .i64 key] 40)) w10.heap.size (n3 (k + 1) k1 key)) := hide (Held.fresh (w := w10) (n3 (k + 1) k1 key) 40 rfl)
          have HB11 : Hid (Below w.heap.size w (w10.alloc (.cells #[.int .i64 (k + 1), .int .i64 k1, .int .i64 key] 40))) := hide (by have := (unhide HB10).size; exact (by (repeat' (first | exact Below.refl _ _ | refine Below.alloc ?_ ?_ _ | refine Below.setCell ?_ ?_ _ | refine Below.drew ?_ | refine Below.trans ?_ (Below.mono (unhide HB10) ?_))); all_goals (first | exact Nat.le_refl _ | omega | (simp; done) | (simp; omega))))
          have z10 : w4.heap.size < w10.heap.size := (unhide HU10).2
          generalize (w10.alloc (.cells #[.int .i64 (k + 1), .int .i64 k1, .int .i64 key] 40)) = w11 at HX11 HR11 HT11 HU11 HB11 ⊢
          obtain ⟨r0, r1, r2⟩ := (unhide HR11).c3.1
          obtain ⟨rf0, rf1, rf2⟩ := (unhide HR11).c3.2
          have rl := (unhide HR11).2
          obtain ⟨x0, x1, x2⟩ := (unhide HX11).c3.1
          have xl := (unhide HX11).2
          go_upto_region 16 with fail
          clear r0 r1 r2 rf0 rf1 rf2 rl x0 x1 x2 xl
          have HR12 : Hid (Held (((w11.setCell ⟨w2.heap.size, 0, none⟩ (.int .i64 (k + 1))).setCell ⟨w2.heap.size, 1, none⟩ (.int .i64 k1)).setCell ⟨w2.heap.size, 2, none⟩ (.int .i64 key)) (w2.heap.size) (n3 (k + 1) k1 key)) := hide ((((unhide HR11).put 0 (.int .i64 (k + 1))).put 1 (.int .i64 k1)).put 2 (.int .i64 key))
          have HT12 := hide ((((unhide HT11).far (c := w2.heap.size) (by have := (unhide HB11).size; omega) 0 (.int .i64 (k + 1))).far (c := w2.heap.size) (by have := (unhide HB11).size; omega) 1 (.int .i64 k1)).far (c := w2.heap.size) (by have := (unhide HB11).size; omega) 2 (.int .i64 key))
          have HU12 := hide ((((unhide HU11).far (c := w2.heap.size) (by have := (unhide HB11).size; omega) 0 (.int .i64 (k + 1))).far (c := w2.heap.size) (by have := (unhide HB11).size; omega) 1 (.int .i64 k1)).far (c := w2.heap.size) (by have := (unhide HB11).size; omega) 2 (.int .i64 key))
          have HX12 := hide ((((unhide HX11).far (c := w2.heap.size) (by have := (unhide HB11).size; omega) 0 (.int .i64 (k + 1))).far (c := w2.heap.size) (by have := (unhide HB11).size; omega) 1 (.int .i64 k1)).far (c := w2.heap.size) (by have := (unhide HB11).size; omega) 2 (.int .i64 key))
          have HB12 : Hid (Below w.heap.size w (((w11.setCell ⟨w2.heap.size, 0, none⟩ (.int .i64 (k + 1))).setCell ⟨w2.heap.size, 1, none⟩ (.int .i64 k1)).setCell ⟨w2.heap.size, 2, none⟩ (.int .i64 key))) := hide (by have := (unhide HB11).size; exact (by (repeat' (first | exact Below.refl _ _ | refine Below.alloc ?_ ?_ _ | refine Below.setCell ?_ ?_ _ | refine Below.drew ?_ | refine Below.trans ?_ (Below.mono (unhide HB11) ?_))); all_goals (first | exact Nat.le_refl _ | omega | (simp; done) | (simp; omega))))
          generalize (((w11.setCell ⟨w2.heap.size, 0, none⟩ (.int .i64 (k + 1))).setCell ⟨w2.heap.size, 1, none⟩ (.int .i64 k1)).setCell ⟨w2.heap.size, 2, none⟩ (.int .i64 key)) = w12 at HR12 HT12 HU12 HX12 HB12 ⊢
          go_wp2
          go_roundw
          case rel => exact ⟨(k + 1), k1, key, by omega, by omega, by go_num, HE1, hide (fun h => absurd h (by omega)), HR12, HT12, HU12, HB12⟩
          case measure => first | (simp [intOf]; done) | (simp [intOf]; omega)
      · go_wp2
        go_ret
        exact ⟨rfl, (by have := (unhide HB9).size; exact (by (repeat' (first | exact Below.refl _ _ | refine Below.alloc ?_ ?_ _ | refine Below.setCell ?_ ?_ _ | refine Below.drew ?_ | refine Below.trans ?_ (Below.mono (unhide HB9) ?_))); all_goals (first | exact Nat.le_refl _ | omega | (simp; done) | (simp; omega))))⟩
    · go_wp2
      go_ret
      exact ⟨rfl, (by have := (unhide HB9).size; exact (by (repeat' (first | exact Below.refl _ _ | refine Below.alloc ?_ ?_ _ | refine Below.setCell ?_ ?_ _ | refine Below.drew ?_ | refine Below.trans ?_ (Below.mono (unhide HB9) ?_))); all_goals (first | exact Nat.le_refl _ | omega | (simp; done) | (simp; omega))))⟩

set_option maxHeartbeats 12800000 in
set_option maxRecDepth 8000 in
theorem turned_no_z0 (seed turns a K m1 : Int) (w : World) (HG : Hid (ErrType w)) (CN : Hid (∀ W : World, Calls Tryd.prog 23 #[.int .i64 seed] W fun e w' => e = .returned (.tuple #[.agg #[.int .i64 0, .int .i64 K, .int .i64 0], .nilIface]) ∧ Below W.heap.size W w')) (hr : Hid (RingM.err 0 K 0 = 0)) (CM : Hid (∀ W : World, Calls Tryd.prog 24 #[.agg #[.int .i64 0, .int .i64 K, .int .i64 0], .int .i64 a, .int .i64 0] W fun e w' => e = .returned (.tuple #[.agg #[.int .i64 0, .int .i64 0, .int .i64 0, .int .i64 0], .iface 71 (.int .i64 m1)]) ∧ Below W.heap.size W w')) (CU : Hid (∀ W : World, Calls Tryd.prog 25 #[.agg #[.int .i64 0, .int .i64 K, .int .i64 0], .int .i64 0, .int .i64 0] W fun e w' => e = .returned (.tuple #[.agg #[.int .i64 0, .int .i64 0, .int .i64 0, .int .i64 0], .nilIface]) ∧ Below W.heap.size W w')) (CS : Hid (∀ W : World, ErrType W → Calls Tryd.prog 10 #[.iface 71 (.int .i64 9), .int .i64 9] W fun e w' => e = .returned (.bool true) ∧ Below W.heap.size W w')) (CK0 : Hid (∀ k1 : Int, RingM.err 1 k1 K = 0 → ∀ W : World, Calls Tryd.prog 28 #[.agg #[.int .i64 1, .int .i64 k1, .int .i64 K], .agg #[.int .i64 0, .int .i64 0, .int .i64 0, .int .i64 0], .int .i64 0] W fun e w' => e = .returned (.nilIface) ∧ Below W.heap.size W w')) (CK1 : Hid (∀ k k1 k0 : Int, 0 < k → RingM.err (k + 1) k1 k0 = 0 → ∀ W : World, Calls Tryd.prog 28 #[.agg #[.int .i64 (k + 1), .int .i64 k1, .int .i64 k0], .agg #[.int .i64 0, .int .i64 0, .int .i64 0, .int .i64 0], .int .i64 0] W fun e w' => e = .returned (.iface 71 (.int .i64 9)) ∧ Below W.heap.size W w')) (CO0 : Hid (∀ k1 : Int, RingM.err 1 k1 K = 0 → ∀ W : World, Calls Tryd.prog 19 #[.agg #[.int .i64 1, .int .i64 k1, .int .i64 K], .agg #[.int .i64 0, .int .i64 0, .int .i64 0, .int .i64 0], .int .i64 0] W fun e w' => e = .returned (.tuple #[.bool false, .nilIface]) ∧ Below W.heap.size W w')) (CO1 : Hid (∀ k k1 k0 : Int, 0 < k → RingM.err (k + 1) k1 k0 = 0 → ∀ W : World, Calls Tryd.prog 19 #[.agg #[.int .i64 (k + 1), .int .i64 k1, .int .i64 k0], .agg #[.int .i64 0, .int .i64 0, .int .i64 0, .int .i64 0], .int .i64 0] W fun e w' => e = .returned (.tuple #[.bool false, .nilIface]) ∧ Below W.heap.size W w')) :
    Calls Tryd.prog 5 #[.int .i64 seed, .int .i64 turns, .int .i64 a, .int .i64 0, .int .i64 0] w fun e w' => e = .returned (.bool true) ∧ Below w.heap.size w w' := by
  go_enter Tryd.func5, Tryd.ntmps5
  go_wp2_with fail
  refine (one_true _).mono ?_
  rintro e w1 ⟨rfl, hb1⟩
  have HB1 := hide (show Below w.heap.size w w1 from Below.trans (by (repeat' (first | exact Below.refl _ _ | refine Below.alloc ?_ ?_ _ | refine Below.setCell ?_ ?_ _ | refine Below.drew ?_)); all_goals (first | exact Nat.le_refl _ | omega | (simp; done) | (simp; omega))) (hb1.mono (by first | exact Nat.le_refl _ | (simp; done) | (simp; omega))))
  clear hb1
  go_wp2_with fail
  refine (unhide CN _).mono ?_
  rintro e w2 ⟨rfl, hb2⟩
  have HB2 := hide (show Below w.heap.size w w2 from (by have := (unhide HB1).size; exact Below.trans (by (repeat' (first | exact Below.refl _ _ | refine Below.alloc ?_ ?_ _ | refine Below.setCell ?_ ?_ _ | refine Below.drew ?_ | refine Below.trans ?_ (Below.mono (unhide HB1) ?_))); all_goals (first | exact Nat.le_refl _ | omega | (simp; done) | (simp; omega))) (hb2.mono (by first | omega | (simp; done) | (simp; omega)))))
  clear hb2
  go_wp2_with fail
  refine (unhide CM _).mono ?_
  rintro e w3 ⟨rfl, hb3⟩
  have HR3 : Hid (Held w3 (w2.heap.size) (n3 0 K 0)) := hide ((Held.fresh (n3 0 K 0) _ (by first | rfl | (simp; done))).later hb3)
  have HB3 := hide (show Below w.heap.size w w3 from (by have := (unhide HB2).size; exact Below.trans (by (repeat' (first | exact Below.refl _ _ | refine Below.alloc ?_ ?_ _ | refine Below.setCell ?_ ?_ _ | refine Below.drew ?_ | refine Below.trans ?_ (Below.mono (unhide HB2) ?_))); all_goals (first | exact Nat.le_refl _ | omega | (simp; done) | (simp; omega))) (hb3.mono (by first | omega | (simp; done) | (simp; omega)))))
  clear hb3
  obtain ⟨r0, r1, r2⟩ := (unhide HR3).c3.1
  have rl := (unhide HR3).2
  go_wp2_with fail
  refine (unhide CU _).mono ?_
  rintro e w4 ⟨rfl, hb4⟩
  clear r0 r1 r2 rl
  have HR4 := hide (((unhide HR3).later (by (repeat' (first | exact Below.refl _ _ | refine Below.alloc ?_ ?_ _ | refine Below.setCell ?_ ?_ _ | refine Below.drew ?_)); all_goals (first | exact Nat.le_refl _ | omega | (simp; done) | (simp; omega)))).later hb4)
  have HT4 : Hid (Held w4 (w3.heap.size) (n4 0 0 0 0)) := hide ((Held.fresh (n4 0 0 0 0) _ (by first | rfl | (simp; done))).later hb4)
  have HB4 := hide (show Below w.heap.size w w4 from (by have := (unhide HB3).size; exact Below.trans (by (repeat' (first | exact Below.refl _ _ | refine Below.alloc ?_ ?_ _ | refine Below.setCell ?_ ?_ _ | refine Below.drew ?_ | refine Below.trans ?_ (Below.mono (unhide HB3) ?_))); all_goals (first | exact Nat.le_refl _ | omega | (simp; done) | (simp; omega))) (hb4.mono (by first | omega | (simp; done) | (simp; omega)))))
  clear hb4
  go_upto_region 9 with fail
  have HU5 : Hid (Held (w4.alloc (.cells #[.int .i64 0, .int .i64 0, .int .i64 0, .int .i64 0] 44)) w4.heap.size (n4 0 0 0 0)) := hide (Held.fresh (w := w4) (n4 0 0 0 0) 44 rfl)
  have HR5 : Hid (Held (w4.alloc (.cells #[.int .i64 0, .int .i64 0, .int .i64 0, .int .i64 0] 44)) _ _) := hide ((unhide HR4).later (by (repeat' (first | exact Below.refl _ _ | refine Below.alloc ?_ ?_ _ | refine Below.setCell ?_ ?_ _ | refine Below.drew ?_)); all_goals (first | exact Nat.le_refl _ | omega | (simp; done) | (simp; omega))))
  have HT5 : Hid (Held (w4.alloc (.cells #[.int .i64 0, .int .i64 0, .int .i64 0, .int .i64 0] 44)) _ _) := hide ((unhide HT4).later (by (repeat' (first | exact Below.refl _ _ | refine Below.alloc ?_ ?_ _ | refine Below.setCell ?_ ?_ _ | refine Below.drew ?_)); all_goals (first | exact Nat.le_refl _ | omega | (simp; done) | (simp; omega))))
  have HB5 : Hid (Below w.heap.size w (w4.alloc (.cells #[.int .i64 0, .int .i64 0, .int .i64 0, .int .i64 0] 44))) := hide (by have := (unhide HB4).size; exact (by (repeat' (first | exact Below.refl _ _ | refine Below.alloc ?_ ?_ _ | refine Below.setCell ?_ ?_ _ | refine Below.drew ?_ | refine Below.trans ?_ (Below.mono (unhide HB4) ?_))); all_goals (first | exact Nat.le_refl _ | omega | (simp; done) | (simp; omega))))
  have z1 : w.heap.size ≤ w2.heap.size := (unhide HB2).size
  have z2 : w2.heap.size < w3.heap.size := (unhide HR3).2
  have z3 : w3.heap.size < w4.heap.size := (unhide HT4).2
  generalize (w4.alloc (.cells #[.int .i64 0, .int .i64 0, .int .i64 0, .int .i64 0] 44)) = w5 at HU5 HR5 HT5 HB5 ⊢
  clear HR3 HR4 HT4 HB1 HB2 HB3 HB4
  go_wp2
  go_loopw [18] (fun i wr => ∃ (k key old : Int), 0 ≤ k ∧ k ≤ 8 ∧ i = .int .i64 k ∧ Hid (RingM.err k key old = 0) ∧ Hid (k = 0 → key = K) ∧ Hid (Held wr w2.heap.size (n3 k key old)) ∧ Hid (Held wr w3.heap.size (n4 0 0 0 0)) ∧ Hid (Held wr w4.heap.size (n4 0 0 0 0)) ∧ Hid (Below w.heap.size w wr)) (fun i _ => 8 - (intOf i).toNat)
  case atStart => exact ⟨0, K, 0, by omega, by omega, rfl, hr, hide (fun _ => rfl), HR5, HT5, HU5, HB5⟩
  case round =>
    clear HR5 HT5 HU5 HB5
    obtain ⟨k, key, old, hk0, hk8, rfl, HE, HK, HR9, HT9, HU9, HB9⟩ := hrel
    by_cases hkt : k < turns
    · by_cases hkl : k < 8
      · by_cases h0 : k = 0
        · subst h0
          obtain rfl : key = K := unhide HK rfl
          have CT := hide (fun W => rturn_yes (ep := 0) (key := key) (old := old) W (RingM.turn_zero.2 ⟨unhide HE, by omega⟩))
          rw [show (0 : Int) + 1 = 1 from rfl] at CT
          have HE1 : Hid (RingM.err 1 (TagM.tag key [1]) key = 0) := hide (RingM.err_zero.2 ⟨by omega, TagM.tag_bd _ _, (RingM.err_zero.1 (unhide HE)).2.1, by omega⟩)
          generalize TagM.tag key [1] = k1 at CT HE1
          have hl9 := (unhide HU9).2
          obtain ⟨r0, r1, r2⟩ := (unhide HR9).c3.1
          have rl := (unhide HR9).2
          go_wp2_with fail
          refine (unhide CT _).mono ?_
          rintro e w10 ⟨rfl, hb10⟩
          clear r0 r1 r2 rl
          have HR10 := hide (((unhide HR9).later (by (repeat' (first | exact Below.refl _ _ | refine Below.alloc ?_ ?_ _ | refine Below.setCell ?_ ?_ _ | refine Below.drew ?_)); all_goals (first | exact Nat.le_refl _ | omega | (simp; done) | (simp; omega)))).later hb10)
          have HT10 := hide (((unhide HT9).later (by (repeat' (first | exact Below.refl _ _ | refine Below.alloc ?_ ?_ _ | refine Below.setCell ?_ ?_ _ | refine Below.drew ?_)); all_goals (first | exact Nat.le_refl _ | omega | (simp; done) | (simp; omega)))).later hb10)
          have HU10 := hide (((unhide HU9).later (by (repeat' (first | exact Below.refl _ _ | refine Below.alloc ?_ ?_ _ | refine Below.setCell ?_ ?_ _ | refine Below.drew ?_)); all_goals (first | exact Nat.le_refl _ | omega | (simp; done) | (simp; omega)))).later hb10)
          have HB10 := hide (show Below w.heap.size w w10 from (by have := (unhide HB9).size; exact Below.trans (by (repeat' (first | exact Below.refl _ _ | refine Below.alloc ?_ ?_ _ | refine Below.setCell ?_ ?_ _ | refine Below.drew ?_ | refine Below.trans ?_ (Below.mono (unhide HB9) ?_))); all_goals (first | exact Nat.le_refl _ | omega | (simp; done) | (simp; omega))) (hb10.mono (by first | omega | (simp; done) | (simp; omega)))))
          clear hb10
          go_upto_region 15 with fail
          have HR11 : Hid (Held (w10.alloc (.cells #[.int .i64 1, .int .i64 k1, .int .i64 key] 40)) _ _) := hide ((unhide HR10).later (by (repeat' (first | exact Below.refl _ _ | refine Below.alloc ?_ ?_ _ | refine Below.setCell ?_ ?_ _ | refine Below.drew ?_)); all_goals (first | exact Nat.le_refl _ | omega | (simp; done) | (simp; omega))))
          have HT11 : Hid (Held (w10.alloc (.cells #[.int .i64 1, .int .i64 k1, .int .i64 key] 40)) _ _) := hide ((unhide HT10).later (by (repeat' (first | exact Below.refl _ _ | refine Below.alloc ?_ ?_ _ | refine Below.setCell ?_ ?_ _ | refine Below.drew ?_)); all_goals (first | exact Nat.le_refl _ | omega | (simp; done) | (simp; omega))))
          have HU11 : Hid (Held (w10.alloc (.cells #[.int .i64 1, .int .i64 k1, .int .i64 key] 40)) _ _) := hide ((unhide HU10).later (by (repeat' (first | exact Below.refl _ _ | refine Below.alloc ?_ ?_ _ | refine Below.setCell ?_ ?_ _ | refine Below.drew ?_)); all_goals (first | exact Nat.le_refl _ | omega | (simp; done) | (simp; omega))))
          have HX11 : Hid (Held (w10.alloc (.cells #[.int .i64 1, .int .i64 k1, .int .i64 key] 40)) w10.heap.size (n3 1 k1 key)) := hide (Held.fresh (w := w10) (n3 1 k1 key) 40 rfl)
          have HB11 : Hid (Below w.heap.size w (w10.alloc (.cells #[.int .i64 1, .int .i64 k1, .int .i64 key] 40))) := hide (by have := (unhide HB10).size; exact (by (repeat' (first | exact Below.refl _ _ | refine Below.alloc ?_ ?_ _ | refine Below.setCell ?_ ?_ _ | refine Below.drew ?_ | refine Below.trans ?_ (Below.mono (unhide HB10) ?_))); all_goals (first | exact Nat.le_refl _ | omega | (simp; done) | (simp; omega))))
          have z10 : w4.heap.size < w10.heap.size := (unhide HU10).2
          generalize (w10.alloc (.cells #[.int .i64 1, .int .i64 k1, .int .i64 key] 40)) = w11 at HX11 HR11 HT11 HU11 HB11 ⊢
          obtain ⟨r0, r1, r2⟩ := (unhide HR11).c3.1
          obtain ⟨rf0, rf1, rf2⟩ := (unhide HR11).c3.2
          have rl := (unhide HR11).2
          obtain ⟨x0, x1, x2⟩ := (unhide HX11).c3.1
          have xl := (unhide HX11).2
          go_upto_region 16 with fail
          clear r0 r1 r2 rf0 rf1 rf2 rl x0 x1 x2 xl
          have HR12 : Hid (Held (((w11.setCell ⟨w2.heap.size, 0, none⟩ (.int .i64 1)).setCell ⟨w2.heap.size, 1, none⟩ (.int .i64 k1)).setCell ⟨w2.heap.size, 2, none⟩ (.int .i64 key)) (w2.heap.size) (n3 1 k1 key)) := hide ((((unhide HR11).put 0 (.int .i64 1)).put 1 (.int .i64 k1)).put 2 (.int .i64 key))
          have HT12 := hide ((((unhide HT11).far (c := w2.heap.size) (by have := (unhide HB11).size; omega) 0 (.int .i64 1)).far (c := w2.heap.size) (by have := (unhide HB11).size; omega) 1 (.int .i64 k1)).far (c := w2.heap.size) (by have := (unhide HB11).size; omega) 2 (.int .i64 key))
          have HU12 := hide ((((unhide HU11).far (c := w2.heap.size) (by have := (unhide HB11).size; omega) 0 (.int .i64 1)).far (c := w2.heap.size) (by have := (unhide HB11).size; omega) 1 (.int .i64 k1)).far (c := w2.heap.size) (by have := (unhide HB11).size; omega) 2 (.int .i64 key))
          have HX12 := hide ((((unhide HX11).far (c := w2.heap.size) (by have := (unhide HB11).size; omega) 0 (.int .i64 1)).far (c := w2.heap.size) (by have := (unhide HB11).size; omega) 1 (.int .i64 k1)).far (c := w2.heap.size) (by have := (unhide HB11).size; omega) 2 (.int .i64 key))
          have HB12 : Hid (Below w.heap.size w (((w11.setCell ⟨w2.heap.size, 0, none⟩ (.int .i64 1)).setCell ⟨w2.heap.size, 1, none⟩ (.int .i64 k1)).setCell ⟨w2.heap.size, 2, none⟩ (.int .i64 key))) := hide (by have := (unhide HB11).size; exact (by (repeat' (first | exact Below.refl _ _ | refine Below.alloc ?_ ?_ _ | refine Below.setCell ?_ ?_ _ | refine Below.drew ?_ | refine Below.trans ?_ (Below.mono (unhide HB11) ?_))); all_goals (first | exact Nat.le_refl _ | omega | (simp; done) | (simp; omega))))
          generalize (((w11.setCell ⟨w2.heap.size, 0, none⟩ (.int .i64 1)).setCell ⟨w2.heap.size, 1, none⟩ (.int .i64 k1)).setCell ⟨w2.heap.size, 2, none⟩ (.int .i64 key)) = w12 at HR12 HT12 HU12 HX12 HB12 ⊢
          obtain ⟨r0, r1, r2⟩ := (unhide HR12).c3.1
          have rl := (unhide HR12).2
          obtain ⟨u0, u1, u2, u3⟩ := (unhide HU12).c4.1
          have ul := (unhide HU12).2
          go_wp2_with fail
          refine (unhide CK0 _ (unhide HE1) _).mono ?_
          rintro e w13 ⟨rfl, hb13⟩
          clear r0 r1 r2 rl u0 u1 u2 u3 ul
          have HR13 := hide (((unhide HR12).later (by (repeat' (first | exact Below.refl _ _ | refine Below.alloc ?_ ?_ _ | refine Below.setCell ?_ ?_ _ | refine Below.drew ?_)); all_goals (first | exact Nat.le_refl _ | omega | (simp; done) | (simp; omega)))).later hb13)
          have HT13 := hide (((unhide HT12).later (by (repeat' (first | exact Below.refl _ _ | refine Below.alloc ?_ ?_ _ | refine Below.setCell ?_ ?_ _ | refine Below.drew ?_)); all_goals (first | exact Nat.le_refl _ | omega | (simp; done) | (simp; omega)))).later hb13)
          have HU13 := hide (((unhide HU12).later (by (repeat' (first | exact Below.refl _ _ | refine Below.alloc ?_ ?_ _ | refine Below.setCell ?_ ?_ _ | refine Below.drew ?_)); all_goals (first | exact Nat.le_refl _ | omega | (simp; done) | (simp; omega)))).later hb13)
          have HB13 := hide (show Below w.heap.size w w13 from (by have := (unhide HB12).size; exact Below.trans (by (repeat' (first | exact Below.refl _ _ | refine Below.alloc ?_ ?_ _ | refine Below.setCell ?_ ?_ _ | refine Below.drew ?_ | refine Below.trans ?_ (Below.mono (unhide HB12) ?_))); all_goals (first | exact Nat.le_refl _ | omega | (simp; done) | (simp; omega))) (hb13.mono (by first | omega | (simp; done) | (simp; omega)))))
          clear hb13
          obtain ⟨r0, r1, r2⟩ := (unhide HR13).c3.1
          have rl := (unhide HR13).2
          obtain ⟨u0, u1, u2, u3⟩ := (unhide HU13).c4.1
          have ul := (unhide HU13).2
          go_wp2_with fail
          refine (unhide CO0 _ (unhide HE1) _).mono ?_
          rintro e w14 ⟨rfl, hb14⟩
          clear r0 r1 r2 rl u0 u1 u2 u3 ul
          have HR14 := hide (((unhide HR13).later (by (repeat' (first | exact Below.refl _ _ | refine Below.alloc ?_ ?_ _ | refine Below.setCell ?_ ?_ _ | refine Below.drew ?_)); all_goals (first | exact Nat.le_refl _ | omega | (simp; done) | (simp; omega)))).later hb14)
          have HT14 := hide (((unhide HT13).later (by (repeat' (first | exact Below.refl _ _ | refine Below.alloc ?_ ?_ _ | refine Below.setCell ?_ ?_ _ | refine Below.drew ?_)); all_goals (first | exact Nat.le_refl _ | omega | (simp; done) | (simp; omega)))).later hb14)
          have HU14 := hide (((unhide HU13).later (by (repeat' (first | exact Below.refl _ _ | refine Below.alloc ?_ ?_ _ | refine Below.setCell ?_ ?_ _ | refine Below.drew ?_)); all_goals (first | exact Nat.le_refl _ | omega | (simp; done) | (simp; omega)))).later hb14)
          have HN14 : Hid (Held w14 (w13.heap.size) (n4 0 0 0 0)) := hide ((Held.fresh (n4 0 0 0 0) _ (by first | rfl | (simp; done))).later hb14)
          have HB14 := hide (show Below w.heap.size w w14 from (by have := (unhide HB13).size; exact Below.trans (by (repeat' (first | exact Below.refl _ _ | refine Below.alloc ?_ ?_ _ | refine Below.setCell ?_ ?_ _ | refine Below.drew ?_ | refine Below.trans ?_ (Below.mono (unhide HB13) ?_))); all_goals (first | exact Nat.le_refl _ | omega | (simp; done) | (simp; omega))) (hb14.mono (by first | omega | (simp; done) | (simp; omega)))))
          clear hb14
          obtain ⟨u0, u1, u2, u3⟩ := (unhide HU14).c4.1
          have ul := (unhide HU14).2
          obtain ⟨n0, n1, n2, n3⟩ := (unhide HN14).c4.1
          have nl := (unhide HN14).2
          go_wp2
          go_roundw
          case rel => exact ⟨1, k1, key, by omega, by omega, by go_num, HE1, hide (fun h => absurd h (by omega)), HR14, HT14, HU14, HB14⟩
          case measure => first | (simp [intOf]; done) | (simp [intOf]; omega)
        · have h1 : 0 < k := by omega
          have h2 : (k == 0) = false := beq_no h0
          have CT := hide (fun W => rturn_yes W (RingM.turn_zero.2 ⟨unhide HE, by omega⟩))
          have HE1 : Hid (RingM.err (k + 1) (TagM.tag key [k + 1]) key = 0) := hide (RingM.err_zero.2 ⟨by omega, TagM.tag_bd _ _, (RingM.err_zero.1 (unhide HE)).2.1, by omega⟩)
          generalize TagM.tag key [k + 1] = k1 at CT HE1
          have hl9 := (unhide HU9).2
          obtain ⟨r0, r1, r2⟩ := (unhide HR9).c3.1
          have rl := (unhide HR9).2
          go_wp2_with fail
          refine (unhide CT _).mono ?_
          rintro e w10 ⟨rfl, hb10⟩
          clear r0 r1 r2 rl
          have HR10 := hide (((unhide HR9).later (by (repeat' (first | exact Below.refl _ _ | refine Below.alloc ?_ ?_ _ | refine Below.setCell ?_ ?_ _ | refine Below.drew ?_)); all_goals (first | exact Nat.le_refl _ | omega | (simp; done) | (simp; omega)))).later hb10)
          have HT10 := hide (((unhide HT9).later (by (repeat' (first | exact Below.refl _ _ | refine Below.alloc ?_ ?_ _ | refine Below.setCell ?_ ?_ _ | refine Below.drew ?_)); all_goals (first | exact Nat.le_refl _ | omega | (simp; done) | (simp; omega)))).later hb10)
          have HU10 := hide (((unhide HU9).later (by (repeat' (first | exact Below.refl _ _ | refine Below.alloc ?_ ?_ _ | refine Below.setCell ?_ ?_ _ | refine Below.drew ?_)); all_goals (first | exact Nat.le_refl _ | omega | (simp; done) | (simp; omega)))).later hb10)
          have HB10 := hide (show Below w.heap.size w w10 from (by have := (unhide HB9).size; exact Below.trans (by (repeat' (first | exact Below.refl _ _ | refine Below.alloc ?_ ?_ _ | refine Below.setCell ?_ ?_ _ | refine Below.drew ?_ | refine Below.trans ?_ (Below.mono (unhide HB9) ?_))); all_goals (first | exact Nat.le_refl _ | omega | (simp; done) | (simp; omega))) (hb10.mono (by first | omega | (simp; done) | (simp; omega)))))
          clear hb10
          go_upto_region 15 with fail
          have HR11 : Hid (Held (w10.alloc (.cells #[.int .i64 (k + 1), .int .i64 k1, .int .i64 key] 40)) _ _) := hide ((unhide HR10).later (by (repeat' (first | exact Below.refl _ _ | refine Below.alloc ?_ ?_ _ | refine Below.setCell ?_ ?_ _ | refine Below.drew ?_)); all_goals (first | exact Nat.le_refl _ | omega | (simp; done) | (simp; omega))))
          have HT11 : Hid (Held (w10.alloc (.cells #[.int .i64 (k + 1), .int .i64 k1, .int .i64 key] 40)) _ _) := hide ((unhide HT10).later (by (repeat' (first | exact Below.refl _ _ | refine Below.alloc ?_ ?_ _ | refine Below.setCell ?_ ?_ _ | refine Below.drew ?_)); all_goals (first | exact Nat.le_refl _ | omega | (simp; done) | (simp; omega))))
          have HU11 : Hid (Held (w10.alloc (.cells #[.int .i64 (k + 1), .int .i64 k1, .int .i64 key] 40)) _ _) := hide ((unhide HU10).later (by (repeat' (first | exact Below.refl _ _ | refine Below.alloc ?_ ?_ _ | refine Below.setCell ?_ ?_ _ | refine Below.drew ?_)); all_goals (first | exact Nat.le_refl _ | omega | (simp; done) | (simp; omega))))
          have HX11 : Hid (Held (w10.alloc (.cells #[.int .i64 (k + 1), .int .i64 k1, .int .i64 key] 40)) w10.heap.size (n3 (k + 1) k1 key)) := hide (Held.fresh (w := w10) (n3 (k + 1) k1 key) 40 rfl)
          have HB11 : Hid (Below w.heap.size w (w10.alloc (.cells #[.int .i64 (k + 1), .int .i64 k1, .int .i64 key] 40))) := hide (by have := (unhide HB10).size; exact (by (repeat' (first | exact Below.refl _ _ | refine Below.alloc ?_ ?_ _ | refine Below.setCell ?_ ?_ _ | refine Below.drew ?_ | refine Below.trans ?_ (Below.mono (unhide HB10) ?_))); all_goals (first | exact Nat.le_refl _ | omega | (simp; done) | (simp; omega))))
          have z10 : w4.heap.size < w10.heap.size := (unhide HU10).2
          generalize (w10.alloc (.cells #[.int .i64 (k + 1), .int .i64 k1, .int .i64 key] 40)) = w11 at HX11 HR11 HT11 HU11 HB11 ⊢
          obtain ⟨r0, r1, r2⟩ := (unhide HR11).c3.1
          obtain ⟨rf0, rf1, rf2⟩ := (unhide HR11).c3.2
          have rl := (unhide HR11).2
          obtain ⟨x0, x1, x2⟩ := (unhide HX11).c3.1
          have xl := (unhide HX11).2
          go_upto_region 16 with fail
          clear r0 r1 r2 rf0 rf1 rf2 rl x0 x1 x2 xl
          have HR12 : Hid (Held (((w11.setCell ⟨w2.heap.size, 0, none⟩ (.int .i64 (k + 1))).setCell ⟨w2.heap.size, 1, none⟩ (.int .i64 k1)).setCell ⟨w2.heap.size, 2, none⟩ (.int .i64 key)) (w2.heap.size) (n3 (k + 1) k1 key)) := hide ((((unhide HR11).put 0 (.int .i64 (k + 1))).put 1 (.int .i64 k1)).put 2 (.int .i64 key))
          have HT12 := hide ((((unhide HT11).far (c := w2.heap.size) (by have := (unhide HB11).size; omega) 0 (.int .i64 (k + 1))).far (c := w2.heap.size) (by have := (unhide HB11).size; omega) 1 (.int .i64 k1)).far (c := w2.heap.size) (by have := (unhide HB11).size; omega) 2 (.int .i64 key))
          have HU12 := hide ((((unhide HU11).far (c := w2.heap.size) (by have := (unhide HB11).size; omega) 0 (.int .i64 (k + 1))).far (c := w2.heap.size) (by have := (unhide HB11).size; omega) 1 (.int .i64 k1)).far (c := w2.heap.size) (by have := (unhide HB11).size; omega) 2 (.int .i64 key))
          have HX12 := hide ((((unhide HX11).far (c := w2.heap.size) (by have := (unhide HB11).size; omega) 0 (.int .i64 (k + 1))).far (c := w2.heap.size) (by have := (unhide HB11).size; omega) 1 (.int .i64 k1)).far (c := w2.heap.size) (by have := (unhide HB11).size; omega) 2 (.int .i64 key))
          have HB12 : Hid (Below w.heap.size w (((w11.setCell ⟨w2.heap.size, 0, none⟩ (.int .i64 (k + 1))).setCell ⟨w2.heap.size, 1, none⟩ (.int .i64 k1)).setCell ⟨w2.heap.size, 2, none⟩ (.int .i64 key))) := hide (by have := (unhide HB11).size; exact (by (repeat' (first | exact Below.refl _ _ | refine Below.alloc ?_ ?_ _ | refine Below.setCell ?_ ?_ _ | refine Below.drew ?_ | refine Below.trans ?_ (Below.mono (unhide HB11) ?_))); all_goals (first | exact Nat.le_refl _ | omega | (simp; done) | (simp; omega))))
          generalize (((w11.setCell ⟨w2.heap.size, 0, none⟩ (.int .i64 (k + 1))).setCell ⟨w2.heap.size, 1, none⟩ (.int .i64 k1)).setCell ⟨w2.heap.size, 2, none⟩ (.int .i64 key)) = w12 at HR12 HT12 HU12 HX12 HB12 ⊢
          obtain ⟨r0, r1, r2⟩ := (unhide HR12).c3.1
          have rl := (unhide HR12).2
          obtain ⟨u0, u1, u2, u3⟩ := (unhide HU12).c4.1
          have ul := (unhide HU12).2
          go_wp2_with fail
          refine (unhide CK1 _ _ _ h1 (unhide HE1) _).mono ?_
          rintro e w13 ⟨rfl, hb13⟩
          clear r0 r1 r2 rl u0 u1 u2 u3 ul
          have HR13 := hide (((unhide HR12).later (by (repeat' (first | exact Below.refl _ _ | refine Below.alloc ?_ ?_ _ | refine Below.setCell ?_ ?_ _ | refine Below.drew ?_)); all_goals (first | exact Nat.le_refl _ | omega | (simp; done) | (simp; omega)))).later hb13)
          have HT13 := hide (((unhide HT12).later (by (repeat' (first | exact Below.refl _ _ | refine Below.alloc ?_ ?_ _ | refine Below.setCell ?_ ?_ _ | refine Below.drew ?_)); all_goals (first | exact Nat.le_refl _ | omega | (simp; done) | (simp; omega)))).later hb13)
          have HU13 := hide (((unhide HU12).later (by (repeat' (first | exact Below.refl _ _ | refine Below.alloc ?_ ?_ _ | refine Below.setCell ?_ ?_ _ | refine Below.drew ?_)); all_goals (first | exact Nat.le_refl _ | omega | (simp; done) | (simp; omega)))).later hb13)
          have HB13 := hide (show Below w.heap.size w w13 from (by have := (unhide HB12).size; exact Below.trans (by (repeat' (first | exact Below.refl _ _ | refine Below.alloc ?_ ?_ _ | refine Below.setCell ?_ ?_ _ | refine Below.drew ?_ | refine Below.trans ?_ (Below.mono (unhide HB12) ?_))); all_goals (first | exact Nat.le_refl _ | omega | (simp; done) | (simp; omega))) (hb13.mono (by first | omega | (simp; done) | (simp; omega)))))
          clear hb13
          go_wp2_with fail
          refine (unhide CS _ ((unhide HG).later (by have := (unhide HB13).size; exact (by (repeat' (first | exact Below.refl _ _ | refine Below.alloc ?_ ?_ _ | refine Below.setCell ?_ ?_ _ | refine Below.drew ?_ | refine Below.trans ?_ (Below.mono (unhide HB13) ?_))); all_goals (first | exact Nat.le_refl _ | omega | (simp; done) | (simp; omega)))))).mono ?_
          rintro e w14 ⟨rfl, hb14⟩
          have HR14 := hide (((unhide HR13).later (by (repeat' (first | exact Below.refl _ _ | refine Below.alloc ?_ ?_ _ | refine Below.setCell ?_ ?_ _ | refine Below.drew ?_)); all_goals (first | exact Nat.le_refl _ | omega | (simp; done) | (simp; omega)))).later hb14)
          have HT14 := hide (((unhide HT13).later (by (repeat' (first | exact Below.refl _ _ | refine Below.alloc ?_ ?_ _ | refine Below.setCell ?_ ?_ _ | refine Below.drew ?_)); all_goals (first | exact Nat.le_refl _ | omega | (simp; done) | (simp; omega)))).later hb14)
          have HU14 := hide (((unhide HU13).later (by (repeat' (first | exact Below.refl _ _ | refine Below.alloc ?_ ?_ _ | refine Below.setCell ?_ ?_ _ | refine Below.drew ?_)); all_goals (first | exact Nat.le_refl _ | omega | (simp; done) | (simp; omega)))).later hb14)
          have HB14 := hide (show Below w.heap.size w w14 from (by have := (unhide HB13).size; exact Below.trans (by (repeat' (first | exact Below.refl _ _ | refine Below.alloc ?_ ?_ _ | refine Below.setCell ?_ ?_ _ | refine Below.drew ?_ | refine Below.trans ?_ (Below.mono (unhide HB13) ?_))); all_goals (first | exact Nat.le_refl _ | omega | (simp; done) | (simp; omega))) (hb14.mono (by first | omega | (simp; done) | (simp; omega)))))
          clear hb14
          obtain ⟨r0, r1, r2⟩ := (unhide HR14).c3.1
          have rl := (unhide HR14).2
          obtain ⟨u0, u1, u2, u3⟩ := (unhide HU14).c4.1
          have ul := (unhide HU14).2
          go_wp2_with fail
          refine (unhide CO1 _ _ _ h1 (unhide HE1) _).mono ?_
          rintro e w15 ⟨rfl, hb15⟩
          clear r0 r1 r2 rl u0 u1 u2 u3 ul
          have HR15 := hide (((unhide HR14).later (by (repeat' (first | exact Below.refl _ _ | refine Below.alloc ?_ ?_ _ | refine Below.setCell ?_ ?_ _ | refine Below.drew ?_)); all_goals (first | exact Nat.le_refl _ | omega | (simp; done) | (simp; omega)))).later hb15)
          have HT15 := hide (((unhide HT14).later (by (repeat' (first | exact Below.refl _ _ | refine Below.alloc ?_ ?_ _ | refine Below.setCell ?_ ?_ _ | refine Below.drew ?_)); all_goals (first | exact Nat.le_refl _ | omega | (simp; done) | (simp; omega)))).later hb15)
          have HU15 := hide (((unhide HU14).later (by (repeat' (first | exact Below.refl _ _ | refine Below.alloc ?_ ?_ _ | refine Below.setCell ?_ ?_ _ | refine Below.drew ?_)); all_goals (first | exact Nat.le_refl _ | omega | (simp; done) | (simp; omega)))).later hb15)
          have HN15 : Hid (Held w15 (w14.heap.size) (n4 0 0 0 0)) := hide ((Held.fresh (n4 0 0 0 0) _ (by first | rfl | (simp; done))).later hb15)
          have HB15 := hide (show Below w.heap.size w w15 from (by have := (unhide HB14).size; exact Below.trans (by (repeat' (first | exact Below.refl _ _ | refine Below.alloc ?_ ?_ _ | refine Below.setCell ?_ ?_ _ | refine Below.drew ?_ | refine Below.trans ?_ (Below.mono (unhide HB14) ?_))); all_goals (first | exact Nat.le_refl _ | omega | (simp; done) | (simp; omega))) (hb15.mono (by first | omega | (simp; done) | (simp; omega)))))
          clear hb15
          obtain ⟨u0, u1, u2, u3⟩ := (unhide HU15).c4.1
          have ul := (unhide HU15).2
          obtain ⟨n0, n1, n2, n3⟩ := (unhide HN15).c4.1
          have nl := (unhide HN15).2
          go_wp2
          go_roundw
          case rel => exact ⟨(k + 1), k1, key, by omega, by omega, by go_num, HE1, hide (fun h => absurd h (by omega)), HR15, HT15, HU15, HB15⟩
          case measure => first | (simp [intOf]; done) | (simp [intOf]; omega)
      · go_wp2
        go_ret
        exact ⟨rfl, (by have := (unhide HB9).size; exact (by (repeat' (first | exact Below.refl _ _ | refine Below.alloc ?_ ?_ _ | refine Below.setCell ?_ ?_ _ | refine Below.drew ?_ | refine Below.trans ?_ (Below.mono (unhide HB9) ?_))); all_goals (first | exact Nat.le_refl _ | omega | (simp; done) | (simp; omega))))⟩
    · go_wp2
      go_ret
      exact ⟨rfl, (by have := (unhide HB9).size; exact (by (repeat' (first | exact Below.refl _ _ | refine Below.alloc ?_ ?_ _ | refine Below.setCell ?_ ?_ _ | refine Below.drew ?_ | refine Below.trans ?_ (Below.mono (unhide HB9) ?_))); all_goals (first | exact Nat.le_refl _ | omega | (simp; done) | (simp; omega))))⟩

set_option maxHeartbeats 12800000 in
set_option maxRecDepth 8000 in
theorem turned_no_z1 (seed turns a n t K m1 g2 : Int) (w : World) (HG : Hid (ErrType w)) (CN : Hid (∀ W : World, Calls Tryd.prog 23 #[.int .i64 seed] W fun e w' => e = .returned (.tuple #[.agg #[.int .i64 0, .int .i64 K, .int .i64 0], .nilIface]) ∧ Below W.heap.size W w')) (hr : Hid (RingM.err 0 K 0 = 0)) (CM : Hid (∀ W : World, Calls Tryd.prog 24 #[.agg #[.int .i64 0, .int .i64 K, .int .i64 0], .int .i64 a, .int .i64 t] W fun e w' => e = .returned (.tuple #[.agg #[.int .i64 0, .int .i64 0, .int .i64 0, .int .i64 0], .iface 71 (.int .i64 m1)]) ∧ Below W.heap.size W w')) (CU : Hid (∀ W : World, Calls Tryd.prog 25 #[.agg #[.int .i64 0, .int .i64 K, .int .i64 0], .int .i64 n, .int .i64 t] W fun e w' => e = .returned (.tuple #[.agg #[.int .i64 0, .int .i64 n, .int .i64 t, .int .i64 g2], .nilIface]) ∧ Below W.heap.size W w')) (CS : Hid (∀ W : World, ErrType W → Calls Tryd.prog 10 #[.iface 71 (.int .i64 9), .int .i64 9] W fun e w' => e = .returned (.bool true) ∧ Below W.heap.size W w')) (CK0 : Hid (∀ k1 : Int, RingM.err 1 k1 K = 0 → ∀ W : World, Calls Tryd.prog 28 #[.agg #[.int .i64 1, .int .i64 k1, .int .i64 K], .agg #[.int .i64 0, .int .i64 n, .int .i64 t, .int .i64 g2], .int .i64 t] W fun e w' => e = .returned (.nilIface) ∧ Below W.heap.size W w')) (CK1 : Hid (∀ k k1 k0 : Int, 0 < k → RingM.err (k + 1) k1 k0 = 0 → ∀ W : World, Calls Tryd.prog 28 #[.agg #[.int .i64 (k + 1), .int .i64 k1, .int .i64 k0], .agg #[.int .i64 0, .int .i64 n, .int .i64 t, .int .i64 g2], .int .i64 t] W fun e w' => e = .returned (.iface 71 (.int .i64 9)) ∧ Below W.heap.size W w')) (CO0 : Hid (∀ k1 : Int, RingM.err 1 k1 K = 0 → ∀ W : World, Calls Tryd.prog 19 #[.agg #[.int .i64 1, .int .i64 k1, .int .i64 K], .agg #[.int .i64 0, .int .i64 n, .int .i64 t, .int .i64 g2], .int .i64 t] W fun e w' => e = .returned (.tuple #[.bool true, .nilIface]) ∧ Below W.heap.size W w')) (CO1 : Hid (∀ k k1 k0 : Int, 0 < k → RingM.err (k + 1) k1 k0 = 0 → ∀ W : World, Calls Tryd.prog 19 #[.agg #[.int .i64 (k + 1), .int .i64 k1, .int .i64 k0], .agg #[.int .i64 0, .int .i64 n, .int .i64 t, .int .i64 g2], .int .i64 t] W fun e w' => e = .returned (.tuple #[.bool false, .nilIface]) ∧ Below W.heap.size W w')) (hz : ¬ n = 0) :
    Calls Tryd.prog 5 #[.int .i64 seed, .int .i64 turns, .int .i64 a, .int .i64 t, .int .i64 n] w fun e w' => e = .returned (.bool true) ∧ Below w.heap.size w w' := by
  have hz' := beq_no hz
  have HZ := hide (And.intro hz hz')
  clear hz hz'
  go_enter Tryd.func5, Tryd.ntmps5
  go_wp2_with fail
  refine (one_true _).mono ?_
  rintro e w1 ⟨rfl, hb1⟩
  have HB1 := hide (show Below w.heap.size w w1 from Below.trans (by (repeat' (first | exact Below.refl _ _ | refine Below.alloc ?_ ?_ _ | refine Below.setCell ?_ ?_ _ | refine Below.drew ?_)); all_goals (first | exact Nat.le_refl _ | omega | (simp; done) | (simp; omega))) (hb1.mono (by first | exact Nat.le_refl _ | (simp; done) | (simp; omega))))
  clear hb1
  go_wp2_with fail
  refine (unhide CN _).mono ?_
  rintro e w2 ⟨rfl, hb2⟩
  have HB2 := hide (show Below w.heap.size w w2 from (by have := (unhide HB1).size; exact Below.trans (by (repeat' (first | exact Below.refl _ _ | refine Below.alloc ?_ ?_ _ | refine Below.setCell ?_ ?_ _ | refine Below.drew ?_ | refine Below.trans ?_ (Below.mono (unhide HB1) ?_))); all_goals (first | exact Nat.le_refl _ | omega | (simp; done) | (simp; omega))) (hb2.mono (by first | omega | (simp; done) | (simp; omega)))))
  clear hb2
  go_wp2_with fail
  refine (unhide CM _).mono ?_
  rintro e w3 ⟨rfl, hb3⟩
  have HR3 : Hid (Held w3 (w2.heap.size) (n3 0 K 0)) := hide ((Held.fresh (n3 0 K 0) _ (by first | rfl | (simp; done))).later hb3)
  have HB3 := hide (show Below w.heap.size w w3 from (by have := (unhide HB2).size; exact Below.trans (by (repeat' (first | exact Below.refl _ _ | refine Below.alloc ?_ ?_ _ | refine Below.setCell ?_ ?_ _ | refine Below.drew ?_ | refine Below.trans ?_ (Below.mono (unhide HB2) ?_))); all_goals (first | exact Nat.le_refl _ | omega | (simp; done) | (simp; omega))) (hb3.mono (by first | omega | (simp; done) | (simp; omega)))))
  clear hb3
  obtain ⟨r0, r1, r2⟩ := (unhide HR3).c3.1
  have rl := (unhide HR3).2
  go_wp2_with fail
  refine (unhide CU _).mono ?_
  rintro e w4 ⟨rfl, hb4⟩
  clear r0 r1 r2 rl
  have HR4 := hide (((unhide HR3).later (by (repeat' (first | exact Below.refl _ _ | refine Below.alloc ?_ ?_ _ | refine Below.setCell ?_ ?_ _ | refine Below.drew ?_)); all_goals (first | exact Nat.le_refl _ | omega | (simp; done) | (simp; omega)))).later hb4)
  have HT4 : Hid (Held w4 (w3.heap.size) (n4 0 0 0 0)) := hide ((Held.fresh (n4 0 0 0 0) _ (by first | rfl | (simp; done))).later hb4)
  have HB4 := hide (show Below w.heap.size w w4 from (by have := (unhide HB3).size; exact Below.trans (by (repeat' (first | exact Below.refl _ _ | refine Below.alloc ?_ ?_ _ | refine Below.setCell ?_ ?_ _ | refine Below.drew ?_ | refine Below.trans ?_ (Below.mono (unhide HB3) ?_))); all_goals (first | exact Nat.le_refl _ | omega | (simp; done) | (simp; omega))) (hb4.mono (by first | omega | (simp; done) | (simp; omega)))))
  clear hb4
  go_upto_region 9 with fail
  have HU5 : Hid (Held (w4.alloc (.cells #[.int .i64 0, .int .i64 n, .int .i64 t, .int .i64 g2] 44)) w4.heap.size (n4 0 n t g2)) := hide (Held.fresh (w := w4) (n4 0 n t g2) 44 rfl)
  have HR5 : Hid (Held (w4.alloc (.cells #[.int .i64 0, .int .i64 n, .int .i64 t, .int .i64 g2] 44)) _ _) := hide ((unhide HR4).later (by (repeat' (first | exact Below.refl _ _ | refine Below.alloc ?_ ?_ _ | refine Below.setCell ?_ ?_ _ | refine Below.drew ?_)); all_goals (first | exact Nat.le_refl _ | omega | (simp; done) | (simp; omega))))
  have HT5 : Hid (Held (w4.alloc (.cells #[.int .i64 0, .int .i64 n, .int .i64 t, .int .i64 g2] 44)) _ _) := hide ((unhide HT4).later (by (repeat' (first | exact Below.refl _ _ | refine Below.alloc ?_ ?_ _ | refine Below.setCell ?_ ?_ _ | refine Below.drew ?_)); all_goals (first | exact Nat.le_refl _ | omega | (simp; done) | (simp; omega))))
  have HB5 : Hid (Below w.heap.size w (w4.alloc (.cells #[.int .i64 0, .int .i64 n, .int .i64 t, .int .i64 g2] 44))) := hide (by have := (unhide HB4).size; exact (by (repeat' (first | exact Below.refl _ _ | refine Below.alloc ?_ ?_ _ | refine Below.setCell ?_ ?_ _ | refine Below.drew ?_ | refine Below.trans ?_ (Below.mono (unhide HB4) ?_))); all_goals (first | exact Nat.le_refl _ | omega | (simp; done) | (simp; omega))))
  have z1 : w.heap.size ≤ w2.heap.size := (unhide HB2).size
  have z2 : w2.heap.size < w3.heap.size := (unhide HR3).2
  have z3 : w3.heap.size < w4.heap.size := (unhide HT4).2
  generalize (w4.alloc (.cells #[.int .i64 0, .int .i64 n, .int .i64 t, .int .i64 g2] 44)) = w5 at HU5 HR5 HT5 HB5 ⊢
  clear HR3 HR4 HT4 HB1 HB2 HB3 HB4
  go_wp2
  go_loopw [18] (fun i wr => ∃ (k key old : Int), 0 ≤ k ∧ k ≤ 8 ∧ i = .int .i64 k ∧ Hid (RingM.err k key old = 0) ∧ Hid (k = 0 → key = K) ∧ Hid (Held wr w2.heap.size (n3 k key old)) ∧ Hid (Held wr w3.heap.size (n4 0 0 0 0)) ∧ Hid (Held wr w4.heap.size (n4 0 n t g2)) ∧ Hid (Below w.heap.size w wr)) (fun i _ => 8 - (intOf i).toNat)
  case atStart => exact ⟨0, K, 0, by omega, by omega, rfl, hr, hide (fun _ => rfl), HR5, HT5, HU5, HB5⟩
  case round =>
    clear HR5 HT5 HU5 HB5
    obtain ⟨k, key, old, hk0, hk8, rfl, HE, HK, HR9, HT9, HU9, HB9⟩ := hrel
    by_cases hkt : k < turns
    · by_cases hkl : k < 8
      · by_cases h0 : k = 0
        · subst h0
          obtain rfl : key = K := unhide HK rfl
          have CT := hide (fun W => rturn_yes (ep := 0) (key := key) (old := old) W (RingM.turn_zero.2 ⟨unhide HE, by omega⟩))
          rw [show (0 : Int) + 1 = 1 from rfl] at CT
          have HE1 : Hid (RingM.err 1 (TagM.tag key [1]) key = 0) := hide (RingM.err_zero.2 ⟨by omega, TagM.tag_bd _ _, (RingM.err_zero.1 (unhide HE)).2.1, by omega⟩)
          generalize TagM.tag key [1] = k1 at CT HE1
          have hl9 := (unhide HU9).2
          obtain ⟨r0, r1, r2⟩ := (unhide HR9).c3.1
          have rl := (unhide HR9).2
          go_wp2_with fail
          refine (unhide CT _).mono ?_
          rintro e w10 ⟨rfl, hb10⟩
          clear r0 r1 r2 rl
          have HR10 := hide (((unhide HR9).later (by (repeat' (first | exact Below.refl _ _ | refine Below.alloc ?_ ?_ _ | refine Below.setCell ?_ ?_ _ | refine Below.drew ?_)); all_goals (first | exact Nat.le_refl _ | omega | (simp; done) | (simp; omega)))).later hb10)
          have HT10 := hide (((unhide HT9).later (by (repeat' (first | exact Below.refl _ _ | refine Below.alloc ?_ ?_ _ | refine Below.setCell ?_ ?_ _ | refine Below.drew ?_)); all_goals (first | exact Nat.le_refl _ | omega | (simp; done) | (simp; omega)))).later hb10)
          have HU10 := hide (((unhide HU9).later (by (repeat' (first | exact Below.refl _ _ | refine Below.alloc ?_ ?_ _ | refine Below.setCell ?_ ?_ _ | refine Below.drew ?_)); all_goals (first | exact Nat.le_refl _ | omega | (simp; done) | (simp; omega)))).later hb10)
          have HB10 := hide (show Below w.heap.size w w10 from (by have := (unhide HB9).size; exact Below.trans (by (repeat' (first | exact Below.refl _ _ | refine Below.alloc ?_ ?_ _ | refine Below.setCell ?_ ?_ _ | refine Below.drew ?_ | refine Below.trans ?_ (Below.mono (unhide HB9) ?_))); all_goals (first | exact Nat.le_refl _ | omega | (simp; done) | (simp; omega))) (hb10.mono (by first | omega | (simp; done) | (simp; omega)))))
          clear hb10
          go_upto_region 15 with fail
          have HR11 : Hid (Held (w10.alloc (.cells #[.int .i64 1, .int .i64 k1, .int .i64 key] 40)) _ _) := hide ((unhide HR10).later (by (repeat' (first | exact Below.refl _ _ | refine Below.alloc ?_ ?_ _ | refine Below.setCell ?_ ?_ _ | refine Below.drew ?_)); all_goals (first | exact Nat.le_refl _ | omega | (simp; done) | (simp; omega))))
          have HT11 : Hid (Held (w10.alloc (.cells #[.int .i64 1, .int .i64 k1, .int .i64 key] 40)) _ _) := hide ((unhide HT10).later (by (repeat' (first | exact Below.refl _ _ | refine Below.alloc ?_ ?_ _ | refine Below.setCell ?_ ?_ _ | refine Below.drew ?_)); all_goals (first | exact Nat.le_refl _ | omega | (simp; done) | (simp; omega))))
          have HU11 : Hid (Held (w10.alloc (.cells #[.int .i64 1, .int .i64 k1, .int .i64 key] 40)) _ _) := hide ((unhide HU10).later (by (repeat' (first | exact Below.refl _ _ | refine Below.alloc ?_ ?_ _ | refine Below.setCell ?_ ?_ _ | refine Below.drew ?_)); all_goals (first | exact Nat.le_refl _ | omega | (simp; done) | (simp; omega))))
          have HX11 : Hid (Held (w10.alloc (.cells #[.int .i64 1, .int .i64 k1, .int .i64 key] 40)) w10.heap.size (n3 1 k1 key)) := hide (Held.fresh (w := w10) (n3 1 k1 key) 40 rfl)
          have HB11 : Hid (Below w.heap.size w (w10.alloc (.cells #[.int .i64 1, .int .i64 k1, .int .i64 key] 40))) := hide (by have := (unhide HB10).size; exact (by (repeat' (first | exact Below.refl _ _ | refine Below.alloc ?_ ?_ _ | refine Below.setCell ?_ ?_ _ | refine Below.drew ?_ | refine Below.trans ?_ (Below.mono (unhide HB10) ?_))); all_goals (first | exact Nat.le_refl _ | omega | (simp; done) | (simp; omega))))
          have z10 : w4.heap.size < w10.heap.size := (unhide HU10).2
          generalize (w10.alloc (.cells #[.int .i64 1, .int .i64 k1, .int .i64 key] 40)) = w11 at HX11 HR11 HT11 HU11 HB11 ⊢
          obtain ⟨r0, r1, r2⟩ := (unhide HR11).c3.1
          obtain ⟨rf0, rf1, rf2⟩ := (unhide HR11).c3.2
          have rl := (unhide HR11).2
          obtain ⟨x0, x1, x2⟩ := (unhide HX11).c3.1
          have xl := (unhide HX11).2
          go_upto_region 16 with fail
          clear r0 r1 r2 rf0 rf1 rf2 rl x0 x1 x2 xl
          have HR12 : Hid (Held (((w11.setCell ⟨w2.heap.size, 0, none⟩ (.int .i64 1)).setCell ⟨w2.heap.size, 1, none⟩ (.int .i64 k1)).setCell ⟨w2.heap.size, 2, none⟩ (.int .i64 key)) (w2.heap.size) (n3 1 k1 key)) := hide ((((unhide HR11).put 0 (.int .i64 1)).put 1 (.int .i64 k1)).put 2 (.int .i64 key))
          have HT12 := hide ((((unhide HT11).far (c := w2.heap.size) (by have := (unhide HB11).size; omega) 0 (.int .i64 1)).far (c := w2.heap.size) (by have := (unhide HB11).size; omega) 1 (.int .i64 k1)).far (c := w2.heap.size) (by have := (unhide HB11).size; omega) 2 (.int .i64 key))
          have HU12 := hide ((((unhide HU11).far (c := w2.heap.size) (by have := (unhide HB11).size; omega) 0 (.int .i64 1)).far (c := w2.heap.size) (by have := (unhide HB11).size; omega) 1 (.int .i64 k1)).far (c := w2.heap.size) (by have := (unhide HB11).size; omega) 2 (.int .i64 key))
          have HX12 := hide ((((unhide HX11).far (c := w2.heap.size) (by have := (unhide HB11).size; omega) 0 (.int .i64 1)).far (c := w2.heap.size) (by have := (unhide HB11).size; omega) 1 (.int .i64 k1)).far (c := w2.heap.size) (by have := (unhide HB11).size; omega) 2 (.int .i64 key))
          have HB12 : Hid (Below w.heap.size w (((w11.setCell ⟨w2.heap.size, 0, none⟩ (.int .i64 1)).setCell ⟨w2.heap.size, 1, none⟩ (.int .i64 k1)).setCell ⟨w2.heap.size, 2, none⟩ (.int .i64 key))) := hide (by have := (unhide HB11).size; exact (by (repeat' (first | exact Below.refl _ _ | refine Below.alloc ?_ ?_ _ | refine Below.setCell ?_ ?_ _ | refine Below.drew ?_ | refine Below.trans ?_ (Below.mono (unhide HB11) ?_))); all_goals (first | exact Nat.le_refl _ | omega | (simp; done) | (simp; omega))))
          generalize (((w11.setCell ⟨w2.heap.size, 0, none⟩ (.int .i64 1)).setCell ⟨w2.heap.size, 1, none⟩ (.int .i64 k1)).setCell ⟨w2.heap.size, 2, none⟩ (.int .i64 key)) = w12 at HR12 HT12 HU12 HX12 HB12 ⊢
          obtain ⟨r0, r1, r2⟩ := (unhide HR12).c3.1
          have rl := (unhide HR12).2
          obtain ⟨u0, u1, u2, u3⟩ := (unhide HU12).c4.1
          have ul := (unhide HU12).2
          go_wp2_with fail
          refine (unhide CK0 _ (unhide HE1) _).mono ?_
          rintro e w13 ⟨rfl, hb13⟩
          clear r0 r1 r2 rl u0 u1 u2 u3 ul
          have HR13 := hide (((unhide HR12).later (by (repeat' (first | exact Below.refl _ _ | refine Below.alloc ?_ ?_ _ | refine Below.setCell ?_ ?_ _ | refine Below.drew ?_)); all_goals (first | exact Nat.le_refl _ | omega | (simp; done) | (simp; omega)))).later hb13)
          have HT13 := hide (((unhide HT12).later (by (repeat' (first | exact Below.refl _ _ | refine Below.alloc ?_ ?_ _ | refine Below.setCell ?_ ?_ _ | refine Below.drew ?_)); all_goals (first | exact Nat.le_refl _ | omega | (simp; done) | (simp; omega)))).later hb13)
          have HU13 := hide (((unhide HU12).later (by (repeat' (first | exact Below.refl _ _ | refine Below.alloc ?_ ?_ _ | refine Below.setCell ?_ ?_ _ | refine Below.drew ?_)); all_goals (first | exact Nat.le_refl _ | omega | (simp; done) | (simp; omega)))).later hb13)
          have HB13 := hide (show Below w.heap.size w w13 from (by have := (unhide HB12).size; exact Below.trans (by (repeat' (first | exact Below.refl _ _ | refine Below.alloc ?_ ?_ _ | refine Below.setCell ?_ ?_ _ | refine Below.drew ?_ | refine Below.trans ?_ (Below.mono (unhide HB12) ?_))); all_goals (first | exact Nat.le_refl _ | omega | (simp; done) | (simp; omega))) (hb13.mono (by first | omega | (simp; done) | (simp; omega)))))
          clear hb13
          obtain ⟨r0, r1, r2⟩ := (unhide HR13).c3.1
          have rl := (unhide HR13).2
          obtain ⟨u0, u1, u2, u3⟩ := (unhide HU13).c4.1
          have ul := (unhide HU13).2
          go_wp2_with fail
          refine (unhide CO0 _ (unhide HE1) _).mono ?_
          rintro e w14 ⟨rfl, hb14⟩
          clear r0 r1 r2 rl u0 u1 u2 u3 ul
          have HR14 := hide (((unhide HR13).later (by (repeat' (first | exact Below.refl _ _ | refine Below.alloc ?_ ?_ _ | refine Below.setCell ?_ ?_ _ | refine Below.drew ?_)); all_goals (first | exact Nat.le_refl _ | omega | (simp; done) | (simp; omega)))).later hb14)
          have HT14 := hide (((unhide HT13).later (by (repeat' (first | exact Below.refl _ _ | refine Below.alloc ?_ ?_ _ | refine Below.setCell ?_ ?_ _ | refine Below.drew ?_)); all_goals (first | exact Nat.le_refl _ | omega | (simp; done) | (simp; omega)))).later hb14)
          have HU14 := hide (((unhide HU13).later (by (repeat' (first | exact Below.refl _ _ | refine Below.alloc ?_ ?_ _ | refine Below.setCell ?_ ?_ _ | refine Below.drew ?_)); all_goals (first | exact Nat.le_refl _ | omega | (simp; done) | (simp; omega)))).later hb14)
          have HN14 : Hid (Held w14 (w13.heap.size) (n4 0 0 0 0)) := hide ((Held.fresh (n4 0 0 0 0) _ (by first | rfl | (simp; done))).later hb14)
          have HB14 := hide (show Below w.heap.size w w14 from (by have := (unhide HB13).size; exact Below.trans (by (repeat' (first | exact Below.refl _ _ | refine Below.alloc ?_ ?_ _ | refine Below.setCell ?_ ?_ _ | refine Below.drew ?_ | refine Below.trans ?_ (Below.mono (unhide HB13) ?_))); all_goals (first | exact Nat.le_refl _ | omega | (simp; done) | (simp; omega))) (hb14.mono (by first | omega | (simp; done) | (simp; omega)))))
          clear hb14
          obtain ⟨u0, u1, u2, u3⟩ := (unhide HU14).c4.1
          have ul := (unhide HU14).2
          obtain ⟨n0, n1, n2, n3⟩ := (unhide HN14).c4.1
          have nl := (unhide HN14).2
          obtain ⟨hz, hz1⟩ := unhide HZ
          go_wp2
          clear hz hz1
          go_roundw
          case rel => exact ⟨1, k1, key, by omega, by omega, by go_num, HE1, hide (fun h => absurd h (by omega)), HR14, HT14, HU14, HB14⟩
          case measure => first | (simp [intOf]; done) | (simp [intOf]; omega)
        · have h1 : 0 < k := by omega
          have h2 : (k == 0) = false := beq_no h0
          have CT := hide (fun W => rturn_yes W (RingM.turn_zero.2 ⟨unhide HE, by omega⟩))
          have HE1 : Hid (RingM.err (k + 1) (TagM.tag key [k + 1]) key = 0) := hide (RingM.err_zero.2 ⟨by omega, TagM.tag_bd _ _, (RingM.err_zero.1 (unhide HE)).2.1, by omega⟩)
          generalize TagM.tag key [k + 1] = k1 at CT HE1
          have hl9 := (unhide HU9).2
          obtain ⟨r0, r1, r2⟩ := (unhide HR9).c3.1
          have rl := (unhide HR9).2
          go_wp2_with fail
          refine (unhide CT _).mono ?_
          rintro e w10 ⟨rfl, hb10⟩
          clear r0 r1 r2 rl
          have HR10 := hide (((unhide HR9).later (by (repeat' (first | exact Below.refl _ _ | refine Below.alloc ?_ ?_ _ | refine Below.setCell ?_ ?_ _ | refine Below.drew ?_)); all_goals (first | exact Nat.le_refl _ | omega | (simp; done) | (simp; omega)))).later hb10)
          have HT10 := hide (((unhide HT9).later (by (repeat' (first | exact Below.refl _ _ | refine Below.alloc ?_ ?_ _ | refine Below.setCell ?_ ?_ _ | refine Below.drew ?_)); all_goals (first | exact Nat.le_refl _ | omega | (simp; done) | (simp; omega)))).later hb10)
          have HU10 := hide (((unhide HU9).later (by (repeat' (first | exact Below.refl _ _ | refine Below.alloc ?_ ?_ _ | refine Below.setCell ?_ ?_ _ | refine Below.drew ?_)); all_goals (first | exact Nat.le_refl _ | omega | (simp; done) | (simp; omega)))).later hb10)
          have HB10 := hide (show Below w.heap.size w w10 from (by have := (unhide HB9).size; exact Below.trans (by (repeat' (first | exact Below.refl _ _ | refine Below.alloc ?_ ?_ _ | refine Below.setCell ?_ ?_ _ | refine Below.drew ?_ | refine Below.trans ?_ (Below.mono (unhide HB9) ?_))); all_goals (first | exact Nat.le_refl _ | omega | (simp; done) | (simp; omega))) (hb10.mono (by first | omega | (simp; done) | (simp; omega)))))
          clear hb10
          go_upto_region 15 with fail
          have HR11 : Hid (Held (w10.alloc (.cells #[.int .i64 (k + 1), .int .i64 k1, .int .i64 key] 40)) _ _) := hide ((unhide HR10).later (by (repeat' (first | exact Below.refl _ _ | refine Below.alloc ?_ ?_ _ | refine Below.setCell ?_ ?_ _ | refine Below.drew ?_)); all_goals (first | exact Nat.le_refl _ | omega | (simp; done) | (simp; omega))))
          have HT11 : Hid (Held (w10.alloc (.cells #[.int .i64 (k + 1), .int .i64 k1, .int .i64 key] 40)) _ _) := hide ((unhide HT10).later (by (repeat' (first | exact Below.refl _ _ | refine Below.alloc ?_ ?_ _ | refine Below.setCell ?_ ?_ _ | refine Below.drew ?_)); all_goals (first | exact Nat.le_refl _ | omega | (simp; done) | (simp; omega))))
          have HU11 : Hid (Held (w10.alloc (.cells #[.int .i64 (k + 1), .int .i64 k1, .int .i64 key] 40)) _ _) := hide ((unhide HU10).later (by (repeat' (first | exact Below.refl _ _ | refine Below.alloc ?_ ?_ _ | refine Below.setCell ?_ ?_ _ | refine Below.drew ?_)); all_goals (first | exact Nat.le_refl _ | omega | (simp; done) | (simp; omega))))
          have HX11 : Hid (Held (w10.alloc (.cells #[.int .i64 (k + 1), .int .i64 k1, .int .i64 key] 40)) w10.heap.size (n3 (k + 1) k1 key)) := hide (Held.fresh (w := w10) (n3 (k + 1) k1 key) 40 rfl)
          have HB11 : Hid (Below w.heap.size w (w10.alloc (.cells #[.int .i64 (k + 1), .int .i64 k1, .int .i64 key] 40))) := hide (by have := (unhide HB10).size; exact (by (repeat' (first | exact Below.refl _ _ | refine Below.alloc ?_ ?_ _ | refine Below.setCell ?_ ?_ _ | refine Below.drew ?_ | refine Below.trans ?_ (Below.mono (unhide HB10) ?_))); all_goals (first | exact Nat.le_refl _ | omega | (simp; done) | (simp; omega))))
          have z10 : w4.heap.size < w10.heap.size := (unhide HU10).2
          generalize (w10.alloc (.cells #[.int .i64 (k + 1), .int .i64 k1, .int .i64 key] 40)) = w11 at HX11 HR11 HT11 HU11 HB11 ⊢
          obtain ⟨r0, r1, r2⟩ := (unhide HR11).c3.1
          obtain ⟨rf0, rf1, rf2⟩ := (unhide HR11).c3.2
          have rl := (unhide HR11).2
          obtain ⟨x0, x1, x2⟩ := (unhide HX11).c3.1
          have xl := (unhide HX11).2
          go_upto_region 16 with fail
          clear r0 r1 r2 rf0 rf1 rf2 rl x0 x1 x2 xl
          have HR12 : Hid (Held (((w11.setCell ⟨w2.heap.size, 0, none⟩ (.int .i64 (k + 1))).setCell ⟨w2.heap.size, 1, none⟩ (.int .i64 k1)).setCell ⟨w2.heap.size, 2, none⟩ (.int .i64 key)) (w2.heap.size) (n3 (k + 1) k1 key)) := hide ((((unhide HR11).put 0 (.int .i64 (k + 1))).put 1 (.int .i64 k1)).put 2 (.int .i64 key))
          have HT12 := hide ((((unhide HT11).far (c := w2.heap.size) (by have := (unhide HB11).size; omega) 0 (.int .i64 (k + 1))).far (c := w2.heap.size) (by have := (unhide HB11).size; omega) 1 (.int .i64 k1)).far (c := w2.heap.size) (by have := (unhide HB11).size; omega) 2 (.int .i64 key))
          have HU12 := hide ((((unhide HU11).far (c := w2.heap.size) (by have := (unhide HB11).size; omega) 0 (.int .i64 (k + 1))).far (c := w2.heap.size) (by have := (unhide HB11).size; omega) 1 (.int .i64 k1)).far (c := w2.heap.size) (by have := (unhide HB11).size; omega) 2 (.int .i64 key))
          have HX12 := hide ((((unhide HX11).far (c := w2.heap.size) (by have := (unhide HB11).size; omega) 0 (.int .i64 (k + 1))).far (c := w2.heap.size) (by have := (unhide HB11).size; omega) 1 (.int .i64 k1)).far (c := w2.heap.size) (by have := (unhide HB11).size; omega) 2 (.int .i64 key))
          have HB12 : Hid (Below w.heap.size w (((w11.setCell ⟨w2.heap.size, 0, none⟩ (.int .i64 (k + 1))).setCell ⟨w2.heap.size, 1, none⟩ (.int .i64 k1)).setCell ⟨w2.heap.size, 2, none⟩ (.int .i64 key))) := hide (by have := (unhide HB11).size; exact (by (repeat' (first | exact Below.refl _ _ | refine Below.alloc ?_ ?_ _ | refine Below.setCell ?_ ?_ _ | refine Below.drew ?_ | refine Below.trans ?_ (Below.mono (unhide HB11) ?_))); all_goals (first | exact Nat.le_refl _ | omega | (simp; done) | (simp; omega))))
          generalize (((w11.setCell ⟨w2.heap.size, 0, none⟩ (.int .i64 (k + 1))).setCell ⟨w2.heap.size, 1, none⟩ (.int .i64 k1)).setCell ⟨w2.heap.size, 2, none⟩ (.int .i64 key)) = w12 at HR12 HT12 HU12 HX12 HB12 ⊢
          obtain ⟨r0, r1, r2⟩ := (unhide HR12).c3.1
          have rl := (unhide HR12).2
          obtain ⟨u0, u1, u2, u3⟩ := (unhide HU12).c4.1
          have ul := (unhide HU12).2
          go_wp2_with fail
          refine (unhide CK1 _ _ _ h1 (unhide HE1) _).mono ?_
          rintro e w13 ⟨rfl, hb13⟩
          clear r0 r1 r2 rl u0 u1 u2 u3 ul
          have HR13 := hide (((unhide HR12).later (by (repeat' (first | exact Below.refl _ _ | refine Below.alloc ?_ ?_ _ | refine Below.setCell ?_ ?_ _ | refine Below.drew ?_)); all_goals (first | exact Nat.le_refl _ | omega | (simp; done) | (simp; omega)))).later hb13)
          have HT13 := hide (((unhide HT12).later (by (repeat' (first | exact Below.refl _ _ | refine Below.alloc ?_ ?_ _ | refine Below.setCell ?_ ?_ _ | refine Below.drew ?_)); all_goals (first | exact Nat.le_refl _ | omega | (simp; done) | (simp; omega)))).later hb13)
          have HU13 := hide (((unhide HU12).later (by (repeat' (first | exact Below.refl _ _ | refine Below.alloc ?_ ?_ _ | refine Below.setCell ?_ ?_ _ | refine Below.drew ?_)); all_goals (first | exact Nat.le_refl _ | omega | (simp; done) | (simp; omega)))).later hb13)
          have HB13 := hide (show Below w.heap.size w w13 from (by have := (unhide HB12).size; exact Below.trans (by (repeat' (first | exact Below.refl _ _ | refine Below.alloc ?_ ?_ _ | refine Below.setCell ?_ ?_ _ | refine Below.drew ?_ | refine Below.trans ?_ (Below.mono (unhide HB12) ?_))); all_goals (first | exact Nat.le_refl _ | omega | (simp; done) | (simp; omega))) (hb13.mono (by first | omega | (simp; done) | (simp; omega)))))
          clear hb13
          go_wp2_with fail
          refine (unhide CS _ ((unhide HG).later (by have := (unhide HB13).size; exact (by (repeat' (first | exact Below.refl _ _ | refine Below.alloc ?_ ?_ _ | refine Below.setCell ?_ ?_ _ | refine Below.drew ?_ | refine Below.trans ?_ (Below.mono (unhide HB13) ?_))); all_goals (first | exact Nat.le_refl _ | omega | (simp; done) | (simp; omega)))))).mono ?_
          rintro e w14 ⟨rfl, hb14⟩
          have HR14 := hide (((unhide HR13).later (by (repeat' (first | exact Below.refl _ _ | refine Below.alloc ?_ ?_ _ | refine Below.setCell ?_ ?_ _ | refine Below.drew ?_)); all_goals (first | exact Nat.le_refl _ | omega | (simp; done) | (simp; omega)))).later hb14)
          have HT14 := hide (((unhide HT13).later (by (repeat' (first | exact Below.refl _ _ | refine Below.alloc ?_ ?_ _ | refine Below.setCell ?_ ?_ _ | refine Below.drew ?_)); all_goals (first | exact Nat.le_refl _ | omega | (simp; done) | (simp; omega)))).later hb14)
          have HU14 := hide (((unhide HU13).later (by (repeat' (first | exact Below.refl _ _ | refine Below.alloc ?_ ?_ _ | refine Below.setCell ?_ ?_ _ | refine Below.drew ?_)); all_goals (first | exact Nat.le_refl _ | omega | (simp; done) | (simp; omega)))).later hb14)
          have HB14 := hide (show Below w.heap.size w w14 from (by have := (unhide HB13).size; exact Below.trans (by (repeat' (first | exact Below.refl _ _ | refine Below.alloc ?_ ?_ _ | refine Below.setCell ?_ ?_ _ | refine Below.drew ?_ | refine Below.trans ?_ (Below.mono (unhide HB13) ?_))); all_goals (first | exact Nat.le_refl _ | omega | (simp; done) | (simp; omega))) (hb14.mono (by first | omega | (simp; done) | (simp; omega)))))
          clear hb14
          obtain ⟨r0, r1, r2⟩ := (unhide HR14).c3.1
          have rl := (unhide HR14).2
          obtain ⟨u0, u1, u2, u3⟩ := (unhide HU14).c4.1
          have ul := (unhide HU14).2
          go_wp2_with fail
          refine (unhide CO1 _ _ _ h1 (unhide HE1) _).mono ?_
          rintro e w15 ⟨rfl, hb15⟩
          clear r0 r1 r2 rl u0 u1 u2 u3 ul
          have HR15 := hide (((unhide HR14).later (by (repeat' (first | exact Below.refl _ _ | refine Below.alloc ?_ ?_ _ | refine Below.setCell ?_ ?_ _ | refine Below.drew ?_)); all_goals (first | exact Nat.le_refl _ | omega | (simp; done) | (simp; omega)))).later hb15)
          have HT15 := hide (((unhide HT14).later (by (repeat' (first | exact Below.refl _ _ | refine Below.alloc ?_ ?_ _ | refine Below.setCell ?_ ?_ _ | refine Below.drew ?_)); all_goals (first | exact Nat.le_refl _ | omega | (simp; done) | (simp; omega)))).later hb15)
          have HU15 := hide (((unhide HU14).later (by (repeat' (first | exact Below.refl _ _ | refine Below.alloc ?_ ?_ _ | refine Below.setCell ?_ ?_ _ | refine Below.drew ?_)); all_goals (first | exact Nat.le_refl _ | omega | (simp; done) | (simp; omega)))).later hb15)
          have HN15 : Hid (Held w15 (w14.heap.size) (n4 0 0 0 0)) := hide ((Held.fresh (n4 0 0 0 0) _ (by first | rfl | (simp; done))).later hb15)
          have HB15 := hide (show Below w.heap.size w w15 from (by have := (unhide HB14).size; exact Below.trans (by (repeat' (first | exact Below.refl _ _ | refine Below.alloc ?_ ?_ _ | refine Below.setCell ?_ ?_ _ | refine Below.drew ?_ | refine Below.trans ?_ (Below.mono (unhide HB14) ?_))); all_goals (first | exact Nat.le_refl _ | omega | (simp; done) | (simp; omega))) (hb15.mono (by first | omega | (simp; done) | (simp; omega)))))
          clear hb15
          obtain ⟨u0, u1, u2, u3⟩ := (unhide HU15).c4.1
          have ul := (unhide HU15).2
          obtain ⟨n0, n1, n2, n3⟩ := (unhide HN15).c4.1
          have nl := (unhide HN15).2
          obtain ⟨hz, hz1⟩ := unhide HZ
          go_wp2
          clear hz hz1
          go_roundw
          case rel => exact ⟨(k + 1), k1, key, by omega, by omega, by go_num, HE1, hide (fun h => absurd h (by omega)), HR15, HT15, HU15, HB15⟩
          case measure => first | (simp [intOf]; done) | (simp [intOf]; omega)
      · go_wp2
        go_ret
        exact ⟨rfl, (by have := (unhide HB9).size; exact (by (repeat' (first | exact Below.refl _ _ | refine Below.alloc ?_ ?_ _ | refine Below.setCell ?_ ?_ _ | refine Below.drew ?_ | refine Below.trans ?_ (Below.mono (unhide HB9) ?_))); all_goals (first | exact Nat.le_refl _ | omega | (simp; done) | (simp; omega))))⟩
    · go_wp2
      go_ret
      exact ⟨rfl, (by have := (unhide HB9).size; exact (by (repeat' (first | exact Below.refl _ _ | refine Below.alloc ?_ ?_ _ | refine Below.setCell ?_ ?_ _ | refine Below.drew ?_ | refine Below.trans ?_ (Below.mono (unhide HB9) ?_))); all_goals (first | exact Nat.le_refl _ | omega | (simp; done) | (simp; omega))))⟩

set_option maxHeartbeats 12800000 in
set_option maxRecDepth 8000 in
theorem turned_no_z2 (seed turns a t K m1 g2 : Int) (w : World) (HG : Hid (ErrType w)) (CN : Hid (∀ W : World, Calls Tryd.prog 23 #[.int .i64 seed] W fun e w' => e = .returned (.tuple #[.agg #[.int .i64 0, .int .i64 K, .int .i64 0], .nilIface]) ∧ Below W.heap.size W w')) (hr : Hid (RingM.err 0 K 0 = 0)) (CM : Hid (∀ W : World, Calls Tryd.prog 24 #[.agg #[.int .i64 0, .int .i64 K, .int .i64 0], .int .i64 a, .int .i64 t] W fun e w' => e = .returned (.tuple #[.agg #[.int .i64 0, .int .i64 0, .int .i64 0, .int .i64 0], .iface 71 (.int .i64 m1)]) ∧ Below W.heap.size W w')) (CU : Hid (∀ W : World, Calls Tryd.prog 25 #[.agg #[.int .i64 0, .int .i64 K, .int .i64 0], .int .i64 0, .int .i64 t] W fun e w' => e = .returned (.tuple #[.agg #[.int .i64 0, .int .i64 0, .int .i64 t, .int .i64 g2], .nilIface]) ∧ Below W.heap.size W w')) (CS : Hid (∀ W : World, ErrType W → Calls Tryd.prog 10 #[.iface 71 (.int .i64 9), .int .i64 9] W fun e w' => e = .returned (.bool true) ∧ Below W.heap.size W w')) (CK0 : Hid (∀ k1 : Int, RingM.err 1 k1 K = 0 → ∀ W : World, Calls Tryd.prog 28 #[.agg #[.int .i64 1, .int .i64 k1, .int .i64 K], .agg #[.int .i64 0, .int .i64 0, .int .i64 t, .int .i64 g2], .int .i64 t] W fun e w' => e = .returned (.nilIface) ∧ Below W.heap.size W w')) (CK1 : Hid (∀ k k1 k0 : Int, 0 < k → RingM.err (k + 1) k1 k0 = 0 → ∀ W : World, Calls Tryd.prog 28 #[.agg #[.int .i64 (k + 1), .int .i64 k1, .int .i64 k0], .agg #[.int .i64 0, .int .i64 0, .int .i64 t, .int .i64 g2], .int .i64 t] W fun e w' => e = .returned (.iface 71 (.int .i64 9)) ∧ Below W.heap.size W w')) (CO0 : Hid (∀ k1 : Int, RingM.err 1 k1 K = 0 → ∀ W : World, Calls Tryd.prog 19 #[.agg #[.int .i64 1, .int .i64 k1, .int .i64 K], .agg #[.int .i64 0, .int .i64 0, .int .i64 t, .int .i64 g2], .int .i64 t] W fun e w' => e = .returned (.tuple #[.bool true, .nilIface]) ∧ Below W.heap.size W w')) (CO1 : Hid (∀ k k1 k0 : Int, 0 < k → RingM.err (k + 1) k1 k0 = 0 → ∀ W : World, Calls Tryd.prog 19 #[.agg #[.int .i64 (k + 1), .int .i64 k1, .int .i64 k0], .agg #[.int .i64 0, .int .i64 0, .int .i64 t, .int .i64 g2], .int .i64 t] W fun e w' => e = .returned (.tuple #[.bool false, .nilIface]) ∧ Below W.heap.size W w')) (hz : ¬ t = 0) :
    Calls Tryd.prog 5 #[.int .i64 seed, .int .i64 turns, .int .i64 a, .int .i64 t, .int .i64 0] w fun e w' => e = .returned (.bool true) ∧ Below w.heap.size w w' := by
  have hz' := beq_no hz
  have HZ := hide (And.intro hz hz')
  clear hz hz'
  go_enter Tryd.func5, Tryd.ntmps5
  go_wp2_with fail
  refine (one_true _).mono ?_
  rintro e w1 ⟨rfl, hb1⟩
  have HB1 := hide (show Below w.heap.size w w1 from Below.trans (by (repeat' (first | exact Below.refl _ _ | refine Below.alloc ?_ ?_ _ | refine Below.setCell ?_ ?_ _ | refine Below.drew ?_)); all_goals (first | exact Nat.le_refl _ | omega | (simp; done) | (simp; omega))) (hb1.mono (by first | exact Nat.le_refl _ | (simp; done) | (simp; omega))))
  clear hb1
  go_wp2_with fail
  refine (unhide CN _).mono ?_
  rintro e w2 ⟨rfl, hb2⟩
  have HB2 := hide (show Below w.heap.size w w2 from (by have := (unhide HB1).size; exact Below.trans (by (repeat' (first | exact Below.refl _ _ | refine Below.alloc ?_ ?_ _ | refine Below.setCell ?_ ?_ _ | refine Below.drew ?_ | refine Below.trans ?_ (Below.mono (unhide HB1) ?_))); all_goals (first | exact Nat.le_refl _ | omega | (simp; done) | (simp; omega))) (hb2.mono (by first | omega | (simp; done) | (simp; omega)))))
  clear hb2
  go_wp2_with fail
  refine (unhide CM _).mono ?_
  rintro e w3 ⟨rfl, hb3⟩
  have HR3 : Hid (Held w3 (w2.heap.size) (n3 0 K 0)) := hide ((Held.fresh (n3 0 K 0) _ (by first | rfl | (simp; done))).later hb3)
  have HB3 := hide (show Below w.heap.size w w3 from (by have := (unhide HB2).size; exact Below.trans (by (repeat' (first | exact Below.refl _ _ | refine Below.alloc ?_ ?_ _ | refine Below.setCell ?_ ?_ _ | refine Below.drew ?_ | refine Below.trans ?_ (Below.mono (unhide HB2) ?_))); all_goals (first | exact Nat.le_refl _ | omega | (simp; done) | (simp; omega))) (hb3.mono (by first | omega | (simp; done) | (simp; omega)))))
  clear hb3
  obtain ⟨r0, r1, r2⟩ := (unhide HR3).c3.1
  have rl := (unhide HR3).2
  go_wp2_with fail
  refine (unhide CU _).mono ?_
  rintro e w4 ⟨rfl, hb4⟩
  clear r0 r1 r2 rl
  have HR4 := hide (((unhide HR3).later (by (repeat' (first | exact Below.refl _ _ | refine Below.alloc ?_ ?_ _ | refine Below.setCell ?_ ?_ _ | refine Below.drew ?_)); all_goals (first | exact Nat.le_refl _ | omega | (simp; done) | (simp; omega)))).later hb4)
  have HT4 : Hid (Held w4 (w3.heap.size) (n4 0 0 0 0)) := hide ((Held.fresh (n4 0 0 0 0) _ (by first | rfl | (simp; done))).later hb4)
  have HB4 := hide (show Below w.heap.size w w4 from (by have := (unhide HB3).size; exact Below.trans (by (repeat' (first | exact Below.refl _ _ | refine Below.alloc ?_ ?_ _ | refine Below.setCell ?_ ?_ _ | refine Below.drew ?_ | refine Below.trans ?_ (Below.mono (unhide HB3) ?_))); all_goals (first | exact Nat.le_refl _ | omega | (simp; done) | (simp; omega))) (hb4.mono (by first | omega | (simp; done) | (simp; omega)))))
  clear hb4
  go_upto_region 9 with fail
  have HU5 : Hid (Held (w4.alloc (.cells #[.int .i64 0, .int .i64 0, .int .i64 t, .int .i64 g2] 44)) w4.heap.size (n4 0 0 t g2)) := hide (Held.fresh (w := w4) (n4 0 0 t g2) 44 rfl)
  have HR5 : Hid (Held (w4.alloc (.cells #[.int .i64 0, .int .i64 0, .int .i64 t, .int .i64 g2] 44)) _ _) := hide ((unhide HR4).later (by (repeat' (first | exact Below.refl _ _ | refine Below.alloc ?_ ?_ _ | refine Below.setCell ?_ ?_ _ | refine Below.drew ?_)); all_goals (first | exact Nat.le_refl _ | omega | (simp; done) | (simp; omega))))
  have HT5 : Hid (Held (w4.alloc (.cells #[.int .i64 0, .int .i64 0, .int .i64 t, .int .i64 g2] 44)) _ _) := hide ((unhide HT4).later (by (repeat' (first | exact Below.refl _ _ | refine Below.alloc ?_ ?_ _ | refine Below.setCell ?_ ?_ _ | refine Below.drew ?_)); all_goals (first | exact Nat.le_refl _ | omega | (simp; done) | (simp; omega))))
  have HB5 : Hid (Below w.heap.size w (w4.alloc (.cells #[.int .i64 0, .int .i64 0, .int .i64 t, .int .i64 g2] 44))) := hide (by have := (unhide HB4).size; exact (by (repeat' (first | exact Below.refl _ _ | refine Below.alloc ?_ ?_ _ | refine Below.setCell ?_ ?_ _ | refine Below.drew ?_ | refine Below.trans ?_ (Below.mono (unhide HB4) ?_))); all_goals (first | exact Nat.le_refl _ | omega | (simp; done) | (simp; omega))))
  have z1 : w.heap.size ≤ w2.heap.size := (unhide HB2).size
  have z2 : w2.heap.size < w3.heap.size := (unhide HR3).2
  have z3 : w3.heap.size < w4.heap.size := (unhide HT4).2
  generalize (w4.alloc (.cells #[.int .i64 0, .int .i64 0, .int .i64 t, .int .i64 g2] 44)) = w5 at HU5 HR5 HT5 HB5 ⊢
  clear HR3 HR4 HT4 HB1 HB2 HB3 HB4
  go_wp2
  go_loopw [18] (fun i wr => ∃ (k key old : Int), 0 ≤ k ∧ k ≤ 8 ∧ i = .int .i64 k ∧ Hid (RingM.err k key old = 0) ∧ Hid (k = 0 → key = K) ∧ Hid (Held wr w2.heap.size (n3 k key old)) ∧ Hid (Held wr w3.heap.size (n4 0 0 0 0)) ∧ Hid (Held wr w4.heap.size (n4 0 0 t g2)) ∧ Hid (Below w.heap.size w wr)) (fun i _ => 8 - (intOf i).toNat)
  case atStart => exact ⟨0, K, 0, by omega, by omega, rfl, hr, hide (fun _ => rfl), HR5, HT5, HU5, HB5⟩
  case round =>
    clear HR5 HT5 HU5 HB5
    obtain ⟨k, key, old, hk0, hk8, rfl, HE, HK, HR9, HT9, HU9, HB9⟩ := hrel
    by_cases hkt : k < turns
    · by_cases hkl : k < 8
      · by_cases h0 : k = 0
        · subst h0
          obtain rfl : key = K := unhide HK rfl
          have CT := hide (fun W => rturn_yes (ep := 0) (key := key) (old := old) W (RingM.turn_zero.2 ⟨unhide HE, by omega⟩))
          rw [show (0 : Int) + 1 = 1 from rfl] at CT
          have HE1 : Hid (RingM.err 1 (TagM.tag key [1]) key = 0) := hide (RingM.err_zero.2 ⟨by omega, TagM.tag_bd _ _, (RingM.err_zero.1 (unhide HE)).2.1, by omega⟩)
          generalize TagM.tag key [1] = k1 at CT HE1
          have hl9 := (unhide HU9).2
          obtain ⟨r0, r1, r2⟩ := (unhide HR9).c3.1
          have rl := (unhide HR9).2
          go_wp2_with fail
          refine (unhide CT _).mono ?_
          rintro e w10 ⟨rfl, hb10⟩
          clear r0 r1 r2 rl
          have HR10 := hide (((unhide HR9).later (by (repeat' (first | exact Below.refl _ _ | refine Below.alloc ?_ ?_ _ | refine Below.setCell ?_ ?_ _ | refine Below.drew ?_)); all_goals (first | exact Nat.le_refl _ | omega | (simp; done) | (simp; omega)))).later hb10)
          have HT10 := hide (((unhide HT9).later (by (repeat' (first | exact Below.refl _ _ | refine Below.alloc ?_ ?_ _ | refine Below.setCell ?_ ?_ _ | refine Below.drew ?_)); all_goals (first | exact Nat.le_refl _ | omega | (simp; done) | (simp; omega)))).later hb10)
          have HU10 := hide (((unhide HU9).later (by (repeat' (first | exact Below.refl _ _ | refine Below.alloc ?_ ?_ _ | refine Below.setCell ?_ ?_ _ | refine Below.drew ?_)); all_goals (first | exact Nat.le_refl _ | omega | (simp; done) | (simp; omega)))).later hb10)
          have HB10 := hide (show Below w.heap.size w w10 from (by have := (unhide HB9).size; exact Below.trans (by (repeat' (first | exact Below.refl _ _ | refine Below.alloc ?_ ?_ _ | refine Below.setCell ?_ ?_ _ | refine Below.drew ?_ | refine Below.trans ?_ (Below.mono (unhide HB9) ?_))); all_goals (first | exact Nat.le_refl _ | omega | (simp; done) | (simp; omega))) (hb10.mono (by first | omega | (simp; done) | (simp; omega)))))
          clear hb10
          go_upto_region 15 with fail
          have HR11 : Hid (Held (w10.alloc (.cells #[.int .i64 1, .int .i64 k1, .int .i64 key] 40)) _ _) := hide ((unhide HR10).later (by (repeat' (first | exact Below.refl _ _ | refine Below.alloc ?_ ?_ _ | refine Below.setCell ?_ ?_ _ | refine Below.drew ?_)); all_goals (first | exact Nat.le_refl _ | omega | (simp; done) | (simp; omega))))
          have HT11 : Hid (Held (w10.alloc (.cells #[.int .i64 1, .int .i64 k1, .int .i64 key] 40)) _ _) := hide ((unhide HT10).later (by (repeat' (first | exact Below.refl _ _ | refine Below.alloc ?_ ?_ _ | refine Below.setCell ?_ ?_ _ | refine Below.drew ?_)); all_goals (first | exact Nat.le_refl _ | omega | (simp; done) | (simp; omega))))
          have HU11 : Hid (Held (w10.alloc (.cells #[.int .i64 1, .int .i64 k1, .int .i64 key] 40)) _ _) := hide ((unhide HU10).later (by (repeat' (first | exact Below.refl _ _ | refine Below.alloc ?_ ?_ _ | refine Below.setCell ?_ ?_ _ | refine Below.drew ?_)); all_goals (first | exact Nat.le_refl _ | omega | (simp; done) | (simp; omega))))
          have HX11 : Hid (Held (w10.alloc (.cells #[.int .i64 1, .int .i64 k1, .int .i64 key] 40)) w10.heap.size (n3 1 k1 key)) := hide (Held.fresh (w := w10) (n3 1 k1 key) 40 rfl)
          have HB11 : Hid (Below w.heap.size w (w10.alloc (.cells #[.int .i64 1, .int .i64 k1, .int .i64 key] 40))) := hide (by have := (unhide HB10).size; exact (by (repeat' (first | exact Below.refl _ _ | refine Below.alloc ?_ ?_ _ | refine Below.setCell ?_ ?_ _ | refine Below.drew ?_ | refine Below.trans ?_ (Below.mono (unhide HB10) ?_))); all_goals (first | exact Nat.le_refl _ | omega | (simp; done) | (simp; omega))))
          have z10 : w4.heap.size < w10.heap.size := (unhide HU10).2
          generalize (w10.alloc (.cells #[.int .i64 1, .int .i64 k1, .int .i64 key] 40)) = w11 at HX11 HR11 HT11 HU11 HB11 ⊢
          obtain ⟨r0, r1, r2⟩ := (unhide HR11).c3.1
          obtain ⟨rf0, rf1, rf2⟩ := (unhide HR11).c3.2
          have rl := (unhide HR11).2
          obtain ⟨x0, x1, x2⟩ := (unhide HX11).c3.1
          have xl := (unhide HX11).2
          go_upto_region 16 with fail
          clear r0 r1 r2 rf0 rf1 rf2 rl x0 x1 x2 xl
          have HR12 : Hid (Held (((w11.setCell ⟨w2.heap.size, 0, none⟩ (.int .i64 1)).setCell ⟨w2.heap.size, 1, none⟩ (.int .i64 k1)).setCell ⟨w2.heap.size, 2, none⟩ (.int .i64 key)) (w2.heap.size) (n3 1 k1 key)) := hide ((((unhide HR11).put 0 (.int .i64 1)).put 1 (.int .i64 k1)).put 2 (.int .i64 key))
          have HT12 := hide ((((unhide HT11).far (c := w2.heap.size) (by have := (unhide HB11).size; omega) 0 (.int .i64 1)).far (c := w2.heap.size) (by have := (unhide HB11).size; omega) 1 (.int .i64 k1)).far (c := w2.heap.size) (by have := (unhide HB11).size; omega) 2 (.int .i64 key))
          have HU12 := hide ((((unhide HU11).far (c := w2.heap.size) (by have := (unhide HB11).size; omega) 0 (.int .i64 1)).far (c := w2.heap.size) (by have := (unhide HB11).size; omega) 1 (.int .i64 k1)).far (c := w2.heap.size) (by have := (unhide HB11).size; omega) 2 (.int .i64 key))
          have HX12 := hide ((((unhide HX11).far (c := w2.heap.size) (by have := (unhide HB11).size; omega) 0 (.int .i64 1)).far (c := w2.heap.size) (by have := (unhide HB11).size; omega) 1 (.int .i64 k1)).far (c := w2.heap.size) (by have := (unhide HB11).size; omega) 2 (.int .i64 key))
          have HB12 : Hid (Below w.heap.size w (((w11.setCell ⟨w2.heap.size, 0, none⟩ (.int .i64 1)).setCell ⟨w2.heap.size, 1, none⟩ (.int .i64 k1)).setCell ⟨w2.heap.size, 2, none⟩ (.int .i64 key))) := hide (by have := (unhide HB11).size; exact (by (repeat' (first | exact Below.refl _ _ | refine Below.alloc ?_ ?_ _ | refine Below.setCell ?_ ?_ _ | refine Below.drew ?_ | refine Below.trans ?_ (Below.mono (unhide HB11) ?_))); all_goals (first | exact Nat.le_refl _ | omega | (simp; done) | (simp; omega))))
          generalize (((w11.setCell ⟨w2.heap.size, 0, none⟩ (.int .i64 1)).setCell ⟨w2.heap.size, 1, none⟩ (.int .i64 k1)).setCell ⟨w2.heap.size, 2, none⟩ (.int .i64 key)) = w12 at HR12 HT12 HU12 HX12 HB12 ⊢
          obtain ⟨r0, r1, r2⟩ := (unhide HR12).c3.1
          have rl := (unhide HR12).2
          obtain ⟨u0, u1, u2, u3⟩ := (unhide HU12).c4.1
          have ul := (unhide HU12).2
          go_wp2_with fail
          refine (unhide CK0 _ (unhide HE1) _).mono ?_
          rintro e w13 ⟨rfl, hb13⟩
          clear r0 r1 r2 rl u0 u1 u2 u3 ul
          have HR13 := hide (((unhide HR12).later (by (repeat' (first | exact Below.refl _ _ | refine Below.alloc ?_ ?_ _ | refine Below.setCell ?_ ?_ _ | refine Below.drew ?_)); all_goals (first | exact Nat.le_refl _ | omega | (simp; done) | (simp; omega)))).later hb13)
          have HT13 := hide (((unhide HT12).later (by (repeat' (first | exact Below.refl _ _ | refine Below.alloc ?_ ?_ _ | refine Below.setCell ?_ ?_ _ | refine Below.drew ?_)); all_goals (first | exact Nat.le_refl _ | omega | (simp; done) | (simp; omega)))).later hb13)
          have HU13 := hide (((unhide HU12).later (by (repeat' (first | exact Below.refl _ _ | refine Below.alloc ?_ ?_ _ | refine Below.setCell ?_ ?_ _ | refine Below.drew ?_)); all_goals (first | exact Nat.le_refl _ | omega | (simp; done) | (simp; omega)))).later hb13)
          have HB13 := hide (show Below w.heap.size w w13 from (by have := (unhide HB12).size; exact Below.trans (by (repeat' (first | exact Below.refl _ _ | refine Below.alloc ?_ ?_ _ | refine Below.setCell ?_ ?_ _ | refine Below.drew ?_ | refine Below.trans ?_ (Below.mono (unhide HB12) ?_))); all_goals (first | exact Nat.le_refl _ | omega | (simp; done) | (simp; omega))) (hb13.mono (by first | omega | (simp; done) | (simp; omega)))))
          clear hb13
          obtain ⟨r0, r1, r2⟩ := (unhide HR13).c3.1
          have rl := (unhide HR13).2
          obtain ⟨u0, u1, u2, u3⟩ := (unhide HU13).c4.1
          have ul := (unhide HU13).2
          go_wp2_with fail
          refine (unhide CO0 _ (unhide HE1) _).mono ?_
          rintro e w14 ⟨rfl, hb14⟩
          clear r0 r1 r2 rl u0 u1 u2 u3 ul
          have HR14 := hide (((unhide HR13).later (by (repeat' (first | exact Below.refl _ _ | refine Below.alloc ?_ ?_ _ | refine Below.setCell ?_ ?_ _ | refine Below.drew ?_)); all_goals (first | exact Nat.le_refl _ | omega | (simp; done) | (simp; omega)))).later hb14)
          have HT14 := hide (((unhide HT13).later (by (repeat' (first | exact Below.refl _ _ | refine Below.alloc ?_ ?_ _ | refine Below.setCell ?_ ?_ _ | refine Below.drew ?_)); all_goals (first | exact Nat.le_refl _ | omega | (simp; done) | (simp; omega)))).later hb14)
          have HU14 := hide (((unhide HU13).later (by (repeat' (first | exact Below.refl _ _ | refine Below.alloc ?_ ?_ _ | refine Below.setCell ?_ ?_ _ | refine Below.drew ?_)); all_goals (first | exact Nat.le_refl _ | omega | (simp; done) | (simp; omega)))).later hb14)
          have HN14 : Hid (Held w14 (w13.heap.size) (n4 0 0 0 0)) := hide ((Held.fresh (n4 0 0 0 0) _ (by first | rfl | (simp; done))).later hb14)
          have HB14 := hide (show Below w.heap.size w w14 from (by have := (unhide HB13).size; exact Below.trans (by (repeat' (first | exact Below.refl _ _ | refine Below.alloc ?_ ?_ _ | refine Below.setCell ?_ ?_ _ | refine Below.drew ?_ | refine Below.trans ?_ (Below.mono (unhide HB13) ?_))); all_goals (first | exact Nat.le_refl _ | omega | (simp; done) | (simp; omega))) (hb14.mono (by first | omega | (simp; done) | (simp; omega)))))
          clear hb14
          obtain ⟨u0, u1, u2, u3⟩ := (unhide HU14).c4.1
          have ul := (unhide HU14).2
          obtain ⟨n0, n1, n2, n3⟩ := (unhide HN14).c4.1
          have nl := (unhide HN14).2
          obtain ⟨hz, hz1⟩ := unhide HZ
          go_wp2
          clear hz hz1
          go_roundw
          case rel => exact ⟨1, k1, key, by omega, by omega, by go_num, HE1, hide (fun h => absurd h (by omega)), HR14, HT14, HU14, HB14⟩
          case measure => first | (simp [intOf]; done) | (simp [intOf]; omega)
        · have h1 : 0 < k := by omega
          have h2 : (k == 0) = false := beq_no h0
          have CT := hide (fun W => rturn_yes W (RingM.turn_zero.2 ⟨unhide HE, by omega⟩))
          have HE1 : Hid (RingM.err (k + 1) (TagM.tag key [k + 1]) key = 0) := hide (RingM.err_zero.2 ⟨by omega, TagM.tag_bd _ _, (RingM.err_zero.1 (unhide HE)).2.1, by omega⟩)
          generalize TagM.tag key [k + 1] = k1 at CT HE1
          have hl9 := (unhide HU9).2
          obtain ⟨r0, r1, r2⟩ := (unhide HR9).c3.1
          have rl := (unhide HR9).2
          go_wp2_with fail
          refine (unhide CT _).mono ?_
          rintro e w10 ⟨rfl, hb10⟩
          clear r0 r1 r2 rl
          have HR10 := hide (((unhide HR9).later (by (repeat' (first | exact Below.refl _ _ | refine Below.alloc ?_ ?_ _ | refine Below.setCell ?_ ?_ _ | refine Below.drew ?_)); all_goals (first | exact Nat.le_refl _ | omega | (simp; done) | (simp; omega)))).later hb10)
          have HT10 := hide (((unhide HT9).later (by (repeat' (first | exact Below.refl _ _ | refine Below.alloc ?_ ?_ _ | refine Below.setCell ?_ ?_ _ | refine Below.drew ?_)); all_goals (first | exact Nat.le_refl _ | omega | (simp; done) | (simp; omega)))).later hb10)
          have HU10 := hide (((unhide HU9).later (by (repeat' (first | exact Below.refl _ _ | refine Below.alloc ?_ ?_ _ | refine Below.setCell ?_ ?_ _ | refine Below.drew ?_)); all_goals (first | exact Nat.le_refl _ | omega | (simp; done) | (simp; omega)))).later hb10)
          have HB10 := hide (show Below w.heap.size w w10 from (by have := (unhide HB9).size; exact Below.trans (by (repeat' (first | exact Below.refl _ _ | refine Below.alloc ?_ ?_ _ | refine Below.setCell ?_ ?_ _ | refine Below.drew ?_ | refine Below.trans ?_ (Below.mono (unhide HB9) ?_))); all_goals (first | exact Nat.le_refl _ | omega | (simp; done) | (simp; omega))) (hb10.mono (by first | omega | (simp; done) | (simp; omega)))))
          clear hb10
          go_upto_region 15 with fail
          have HR11 : Hid (Held (w10.alloc (.cells #[.int .i64 (k + 1), .int .i64 k1, .int .i64 key] 40)) _ _) := hide ((unhide HR10).later (by (repeat' (first | exact Below.refl _ _ | refine Below.alloc ?_ ?_ _ | refine Below.setCell ?_ ?_ _ | refine Below.drew ?_)); all_goals (first | exact Nat.le_refl _ | omega | (simp; done) | (simp; omega))))
          have HT11 : Hid (Held (w10.alloc (.cells #[.int .i64 (k + 1), .int .i64 k1, .int .i64 key] 40)) _ _) := hide ((unhide HT10).later (by (repeat' (first | exact Below.refl _ _ | refine Below.alloc ?_ ?_ _ | refine Below.setCell ?_ ?_ _ | refine Below.drew ?_)); all_goals (first | exact Nat.le_refl _ | omega | (simp; done) | (simp; omega))))
          have HU11 : Hid (Held (w10.alloc (.cells #[.int .i64 (k + 1), .int .i64 k1, .int .i64 key] 40)) _ _) := hide ((unhide HU10).later (by (repeat' (first | exact Below.refl _ _ | refine Below.alloc ?_ ?_ _ | refine Below.setCell ?_ ?_ _ | refine Below.drew ?_)); all_goals (first | exact Nat.le_refl _ | omega | (simp; done) | (simp; omega))))
          have HX11 : Hid (Held (w10.alloc (.cells #[.int .i64 (k + 1), .int .i64 k1, .int .i64 key] 40)) w10.heap.size (n3 (k + 1) k1 key)) := hide (Held.fresh (w := w10) (n3 (k + 1) k1 key) 40 rfl)
          have HB11 : Hid (Below w.heap.size w (w10.alloc (.cells #[.int .i64 (k + 1), .int .i64 k1, .int .i64 key] 40))) := hide (by have := (unhide HB10).size; exact (by (repeat' (first | exact Below.refl _ _ | refine Below.alloc ?_ ?_ _ | refine Below.setCell ?_ ?_ _ | refine Below.drew ?_ | refine Below.trans ?_ (Below.mono (unhide HB10) ?_))); all_goals (first | exact Nat.le_refl _ | omega | (simp; done) | (simp; omega))))
          have z10 : w4.heap.size < w10.heap.size := (unhide HU10).2
          generalize (w10.alloc (.cells #[.int .i64 (k + 1), .int .i64 k1, .int .i64 key] 40)) = w11 at HX11 HR11 HT11 HU11 HB11 ⊢
          obtain ⟨r0, r1, r2⟩ := (unhide HR11).c3.1
          obtain ⟨rf0, rf1, rf2⟩ := (unhide HR11).c3.2
          have rl := (unhide HR11).2
          obtain ⟨x0, x1, x2⟩ := (unhide HX11).c3.1
          have xl := (unhide HX11).2
          go_upto_region 16 with fail
          clear r0 r1 r2 rf0 rf1 rf2 rl x0 x1 x2 xl
          have HR12 : Hid (Held (((w11.setCell ⟨w2.heap.size, 0, none⟩ (.int .i64 (k + 1))).setCell ⟨w2.heap.size, 1, none⟩ (.int .i64 k1)).setCell ⟨w2.heap.size, 2, none⟩ (.int .i64 key)) (w2.heap.size) (n3 (k + 1) k1 key)) := hide ((((unhide HR11).put 0 (.int .i64 (k + 1))).put 1 (.int .i64 k1)).put 2 (.int .i64 key))
          have HT12 := hide ((((unhide HT11).far (c := w2.heap.size) (by have := (unhide HB11).size; omega) 0 (.int .i64 (k + 1))).far (c := w2.heap.size) (by have := (unhide HB11).size; omega) 1 (.int .i64 k1)).far (c := w2.heap.size) (by have := (unhide HB11).size; omega) 2 (.int .i64 key))
          have HU12 := hide ((((unhide HU11).far (c := w2.heap.size) (by have := (unhide HB11).size; omega) 0 (.int .i64 (k + 1))).far (c := w2.heap.size) (by have := (unhide HB11).size; omega) 1 (.int .i64 k1)).far (c := w2.heap.size) (by have := (unhide HB11).size; omega) 2 (.int .i64 key))
          have HX12 := hide ((((unhide HX11).far (c := w2.heap.size) (by have := (unhide HB11).size; omega) 0 (.int .i64 (k + 1))).far (c := w2.heap.size) (by have := (unhide HB11).size; omega) 1 (.int .i64 k1)).far (c := w2.heap.size) (by have := (unhide HB11).size; omega) 2 (.int .i64 key))
          have HB12 : Hid (Below w.heap.size w (((w11.setCell ⟨w2.heap.size, 0, none⟩ (.int .i64 (k + 1))).setCell ⟨w2.heap.size, 1, none⟩ (.int .i64 k1)).setCell ⟨w2.heap.size, 2, none⟩ (.int .i64 key))) := hide (by have := (unhide HB11).size; exact (by (repeat' (first | exact Below.refl _ _ | refine Below.alloc ?_ ?_ _ | refine Below.setCell ?_ ?_ _ | refine Below.drew ?_ | refine Below.trans ?_ (Below.mono (unhide HB11) ?_))); all_goals (first | exact Nat.le_refl _ | omega | (simp; done) | (simp; omega))))
          generalize (((w11.setCell ⟨w2.heap.size, 0, none⟩ (.int .i64 (k + 1))).setCell ⟨w2.heap.size, 1, none⟩ (.int .i64 k1)).setCell ⟨w2.heap.size, 2, none⟩ (.int .i64 key)) = w12 at HR12 HT12 HU12 HX12 HB12 ⊢
          obtain ⟨r0, r1, r2⟩ := (unhide HR12).c3.1
          have rl := (unhide HR12).2
          obtain ⟨u0, u1, u2, u3⟩ := (unhide HU12).c4.1
          have ul := (unhide HU12).2
          go_wp2_with fail
          refine (unhide CK1 _ _ _ h1 (unhide HE1) _).mono ?_
          rintro e w13 ⟨rfl, hb13⟩
          clear r0 r1 r2 rl u0 u1 u2 u3 ul
          have HR13 := hide (((unhide HR12).later (by (repeat' (first | exact Below.refl _ _ | refine Below.alloc ?_ ?_ _ | refine Below.setCell ?_ ?_ _ | refine Below.drew ?_)); all_goals (first | exact Nat.le_refl _ | omega | (simp; done) | (simp; omega)))).later hb13)
          have HT13 := hide (((unhide HT12).later (by (repeat' (first | exact Below.refl _ _ | refine Below.alloc ?_ ?_ _ | refine Below.setCell ?_ ?_ _ | refine Below.drew ?_)); all_goals (first | exact Nat.le_refl _ | omega | (simp; done) | (simp; omega)))).later hb13)
          have HU13 := hide (((unhide HU12).later (by (repeat' (first | exact Below.refl _ _ | refine Below.alloc ?_ ?_ _ | refine Below.setCell ?_ ?_ _ | refine Below.drew ?_)); all_goals (first | exact Nat.le_refl _ | omega | (simp; done) | (simp; omega)))).later hb13)
          have HB13 := hide (show Below w.heap.size w w13 from (by have := (unhide HB12).size; exact Below.trans (by (repeat' (first | exact Below.refl _ _ | refine Below.alloc ?_ ?_ _ | refine Below.setCell ?_ ?_ _ | refine Below.drew ?_ | refine Below.trans ?_ (Below.mono (unhide HB12) ?_))); all_goals (first | exact Nat.le_refl _ | omega | (simp; done) | (simp; omega))) (hb13.mono (by first | omega | (simp; done) | (simp; omega)))))
          clear hb13
          go_wp2_with fail
          refine (unhide CS _ ((unhide HG).later (by have := (unhide HB13).size; exact (by (repeat' (first | exact Below.refl _ _ | refine Below.alloc ?_ ?_ _ | refine Below.setCell ?_ ?_ _ | refine Below.drew ?_ | refine Below.trans ?_ (Below.mono (unhide HB13) ?_))); all_goals (first | exact Nat.le_refl _ | omega | (simp; done) | (simp; omega)))))).mono ?_
          rintro e w14 ⟨rfl, hb14⟩
          have HR14 := hide (((unhide HR13).later (by (repeat' (first | exact Below.refl _ _ | refine Below.alloc ?_ ?_ _ | refine Below.setCell ?_ ?_ _ | refine Below.drew ?_)); all_goals (first | exact Nat.le_refl _ | omega | (simp; done) | (simp; omega)))).later hb14)
          have HT14 := hide (((unhide HT13).later (by (repeat' (first | exact Below.refl _ _ | refine Below.alloc ?_ ?_ _ | refine Below.setCell ?_ ?_ _ | refine Below.drew ?_)); all_goals (first | exact Nat.le_refl _ | omega | (simp; done) | (simp; omega)))).later hb14)
          have HU14 := hide (((unhide HU13).later (by (repeat' (first | exact Below.refl _ _ | refine Below.alloc ?_ ?_ _ | refine Below.setCell ?_ ?_ _ | refine Below.drew ?_)); all_goals (first | exact Nat.le_refl _ | omega | (simp; done) | (simp; omega)))).later hb14)
          have HB14 := hide (show Below w.heap.size w w14 from (by have := (unhide HB13).size; exact Below.trans (by (repeat' (first | exact Below.refl _ _ | refine Below.alloc ?_ ?_ _ | refine Below.setCell ?_ ?_ _ | refine Below.drew ?_ | refine Below.trans ?_ (Below.mono (unhide HB13) ?_))); all_goals (first | exact Nat.le_refl _ | omega | (simp; done) | (simp; omega))) (hb14.mono (by first | omega | (simp; done) | (simp; omega)))))
          clear hb14
          obtain ⟨r0, r1, r2⟩ := (unhide HR14).c3.1
          have rl := (unhide HR14).2
          obtain ⟨u0, u1, u2, u3⟩ := (unhide HU14).c4.1
          have ul := (unhide HU14).2
          go_wp2_with fail
          refine (unhide CO1 _ _ _ h1 (unhide HE1) _).mono ?_
          rintro e w15 ⟨rfl, hb15⟩
          clear r0 r1 r2 rl u0 u1 u2 u3 ul
          have HR15 := hide (((unhide HR14).later (by (repeat' (first | exact Below.refl _ _ | refine Below.alloc ?_ ?_ _ | refine Below.setCell ?_ ?_ _ | refine Below.drew ?_)); all_goals (first | exact Nat.le_refl _ | omega | (simp; done) | (simp; omega)))).later hb15)
          have HT15 := hide (((unhide HT14).later (by (repeat' (first | exact Below.refl _ _ | refine Below.alloc ?_ ?_ _ | refine Below.setCell ?_ ?_ _ | refine Below.drew ?_)); all_goals (first | exact Nat.le_refl _ | omega | (simp; done) | (simp; omega)))).later hb15)
          have HU15 := hide (((unhide HU14).later (by (repeat' (first | exact Below.refl _ _ | refine Below.alloc ?_ ?_ _ | refine Below.setCell ?_ ?_ _ | refine Below.drew ?_)); all_goals (first | exact Nat.le_refl _ | omega | (simp; done) | (simp; omega)))).later hb15)
          have HN15 : Hid (Held w15 (w14.heap.size) (n4 0 0 0 0)) := hide ((Held.fresh (n4 0 0 0 0) _ (by first | rfl | (simp; done))).later hb15)
          have HB15 := hide (show Below w.heap.size w w15 from (by have := (unhide HB14).size; exact Below.trans (by (repeat' (first | exact Below.refl _ _ | refine Below.alloc ?_ ?_ _ | refine Below.setCell ?_ ?_ _ | refine Below.drew ?_ | refine Below.trans ?_ (Below.mono (unhide HB14) ?_))); all_goals (first | exact Nat.le_refl _ | omega | (simp; done) | (simp; omega))) (hb15.mono (by first | omega | (simp; done) | (simp; omega)))))
          clear hb15
          obtain ⟨u0, u1, u2, u3⟩ := (unhide HU15).c4.1
          have ul := (unhide HU15).2
          obtain ⟨n0, n1, n2, n3⟩ := (unhide HN15).c4.1
          have nl := (unhide HN15).2
          obtain ⟨hz, hz1⟩ := unhide HZ
          go_wp2
          clear hz hz1
          go_roundw
          case rel => exact ⟨(k + 1), k1, key, by omega, by omega, by go_num, HE1, hide (fun h => absurd h (by omega)), HR15, HT15, HU15, HB15⟩
          case measure => first | (simp [intOf]; done) | (simp [intOf]; omega)
      · go_wp2
        go_ret
        exact ⟨rfl, (by have := (unhide HB9).size; exact (by (repeat' (first | exact Below.refl _ _ | refine Below.alloc ?_ ?_ _ | refine Below.setCell ?_ ?_ _ | refine Below.drew ?_ | refine Below.trans ?_ (Below.mono (unhide HB9) ?_))); all_goals (first | exact Nat.le_refl _ | omega | (simp; done) | (simp; omega))))⟩
    · go_wp2
      go_ret
      exact ⟨rfl, (by have := (unhide HB9).size; exact (by (repeat' (first | exact Below.refl _ _ | refine Below.alloc ?_ ?_ _ | refine Below.setCell ?_ ?_ _ | refine Below.drew ?_ | refine Below.trans ?_ (Below.mono (unhide HB9) ?_))); all_goals (first | exact Nat.le_refl _ | omega | (simp; done) | (simp; omega))))⟩

set_option maxHeartbeats 12800000 in
set_option maxRecDepth 8000 in
theorem turned_no_z3 (seed turns a K m1 g2 : Int) (w : World) (HG : Hid (ErrType w)) (CN : Hid (∀ W : World, Calls Tryd.prog 23 #[.int .i64 seed] W fun e w' => e = .returned (.tuple #[.agg #[.int .i64 0, .int .i64 K, .int .i64 0], .nilIface]) ∧ Below W.heap.size W w')) (hr : Hid (RingM.err 0 K 0 = 0)) (CM : Hid (∀ W : World, Calls Tryd.prog 24 #[.agg #[.int .i64 0, .int .i64 K, .int .i64 0], .int .i64 a, .int .i64 0] W fun e w' => e = .returned (.tuple #[.agg #[.int .i64 0, .int .i64 0, .int .i64 0, .int .i64 0], .iface 71 (.int .i64 m1)]) ∧ Below W.heap.size W w')) (CU : Hid (∀ W : World, Calls Tryd.prog 25 #[.agg #[.int .i64 0, .int .i64 K, .int .i64 0], .int .i64 0, .int .i64 0] W fun e w' => e = .returned (.tuple #[.agg #[.int .i64 0, .int .i64 0, .int .i64 0, .int .i64 g2], .nilIface]) ∧ Below W.heap.size W w')) (CS : Hid (∀ W : World, ErrType W → Calls Tryd.prog 10 #[.iface 71 (.int .i64 9), .int .i64 9] W fun e w' => e = .returned (.bool true) ∧ Below W.heap.size W w')) (CK0 : Hid (∀ k1 : Int, RingM.err 1 k1 K = 0 → ∀ W : World, Calls Tryd.prog 28 #[.agg #[.int .i64 1, .int .i64 k1, .int .i64 K], .agg #[.int .i64 0, .int .i64 0, .int .i64 0, .int .i64 g2], .int .i64 0] W fun e w' => e = .returned (.nilIface) ∧ Below W.heap.size W w')) (CK1 : Hid (∀ k k1 k0 : Int, 0 < k → RingM.err (k + 1) k1 k0 = 0 → ∀ W : World, Calls Tryd.prog 28 #[.agg #[.int .i64 (k + 1), .int .i64 k1, .int .i64 k0], .agg #[.int .i64 0, .int .i64 0, .int .i64 0, .int .i64 g2], .int .i64 0] W fun e w' => e = .returned (.iface 71 (.int .i64 9)) ∧ Below W.heap.size W w')) (CO0 : Hid (∀ k1 : Int, RingM.err 1 k1 K = 0 → ∀ W : World, Calls Tryd.prog 19 #[.agg #[.int .i64 1, .int .i64 k1, .int .i64 K], .agg #[.int .i64 0, .int .i64 0, .int .i64 0, .int .i64 g2], .int .i64 0] W fun e w' => e = .returned (.tuple #[.bool true, .nilIface]) ∧ Below W.heap.size W w')) (CO1 : Hid (∀ k k1 k0 : Int, 0 < k → RingM.err (k + 1) k1 k0 = 0 → ∀ W : World, Calls Tryd.prog 19 #[.agg #[.int .i64 (k + 1), .int .i64 k1, .int .i64 k0], .agg #[.int .i64 0, .int .i64 0, .int .i64 0, .int .i64 g2], .int .i64 0] W fun e w' => e = .returned (.tuple #[.bool false, .nilIface]) ∧ Below W.heap.size W w')) (hz : ¬ g2 = 0) :
    Calls Tryd.prog 5 #[.int .i64 seed, .int .i64 turns, .int .i64 a, .int .i64 0, .int .i64 0] w fun e w' => e = .returned (.bool true) ∧ Below w.heap.size w w' := by
  have hz' := beq_no hz
  have HZ := hide (And.intro hz hz')
  clear hz hz'
  go_enter Tryd.func5, Tryd.ntmps5
  go_wp2_with fail
  refine (one_true _).mono ?_
  rintro e w1 ⟨rfl, hb1⟩
  have HB1 := hide (show Below w.heap.size w w1 from Below.trans (by (repeat' (first | exact Below.refl _ _ | refine Below.alloc ?_ ?_ _ | refine Below.setCell ?_ ?_ _ | refine Below.drew ?_)); all_goals (first | exact Nat.le_refl _ | omega | (simp; done) | (simp; omega))) (hb1.mono (by first | exact Nat.le_refl _ | (simp; done) | (simp; omega))))
  clear hb1
  go_wp2_with fail
  refine (unhide CN _).mono ?_
  rintro e w2 ⟨rfl, hb2⟩
  have HB2 := hide (show Below w.heap.size w w2 from (by have := (unhide HB1).size; exact Below.trans (by (repeat' (first | exact Below.refl _ _ | refine Below.alloc ?_ ?_ _ | refine Below.setCell ?_ ?_ _ | refine Below.drew ?_ | refine Below.trans ?_ (Below.mono (unhide HB1) ?_))); all_goals (first | exact Nat.le_refl _ | omega | (simp; done) | (simp; omega))) (hb2.mono (by first | omega | (simp; done) | (simp; omega)))))
  clear hb2
  go_wp2_with fail
  refine (unhide CM _).mono ?_
  rintro e w3 ⟨rfl, hb3⟩
  have HR3 : Hid (Held w3 (w2.heap.size) (n3 0 K 0)) := hide ((Held.fresh (n3 0 K 0) _ (by first | rfl | (simp; done))).later hb3)
  have HB3 := hide (show Below w.heap.size w w3 from (by have := (unhide HB2).size; exact Below.trans (by (repeat' (first | exact Below.refl _ _ | refine Below.alloc ?_ ?_ _ | refine Below.setCell ?_ ?_ _ | refine Below.drew ?_ | refine Below.trans ?_ (Below.mono (unhide HB2) ?_))); all_goals (first | exact Nat.le_refl _ | omega | (simp; done) | (simp; omega))) (hb3.mono (by first | omega | (simp; done) | (simp; omega)))))
  clear hb3
  obtain ⟨r0, r1, r2⟩ := (unhide HR3).c3.1
  have rl := (unhide HR3).2
  go_wp2_with fail
  refine (unhide CU _).mono ?_
  rintro e w4 ⟨rfl, hb4⟩
  clear r0 r1 r2 rl
  have HR4 := hide (((unhide HR3).later (by (repeat' (first | exact Below.refl _ _ | refine Below.alloc ?_ ?_ _ | refine Below.setCell ?_ ?_ _ | refine Below.drew ?_)); all_goals (first | exact Nat.le_refl _ | omega | (simp; done) | (simp; omega)))).later hb4)
  have HT4 : Hid (Held w4 (w3.heap.size) (n4 0 0 0 0)) := hide ((Held.fresh (n4 0 0 0 0) _ (by first | rfl | (simp; done))).later hb4)
  have HB4 := hide (show Below w.heap.size w w4 from (by have := (unhide HB3).size; exact Below.trans (by (repeat' (first | exact Below.refl _ _ | refine Below.alloc ?_ ?_ _ | refine Below.setCell ?_ ?_ _ | refine Below.drew ?_ | refine Below.trans ?_ (Below.mono (unhide HB3) ?_))); all_goals (first | exact Nat.le_refl _ | omega | (simp; done) | (simp; omega))) (hb4.mono (by first | omega | (simp; done) | (simp; omega)))))
  clear hb4
  go_upto_region 9 with fail
  have HU5 : Hid (Held (w4.alloc (.cells #[.int .i64 0, .int .i64 0, .int .i64 0, .int .i64 g2] 44)) w4.heap.size (n4 0 0 0 g2)) := hide (Held.fresh (w := w4) (n4 0 0 0 g2) 44 rfl)
  have HR5 : Hid (Held (w4.alloc (.cells #[.int .i64 0, .int .i64 0, .int .i64 0, .int .i64 g2] 44)) _ _) := hide ((unhide HR4).later (by (repeat' (first | exact Below.refl _ _ | refine Below.alloc ?_ ?_ _ | refine Below.setCell ?_ ?_ _ | refine Below.drew ?_)); all_goals (first | exact Nat.le_refl _ | omega | (simp; done) | (simp; omega))))
  have HT5 : Hid (Held (w4.alloc (.cells #[.int .i64 0, .int .i64 0, .int .i64 0, .int .i64 g2] 44)) _ _) := hide ((unhide HT4).later (by (repeat' (first | exact Below.refl _ _ | refine Below.alloc ?_ ?_ _ | refine Below.setCell ?_ ?_ _ | refine Below.drew ?_)); all_goals (first | exact Nat.le_refl _ | omega | (simp; done) | (simp; omega))))
  have HB5 : Hid (Below w.heap.size w (w4.alloc (.cells #[.int .i64 0, .int .i64 0, .int .i64 0, .int .i64 g2] 44))) := hide (by have := (unhide HB4).size; exact (by (repeat' (first | exact Below.refl _ _ | refine Below.alloc ?_ ?_ _ | refine Below.setCell ?_ ?_ _ | refine Below.drew ?_ | refine Below.trans ?_ (Below.mono (unhide HB4) ?_))); all_goals (first | exact Nat.le_refl _ | omega | (simp; done) | (simp; omega))))
  have z1 : w.heap.size ≤ w2.heap.size := (unhide HB2).size
  have z2 : w2.heap.size < w3.heap.size := (unhide HR3).2
  have z3 : w3.heap.size < w4.heap.size := (unhide HT4).2
  generalize (w4.alloc (.cells #[.int .i64 0, .int .i64 0, .int .i64 0, .int .i64 g2] 44)) = w5 at HU5 HR5 HT5 HB5 ⊢
  clear HR3 HR4 HT4 HB1 HB2 HB3 HB4
  go_wp2
  go_loopw [18] (fun i wr => ∃ (k key old : Int), 0 ≤ k ∧ k ≤ 8 ∧ i = .int .i64 k ∧ Hid (RingM.err k key old = 0) ∧ Hid (k = 0 → key = K) ∧ Hid (Held wr w2.heap.size (n3 k key old)) ∧ Hid (Held wr w3.heap.size (n4 0 0 0 0)) ∧ Hid (Held wr w4.heap.size (n4 0 0 0 g2)) ∧ Hid (Below w.heap.size w wr)) (fun i _ => 8 - (intOf i).toNat)
  case atStart => exact ⟨0, K, 0, by omega, by omega, rfl, hr, hide (fun _ => rfl), HR5, HT5, HU5, HB5⟩
  case round =>
    clear HR5 HT5 HU5 HB5
    obtain ⟨k, key, old, hk0, hk8, rfl, HE, HK, HR9, HT9, HU9, HB9⟩ := hrel
    by_cases hkt : k < turns
    · by_cases hkl : k < 8
      · by_cases h0 : k = 0
        · subst h0
          obtain rfl : key = K := unhide HK rfl
          have CT := hide (fun W => rturn_yes (ep := 0) (key := key) (old := old) W (RingM.turn_zero.2 ⟨unhide HE, by omega⟩))
          rw [show (0 : Int) + 1 = 1 from rfl] at CT
          have HE1 : Hid (RingM.err 1 (TagM.tag key [1]) key = 0) := hide (RingM.err_zero.2 ⟨by omega, TagM.tag_bd _ _, (RingM.err_zero.1 (unhide HE)).2.1, by omega⟩)
          generalize TagM.tag key [1] = k1 at CT HE1
          have hl9 := (unhide HU9).2
          obtain ⟨r0, r1, r2⟩ := (unhide HR9).c3.1
          have rl := (unhide HR9).2
          go_wp2_with fail
          refine (unhide CT _).mono ?_
          rintro e w10 ⟨rfl, hb10⟩
          clear r0 r1 r2 rl
          have HR10 := hide (((unhide HR9).later (by (repeat' (first | exact Below.refl _ _ | refine Below.alloc ?_ ?_ _ | refine Below.setCell ?_ ?_ _ | refine Below.drew ?_)); all_goals (first | exact Nat.le_refl _ | omega | (simp; done) | (simp; omega)))).later hb10)
          have HT10 := hide (((unhide HT9).later (by (repeat' (first | exact Below.refl _ _ | refine Below.alloc ?_ ?_ _ | refine Below.setCell ?_ ?_ _ | refine Below.drew ?_)); all_goals (first | exact Nat.le_refl _ | omega | (simp; done) | (simp; omega)))).later hb10)
          have HU10 := hide (((unhide HU9).later (by (repeat' (first | exact Below.refl _ _ | refine Below.alloc ?_ ?_ _ | refine Below.setCell ?_ ?_ _ | refine Below.drew ?_)); all_goals (first | exact Nat.le_refl _ | omega | (simp; done) | (simp; omega)))).later hb10)
          have HB10 := hide (show Below w.heap.size w w10 from (by have := (unhide HB9).size; exact Below.trans (by (repeat' (first | exact Below.refl _ _ | refine Below.alloc ?_ ?_ _ | refine Below.setCell ?_ ?_ _ | refine Below.drew ?_ | refine Below.trans ?_ (Below.mono (unhide HB9) ?_))); all_goals (first | exact Nat.le_refl _ | omega | (simp; done) | (simp; omega))) (hb10.mono (by first | omega | (simp; done) | (simp; omega)))))
          clear hb10
          go_upto_region 15 with fail
          have HR11 : Hid (Held (w10.alloc (.cells #[.int .i64 1, .int .i64 k1, .int .i64 key] 40)) _ _) := hide ((unhide HR10).later (by (repeat' (first | exact Below.refl _ _ | refine Below.alloc ?_ ?_ _ | refine Below.setCell ?_ ?_ _ | refine Below.drew ?_)); all_goals (first | exact Nat.le_refl _ | omega | (simp; done) | (simp; omega))))
          have HT11 : Hid (Held (w10.alloc (.cells #[.int .i64 1, .int .i64 k1, .int .i64 key] 40)) _ _) := hide ((unhide HT10).later (by (repeat' (first | exact Below.refl _ _ | refine Below.alloc ?_ ?_ _ | refine Below.setCell ?_ ?_ _ | refine Below.drew ?_)); all_goals (first | exact Nat.le_refl _ | omega | (simp; done) | (simp; omega))))
          have HU11 : Hid (Held (w10.alloc (.cells #[.int .i64 1, .int .i64 k1, .int .i64 key] 40)) _ _) := hide ((unhide HU10).later (by (repeat' (first | exact Below.refl _ _ | refine Below.alloc ?_ ?_ _ | refine Below.setCell ?_ ?_ _ | refine Below.drew ?_)); all_goals (first | exact Nat.le_refl _ | omega | (simp; done) | (simp; omega))))
          have HX11 : Hid (Held (w10.alloc (.cells #[.int .i64 1, .int .i64 k1, .int .i64 key] 40)) w10.heap.size (n3 1 k1 key)) := hide (Held.fresh (w := w10) (n3 1 k1 key) 40 rfl)
          have HB11 : Hid (Below w.heap.size w (w10.alloc (.cells #[.int .i64 1, .int .i64 k1, .int .i64 key] 40))) := hide (by have := (unhide HB10).size; exact (by (repeat' (first | exact Below.refl _ _ | refine Below.alloc ?_ ?_ _ | refine Below.setCell ?_ ?_ _ | refine Below.drew ?_ | refine Below.trans ?_ (Below.mono (unhide HB10) ?_))); all_goals (first | exact Nat.le_refl _ | omega | (simp; done) | (simp; omega))))
          have z10 : w4.heap.size < w10.heap.size := (unhide HU10).2
          generalize (w10.alloc (.cells #[.int .i64 1, .int .i64 k1, .int .i64 key] 40)) = w11 at HX11 HR11 HT11 HU11 HB11 ⊢
          obtain ⟨r0, r1, r2⟩ := (unhide HR11).c3.1
          obtain ⟨rf0, rf1, rf2⟩ := (unhide HR11).c3.2
          have rl := (unhide HR11).2
          obtain ⟨x0, x1, x2⟩ := (unhide HX11).c3.1
          have xl := (unhide HX11).2
          go_upto_region 16 with fail
          clear r0 r1 r2 rf0 rf1 rf2 rl x0 x1 x2 xl
          have HR12 : Hid (Held (((w11.setCell ⟨w2.heap.size, 0, none⟩ (.int .i64 1)).setCell ⟨w2.heap.size, 1, none⟩ (.int .i64 k1)).setCell ⟨w2.heap.size, 2, none⟩ (.int .i64 key)) (w2.heap.size) (n3 1 k1 key)) := hide ((((unhide HR11).put 0 (.int .i64 1)).put 1 (.int .i64 k1)).put 2 (.int .i64 key))
          have HT12 := hide ((((unhide HT11).far (c := w2.heap.size) (by have := (unhide HB11).size; omega) 0 (.int .i64 1)).far (c := w2.heap.size) (by have := (unhide HB11).size; omega) 1 (.int .i64 k1)).far (c := w2.heap.size) (by have := (unhide HB11).size; omega) 2 (.int .i64 key))
          have HU12 := hide ((((unhide HU11).far (c := w2.heap.size) (by have := (unhide HB11).size; omega) 0 (.int .i64 1)).far (c := w2.heap.size) (by have := (unhide HB11).size; omega) 1 (.int .i64 k1)).far (c := w2.heap.size) (by have := (unhide HB11).size; omega) 2 (.int .i64 key))
          have HX12 := hide ((((unhide HX11).far (c := w2.heap.size) (by have := (unhide HB11).size; omega) 0 (.int .i64 1)).far (c := w2.heap.size) (by have := (unhide HB11).size; omega) 1 (.int .i64 k1)).far (c := w2.heap.size) (by have := (unhide HB11).size; omega) 2 (.int .i64 key))
          have HB12 : Hid (Below w.heap.size w (((w11.setCell ⟨w2.heap.size, 0, none⟩ (.int .i64 1)).setCell ⟨w2.heap.size, 1, none⟩ (.int .i64 k1)).setCell ⟨w2.heap.size, 2, none⟩ (.int .i64 key))) := hide (by have := (unhide HB11).size; exact (by (repeat' (first | exact Below.refl _ _ | refine Below.alloc ?_ ?_ _ | refine Below.setCell ?_ ?_ _ | refine Below.drew ?_ | refine Below.trans ?_ (Below.mono (unhide HB11) ?_))); all_goals (first | exact Nat.le_refl _ | omega | (simp; done) | (simp; omega))))
          generalize (((w11.setCell ⟨w2.heap.size, 0, none⟩ (.int .i64 1)).setCell ⟨w2.heap.size, 1, none⟩ (.int .i64 k1)).setCell ⟨w2.heap.size, 2, none⟩ (.int .i64 key)) = w12 at HR12 HT12 HU12 HX12 HB12 ⊢
          obtain ⟨r0, r1, r2⟩ := (unhide HR12).c3.1
          have rl := (unhide HR12).2
          obtain ⟨u0, u1, u2, u3⟩ := (unhide HU12).c4.1
          have ul := (unhide HU12).2
          go_wp2_with fail
          refine (unhide CK0 _ (unhide HE1) _).mono ?_
          rintro e w13 ⟨rfl, hb13⟩
          clear r0 r1 r2 rl u0 u1 u2 u3 ul
          have HR13 := hide (((unhide HR12).later (by (repeat' (first | exact Below.refl _ _ | refine Below.alloc ?_ ?_ _ | refine Below.setCell ?_ ?_ _ | refine Below.drew ?_)); all_goals (first | exact Nat.le_refl _ | omega | (simp; done) | (simp; omega)))).later hb13)
          have HT13 := hide (((unhide HT12).later (by (repeat' (first | exact Below.refl _ _ | refine Below.alloc ?_ ?_ _ | refine Below.setCell ?_ ?_ _ | refine Below.drew ?_)); all_goals (first | exact Nat.le_refl _ | omega | (simp; done) | (simp; omega)))).later hb13)
          have HU13 := hide (((unhide HU12).later (by (repeat' (first | exact Below.refl _ _ | refine Below.alloc ?_ ?_ _ | refine Below.setCell ?_ ?_ _ | refine Below.drew ?_)); all_goals (first | exact Nat.le_refl _ | omega | (simp; done) | (simp; omega)))).later hb13)
          have HB13 := hide (show Below w.heap.size w w13 from (by have := (unhide HB12).size; exact Below.trans (by (repeat' (first | exact Below.refl _ _ | refine Below.alloc ?_ ?_ _ | refine Below.setCell ?_ ?_ _ | refine Below.drew ?_ | refine Below.trans ?_ (Below.mono (unhide HB12) ?_))); all_goals (first | exact Nat.le_refl _ | omega | (simp; done) | (simp; omega))) (hb13.mono (by first | omega | (simp; done) | (simp; omega)))))
          clear hb13
          obtain ⟨r0, r1, r2⟩ := (unhide HR13).c3.1
          have rl := (unhide HR13).2
          obtain ⟨u0, u1, u2, u3⟩ := (unhide HU13).c4.1
          have ul := (unhide HU13).2
          go_wp2_with fail
          refine (unhide CO0 _ (unhide HE1) _).mono ?_
          rintro e w14 ⟨rfl, hb14⟩
          clear r0 r1 r2 rl u0 u1 u2 u3 ul
          have HR14 := hide (((unhide HR13).later (by (repeat' (first | exact Below.refl _ _ | refine Below.alloc ?_ ?_ _ | refine Below.setCell ?_ ?_ _ | refine Below.drew ?_)); all_goals (first | exact Nat.le_refl _ | omega | (simp; done) | (simp; omega)))).later hb14)
          have HT14 := hide (((unhide HT13).later (by (repeat' (first | exact Below.refl _ _ | refine Below.alloc ?_ ?_ _ | refine Below.setCell ?_ ?_ _ | refine Below.drew ?_)); all_goals (first | exact Nat.le_refl _ | omega | (simp; done) | (simp; omega)))).later hb14)
          have HU14 := hide (((unhide HU13).later (by (repeat' (first | exact Below.refl _ _ | refine Below.alloc ?_ ?_ _ | refine Below.setCell ?_ ?_ _ | refine Below.drew ?_)); all_goals (first | exact Nat.le_refl _ | omega | (simp; done) | (simp; omega)))).later hb14)
          have HN14 : Hid (Held w14 (w13.heap.size) (n4 0 0 0 0)) := hide ((Held.fresh (n4 0 0 0 0) _ (by first | rfl | (simp; done))).later hb14)
          have HB14 := hide (show Below w.heap.size w w14 from (by have := (unhide HB13).size; exact Below.trans (by (repeat' (first | exact Below.refl _ _ | refine Below.alloc ?_ ?_ _ | refine Below.setCell ?_ ?_ _ | refine Below.drew ?_ | refine Below.trans ?_ (Below.mono (unhide HB13) ?_))); all_goals (first | exact Nat.le_refl _ | omega | (simp; done) | (simp; omega))) (hb14.mono (by first | omega | (simp; done) | (simp; omega)))))
          clear hb14
          obtain ⟨u0, u1, u2, u3⟩ := (unhide HU14).c4.1
          have ul := (unhide HU14).2
          obtain ⟨n0, n1, n2, n3⟩ := (unhide HN14).c4.1
          have nl := (unhide HN14).2
          obtain ⟨hz, hz1⟩ := unhide HZ
          go_wp2
          clear hz hz1
          go_roundw
          case rel => exact ⟨1, k1, key, by omega, by omega, by go_num, HE1, hide (fun h => absurd h (by omega)), HR14, HT14, HU14, HB14⟩
          case measure => first | (simp [intOf]; done) | (simp [intOf]; omega)
        · have h1 : 0 < k := by omega
          have h2 : (k == 0) = false := beq_no h0
          have CT := hide (fun W => rturn_yes W (RingM.turn_zero.2 ⟨unhide HE, by omega⟩))
          have HE1 : Hid (RingM.err (k + 1) (TagM.tag key [k + 1]) key = 0) := hide (RingM.err_zero.2 ⟨by omega, TagM.tag_bd _ _, (RingM.err_zero.1 (unhide HE)).2.1, by omega⟩)
          generalize TagM.tag key [k + 1] = k1 at CT HE1
          have hl9 := (unhide HU9).2
          obtain ⟨r0, r1, r2⟩ := (unhide HR9).c3.1
          have rl := (unhide HR9).2
          go_wp2_with fail
          refine (unhide CT _).mono ?_
          rintro e w10 ⟨rfl, hb10⟩
          clear r0 r1 r2 rl
          have HR10 := hide (((unhide HR9).later (by (repeat' (first | exact Below.refl _ _ | refine Below.alloc ?_ ?_ _ | refine Below.setCell ?_ ?_ _ | refine Below.drew ?_)); all_goals (first | exact Nat.le_refl _ | omega | (simp; done) | (simp; omega)))).later hb10)
          have HT10 := hide (((unhide HT9).later (by (repeat' (first | exact Below.refl _ _ | refine Below.alloc ?_ ?_ _ | refine Below.setCell ?_ ?_ _ | refine Below.drew ?_)); all_goals (first | exact Nat.le_refl _ | omega | (simp; done) | (simp; omega)))).later hb10)
          have HU10 := hide (((unhide HU9).later (by (repeat' (first | exact Below.refl _ _ | refine Below.alloc ?_ ?_ _ | refine Below.setCell ?_ ?_ _ | refine Below.drew ?_)); all_goals (first | exact Nat.le_refl _ | omega | (simp; done) | (simp; omega)))).later hb10)
          have HB10 := hide (show Below w.heap.size w w10 from (by have := (unhide HB9).size; exact Below.trans (by (repeat' (first | exact Below.refl _ _ | refine Below.alloc ?_ ?_ _ | refine Below.setCell ?_ ?_ _ | refine Below.drew ?_ | refine Below.trans ?_ (Below.mono (unhide HB9) ?_))); all_goals (first | exact Nat.le_refl _ | omega | (simp; done) | (simp; omega))) (hb10.mono (by first | omega | (simp; done) | (simp; omega)))))
          clear hb10
          go_upto_region 15 with fail
          have HR11 : Hid (Held (w10.alloc (.cells #[.int .i64 (k + 1), .int .i64 k1, .int .i64 key] 40)) _ _) := hide ((unhide HR10).later (by (repeat' (first | exact Below.refl _ _ | refine Below.alloc ?_ ?_ _ | refine Below.setCell ?_ ?_ _ | refine Below.drew ?_)); all_goals (first | exact Nat.le_refl _ | omega | (simp; done) | (simp; omega))))
          have HT11 : Hid (Held (w10.alloc (.cells #[.int .i64 (k + 1), .int .i64 k1, .int .i64 key] 40)) _ _) := hide ((unhide HT10).later (by (repeat' (first | exact Below.refl _ _ | refine Below.alloc ?_ ?_ _ | refine Below.setCell ?_ ?_ _ | refine Below.drew ?_)); all_goals (first | exact Nat.le_refl _ | omega | (simp; done) | (simp; omega))))
          have HU11 : Hid (Held (w10.alloc (.cells #[.int .i64 (k + 1), .int .i64 k1, .int .i64 key] 40)) _ _) := hide ((unhide HU10).later (by (repeat' (first | exact Below.refl _ _ | refine Below.alloc ?_ ?_ _ | refine Below.setCell ?_ ?_ _ | refine Below.drew ?_)); all_goals (first | exact Nat.le_refl _ | omega | (simp; done) | (simp; omega))))
          have HX11 : Hid (Held (w10.alloc (.cells #[.int .i64 (k + 1), .int .i64 k1, .int .i64 key] 40)) w10.heap.size (n3 (k + 1) k1 key)) := hide (Held.fresh (w := w10) (n3 (k + 1) k1 key) 40 rfl)
          have HB11 : Hid (Below w.heap.size w (w10.alloc (.cells #[.int .i64 (k + 1), .int .i64 k1, .int .i64 key] 40))) := hide (by have := (unhide HB10).size; exact (by (repeat' (first | exact Below.refl _ _ | refine Below.alloc ?_ ?_ _ | refine Below.setCell ?_ ?_ _ | refine Below.drew ?_ | refine Below.trans ?_ (Below.mono (unhide HB10) ?_))); all_goals (first | exact Nat.le_refl _ | omega | (simp; done) | (simp; omega))))
          have z10 : w4.heap.size < w10.heap.size := (unhide HU10).2
          generalize (w10.alloc (.cells #[.int .i64 (k + 1), .int .i64 k1, .int .i64 key] 40)) = w11 at HX11 HR11 HT11 HU11 HB11 ⊢
          obtain ⟨r0, r1, r2⟩ := (unhide HR11).c3.1
          obtain ⟨rf0, rf1, rf2⟩ := (unhide HR11).c3.2
          have rl := (unhide HR11).2
          obtain ⟨x0, x1, x2⟩ := (unhide HX11).c3.1
          have xl := (unhide HX11).2
          go_upto_region 16 with fail
          clear r0 r1 r2 rf0 rf1 rf2 rl x0 x1 x2 xl
          have HR12 : Hid (Held (((w11.setCell ⟨w2.heap.size, 0, none⟩ (.int .i64 (k + 1))).setCell ⟨w2.heap.size, 1, none⟩ (.int .i64 k1)).setCell ⟨w2.heap.size, 2, none⟩ (.int .i64 key)) (w2.heap.size) (n3 (k + 1) k1 key)) := hide ((((unhide HR11).put 0 (.int .i64 (k + 1))).put 1 (.int .i64 k1)).put 2 (.int .i64 key))
          have HT12 := hide ((((unhide HT11).far (c := w2.heap.size) (by have := (unhide HB11).size; omega) 0 (.int .i64 (k + 1))).far (c := w2.heap.size) (by have := (unhide HB11).size; omega) 1 (.int .i64 k1)).far (c := w2.heap.size) (by have := (unhide HB11).size; omega) 2 (.int .i64 key))
          have HU12 := hide ((((unhide HU11).far (c := w2.heap.size) (by have := (unhide HB11).size; omega) 0 (.int .i64 (k + 1))).far (c := w2.heap.size) (by have := (unhide HB11).size; omega) 1 (.int .i64 k1)).far (c := w2.heap.size) (by have := (unhide HB11).size; omega) 2 (.int .i64 key))
          have HX12 := hide ((((unhide HX11).far (c := w2.heap.size) (by have := (unhide HB11).size; omega) 0 (.int .i64 (k + 1))).far (c := w2.heap.size) (by have := (unhide HB11).size; omega) 1 (.int .i64 k1)).far (c := w2.heap.size) (by have := (unhide HB11).size; omega) 2 (.int .i64 key))
          have HB12 : Hid (Below w.heap.size w (((w11.setCell ⟨w2.heap.size, 0, none⟩ (.int .i64 (k + 1))).setCell ⟨w2.heap.size, 1, none⟩ (.int .i64 k1)).setCell ⟨w2.heap.size, 2, none⟩ (.int .i64 key))) := hide (by have := (unhide HB11).size; exact (by (repeat' (first | exact Below.refl _ _ | refine Below.alloc ?_ ?_ _ | refine Below.setCell ?_ ?_ _ | refine Below.drew ?_ | refine Below.trans ?_ (Below.mono (unhide HB11) ?_))); all_goals (first | exact Nat.le_refl _ | omega | (simp; done) | (simp; omega))))
          generalize (((w11.setCell ⟨w2.heap.size, 0, none⟩ (.int .i64 (k + 1))).setCell ⟨w2.heap.size, 1, none⟩ (.int .i64 k1)).setCell ⟨w2.heap.size, 2, none⟩ (.int .i64 key)) = w12 at HR12 HT12 HU12 HX12 HB12 ⊢
          obtain ⟨r0, r1, r2⟩ := (unhide HR12).c3.1
          have rl := (unhide HR12).2
          obtain ⟨u0, u1, u2, u3⟩ := (unhide HU12).c4.1
          have ul := (unhide HU12).2
          go_wp2_with fail
          refine (unhide CK1 _ _ _ h1 (unhide HE1) _).mono ?_
          rintro e w13 ⟨rfl, hb13⟩
          clear r0 r1 r2 rl u0 u1 u2 u3 ul
          have HR13 := hide (((unhide HR12).later (by (repeat' (first | exact Below.refl _ _ | refine Below.alloc ?_ ?_ _ | refine Below.setCell ?_ ?_ _ | refine Below.drew ?_)); all_goals (first | exact Nat.le_refl _ | omega | (simp; done) | (simp; omega)))).later hb13)
          have HT13 := hide (((unhide HT12).later (by (repeat' (first | exact Below.refl _ _ | refine Below.alloc ?_ ?_ _ | refine Below.setCell ?_ ?_ _ | refine Below.drew ?_)); all_goals (first | exact Nat.le_refl _ | omega | (simp; done) | (simp; omega)))).later hb13)
          have HU13 := hide (((unhide HU12).later (by (repeat' (first | exact Below.refl _ _ | refine Below.alloc ?_ ?_ _ | refine Below.setCell ?_ ?_ _ | refine Below.drew ?_)); all_goals (first | exact Nat.le_refl _ | omega | (simp; done) | (simp; omega)))).later hb13)
          have HB13 := hide (show Below w.heap.size w w13 from (by have := (unhide HB12).size; exact Below.trans (by (repeat' (first | exact Below.refl _ _ | refine Below.alloc ?_ ?_ _ | refine Below.setCell ?_ ?_ _ | refine Below.drew ?_ | refine Below.trans ?_ (Below.mono (unhide HB12) ?_))); all_goals (first | exact Nat.le_refl _ | omega | (simp; done) | (simp; omega))) (hb13.mono (by first | omega | (simp; done) | (simp; omega)))))
          clear hb13
          go_wp2_with fail
          refine (unhide CS _ ((unhide HG).later (by have := (unhide HB13).size; exact (by (repeat' (first | exact Below.refl _ _ | refine Below.alloc ?_ ?_ _ | refine Below.setCell ?_ ?_ _ | refine Below.drew ?_ | refine Below.trans ?_ (Below.mono (unhide HB13) ?_))); all_goals (first | exact Nat.le_refl _ | omega | (simp; done) | (simp; omega)))))).mono ?_
          rintro e w14 ⟨rfl, hb14⟩
          have HR14 := hide (((unhide HR13).later (by (repeat' (first | exact Below.refl _ _ | refine Below.alloc ?_ ?_ _ | refine Below.setCell ?_ ?_ _ | refine Below.drew ?_)); all_goals (first | exact Nat.le_refl _ | omega | (simp; done) | (simp; omega)))).later hb14)
          have HT14 := hide (((unhide HT13).later (by (repeat' (first | exact Below.refl _ _ | refine Below.alloc ?_ ?_ _ | refine Below.setCell ?_ ?_ _ | refine Below.drew ?_)); all_goals (first | exact Nat.le_refl _ | omega | (simp; done) | (simp; omega)))).later hb14)
          have HU14 := hide (((unhide HU13).later (by (repeat' (first | exact Below.refl _ _ | refine Below.alloc ?_ ?_ _ | refine Below.setCell ?_ ?_ _ | refine Below.drew ?_)); all_goals (first | exact Nat.le_refl _ | omega | (simp; done) | (simp; omega)))).later hb14)
          have HB14 := hide (show Below w.heap.size w w14 from (by have := (unhide HB13).size; exact Below.trans (by (repeat' (first | exact Below.refl _ _ | refine Below.alloc ?_ ?_ _ | refine Below.setCell ?_ ?_ _ | refine Below.drew ?_ | refine Below.trans ?_ (Below.mono (unhide HB13) ?_))); all_goals (first | exact Nat.le_refl _ | omega | (simp; done) | (simp; omega))) (hb14.mono (by first | omega | (simp; done) | (simp; omega)))))
          clear hb14
          obtain ⟨r0, r1, r2⟩ := (unhide HR14).c3.1
          have rl := (unhide HR14).2
          obtain ⟨u0, u1, u2, u3⟩ := (unhide HU14).c4.1
          have ul := (unhide HU14).2
          go_wp2_with fail
          refine (unhide CO1 _ _ _ h1 (unhide HE1) _).mono ?_
          rintro e w15 ⟨rfl, hb15⟩
          clear r0 r1 r2 rl u0 u1 u2 u3 ul
          have HR15 := hide (((unhide HR14).later (by (repeat' (first | exact Below.refl _ _ | refine Below.alloc ?_ ?_ _ | refine Below.setCell ?_ ?_ _ | refine Below.drew ?_)); all_goals (first | exact Nat.le_refl _ | omega | (simp; done) | (simp; omega)))).later hb15)
          have HT15 := hide (((unhide HT14).later (by (repeat' (first | exact Below.refl _ _ | refine Below.alloc ?_ ?_ _ | refine Below.setCell ?_ ?_ _ | refine Below.drew ?_)); all_goals (first | exact Nat.le_refl _ | omega | (simp; done) | (simp; omega)))).later hb15)
          have HU15 := hide (((unhide HU14).later (by (repeat' (first | exact Below.refl _ _ | refine Below.alloc ?_ ?_ _ | refine Below.setCell ?_ ?_ _ | refine Below.drew ?_)); all_goals (first | exact Nat.le_refl _ | omega | (simp; done) | (simp; omega)))).later hb15)
          have HN15 : Hid (Held w15 (w14.heap.size) (n4 0 0 0 0)) := hide ((Held.fresh (n4 0 0 0 0) _ (by first | rfl | (simp; done))).later hb15)
          have HB15 := hide (show Below w.heap.size w w15 from (by have := (unhide HB14).size; exact Below.trans (by (repeat' (first | exact Below.refl _ _ | refine Below.alloc ?_ ?_ _ | refine Below.setCell ?_ ?_ _ | refine Below.drew ?_ | refine Below.trans ?_ (Below.mono (unhide HB14) ?_))); all_goals (first | exact Nat.le_refl _ | omega | (simp; done) | (simp; omega))) (hb15.mono (by first | omega | (simp; done) | (simp; omega)))))
          clear hb15
          obtain ⟨u0, u1, u2, u3⟩ := (unhide HU15).c4.1
          have ul := (unhide HU15).2
          obtain ⟨n0, n1, n2, n3⟩ := (unhide HN15).c4.1
          have nl := (unhide HN15).2
          obtain ⟨hz, hz1⟩ := unhide HZ
          go_wp2
          clear hz hz1
          go_roundw
          case rel => exact ⟨(k + 1), k1, key, by omega, by omega, by go_num, HE1, hide (fun h => absurd h (by omega)), HR15, HT15, HU15, HB15⟩
          case measure => first | (simp [intOf]; done) | (simp [intOf]; omega)
      · go_wp2
        go_ret
        exact ⟨rfl, (by have := (unhide HB9).size; exact (by (repeat' (first | exact Below.refl _ _ | refine Below.alloc ?_ ?_ _ | refine Below.setCell ?_ ?_ _ | refine Below.drew ?_ | refine Below.trans ?_ (Below.mono (unhide HB9) ?_))); all_goals (first | exact Nat.le_refl _ | omega | (simp; done) | (simp; omega))))⟩
    · go_wp2
      go_ret
      exact ⟨rfl, (by have := (unhide HB9).size; exact (by (repeat' (first | exact Below.refl _ _ | refine Below.alloc ?_ ?_ _ | refine Below.setCell ?_ ?_ _ | refine Below.drew ?_ | refine Below.trans ?_ (Below.mono (unhide HB9) ?_))); all_goals (first | exact Nat.le_refl _ | omega | (simp; done) | (simp; omega))))⟩

end Go.Proofs.YthdcebjnedbamaiDoor
