/-
  What the calls of package spent come to, said of lists of pairs: left, Spend, Has, Drop.
-/
import Derived.Test.YthaicpepgianpakGreatDoorSpentWalks
namespace Go.Proofs.YthaicpepgianpakGreatDoor
open Go.RowKit
attribute [local go_sem ↓] Go.wp_at_zero Go.wp_at_succ

theorem infoSpent : (Tryz.prog.info? 190).map (fun i => (i.zero, i.size, i.bytes)) = some (some (.agg #[.int .i64 0, .int .i64 0]), 2, 16) := by kernel_rfl

set_option maxHeartbeats 1600000 in
/-- Those that are not over, in memory of its own. -/
theorem left_any {l : List (Int × Int)} {a : Option Addr} {len cap : Nat} (now : Int) (w : World) (hl : len ≤ 16) (hp : PRow w a len cap l) :
    Calls Tryz.prog 159 #[.slice a len cap, .int .i64 now] w fun e w' => ∃ a' n' cap', e = .returned (.slice a' n' cap') ∧ Hid (w'.ownsRow w.heap.size 190 2 (.slice a' n' cap') n' (flat (SpentM.left l now))) ∧ PRow w' a' n' cap' (SpentM.left l now) ∧ Below w.heap.size w w' := by
  obtain ⟨i0, hi, hz0, hz1, hz2⟩ := info_parts infoSpent
  have HL := hide hp.1
  have HP := hide hp
  clear hp
  go_enter Tryz.func159, Tryz.ntmps159
  go_wp2
  go_loopw [5, 10] (fun v i wr => ∃ k n' : Nat, k ≤ len ∧ n' ≤ k ∧ i = .int .i64 k ∧ Hid (wr.ownsRow w.heap.size 190 2 v n' (flat (SpentM.left (l.take k) now))) ∧ Hid (Below w.heap.size w wr)) (fun _ i _ => len - (intOf i).toNat)
  case atStart => exact ⟨0, 0, Nat.zero_le _, Nat.zero_le _, rfl, hide (World.ownsRow_nil _ _ _ _), hide (Below.refl _ _)⟩
  case round =>
    obtain ⟨k, n', hk, hn', rfl, HO, HB⟩ := hrel
    by_cases hlt : k < len
    · have hs := hide (SpentM.left_at (l := l) (k := k) (now := now) (by rw [unhide HL]; exact hlt))
      obtain ⟨b, off, rfl, c1, c2⟩ := ((unhide HP).later (unhide HB)).2.2 k (by rw [unhide HL]; exact hlt)
      generalize l.getD k (0, 0) = s at c1 c2 hs
      obtain ⟨x, t⟩ := s
      dsimp only at c1 c2 hs
      by_cases hnow : now ≤ t
      · have hs' := hide (show SpentM.left (l.take (k + 1)) now = SpentM.left (l.take k) now ++ [(x, t)] from (unhide hs).trans (by rw [if_pos hnow]))
        clear hs
        have hB := (unhide HB).size
        go_wp2_with (at_builtin; refine wpList_append_own _ rfl _ _ 62 rfl w.heap.size 190 i0 (.agg #[.int .i64 0, .int .i64 0]) 2 16 Tryz.underlying62 hi hz0 hz1 hz2 rfl (by decide) _ _ _ rfl (((unhide HO).alloc _).alloc _) ⟨wr.heap.size + 1, 0, none⟩ 1 1 [.int .i64 x, .int .i64 t] rfl rfl ?c1 ?c2 ?c3 ?c4 ?c5 ?_)
        case c1 =>
          intro j u hj
          match j, hj with
          | 0, hj => simp at hj; subst hj; simp [Addr.add]
          | 1, hj => simp at hj; subst hj; simp [Addr.add]
          | j + 2, hj => simp at hj
        case c2 => exact flat_one [(x, t)]
        case c3 => unfold maxLen; omega
        case c4 => omega
        case c5 => simp; omega
        · intro v' w1 hown' hgrow _
          have R := own_snoc (((unhide HO).alloc _).alloc _) (show Below w.heap.size w _ from Below.alloc (Below.alloc (unhide HB) hB _) (by simp; omega) _) (by simp; omega) hown' hgrow
          have HO1 := hide R.1
          have HB1 := hide R.2
          clear R hown' hgrow c1 c2
          go_wp2
          go_roundw
          case rel => exact ⟨k + 1, n' + 1, by omega, by omega, by go_num, by rw [unhide hs']; exact HO1, HB1⟩
          case measure => simp [intOf]; omega
      · have hs' := hide (show SpentM.left (l.take (k + 1)) now = SpentM.left (l.take k) now from (unhide hs).trans (by rw [if_neg hnow, List.append_nil]))
        clear hs
        have hB := (unhide HB).size
        go_wp2
        go_roundw
        case rel => exact ⟨k + 1, n', by omega, by omega, by go_num, by rw [unhide hs']; exact hide ((unhide HO).alloc _), hide (Below.alloc (unhide HB) hB _)⟩
        case measure => simp [intOf]; omega
    · have hs' := hide (show SpentM.left (l.take k) now = SpentM.left l now from by rw [List.take_of_length_le (by rw [unhide HL]; omega)])
      rw [unhide hs'] at HO
      obtain ⟨a', cap', rfl, hp'⟩ := own_row (unhide HO)
      have HR := hide hp'
      clear hp'
      go_wp2
      go_ret
      exact ⟨_, _, _, rfl, HO, unhide HR, unhide HB⟩

theorem len16 {l : List (Int × Int)} {w : World} {a : Option Addr} {len cap : Nat} (hp : PRow w a len cap l) (h : SpentM.err l = 0) : len ≤ 16 := by rw [← hp.1]; exact (SpentM.err_zero.1 h).1



set_option maxHeartbeats 3200000 in
set_option maxRecDepth 8000 in
theorem sspend_last {l : List (Int × Int)} {a : Option Addr} {len cap : Nat} (n till now : Int) (w : World) (hp : PRow w a len cap l) (he : SpentM.err l = 0) (hf : SpentM.fitB (n, till) = true) (ht : TokenM.timeB now = true) (hlate : ¬ till < now) :
    Calls Tryz.prog 143 #[.slice a len cap, .int .i64 n, .int .i64 till, .int .i64 now] w fun e w' => ∃ a' n' cap', e = .returned (.tuple #[.slice a' n' cap', errV (SpentM.spendErr l n till now)]) ∧ PRow w' a' n' cap' (SpentM.spend l n till now) ∧ (NewRow w.heap.size a' ∧ BlkOf 190 w' a') ∧ Below w.heap.size w w' := by
  obtain ⟨i0, hi, hz0, hz1, hz2⟩ := info_parts infoSpent
  have hl := len16 hp he
  have C := hide (scheck_any w hp)
  have HP := hide hp
  rw [errV_zero he] at C
  have CF := hide (fun w => sfits_any n till w)
  rw [hf] at CF
  have CT := hide (fun w => time_any now w)
  rw [ht] at CT
  have HE := hide (show SpentM.spendErr l n till now = if SpentM.hasB (SpentM.left l now) n = true then 7 else if (SpentM.left l now).length = 16 then 4 else 0 by
    obtain ⟨f1, f2⟩ := SpentM.fitB_iff.1 hf
    unfold SpentM.spendErr SpentM.restErr
    rw [if_pos he, if_pos ⟨f1, f2, ht⟩, if_neg hlate])
  have hm := SpentM.left_le l now
  have HM := hide (show (SpentM.left l now).length ≤ 16 by have := hp.1; omega)
  unfold SpentM.spend
  generalize SpentM.spendErr l n till now = E at HE ⊢
  clear hp he hf ht hm
  have Q := hide (fun (B : Nat) (W : World) (a : Option Addr) (len cap : Nat) (hl : len ≤ 16) (hp : PRow W a len cap (SpentM.left l now)) (hc : W.cell? ⟨B, 0, none⟩ = some (.int .i64 n)) => contains_row n B W hl hp hc)
  generalize SpentM.hasB (SpentM.left l now) n = q at Q HE
  go_enter Tryz.func143, Tryz.ntmps143
  go_wp2_with fail
  refine (unhide C).mono ?_
  rintro e w1 ⟨rfl, hb1⟩
  have HB1 := hide hb1
  clear hb1
  go_wp2_with fail
  refine (unhide CF _).mono ?_
  rintro e w2 ⟨rfl, hb2⟩
  have HO2 := hide ((Held.fresh (w := w1) [.int .i64 n, .int .i64 till] 190 rfl).later hb2)
  have HB2 := hide (bel3 (unhide HB1) (by (repeat' (first | exact Below.refl _ _ | refine Below.alloc ?_ ?_ _ | refine Below.setCell ?_ ?_ _ | refine Below.drew ?_)); all_goals (first | exact Nat.le_refl _ | omega | (simp; done) | (simp; omega))) hb2)
  clear hb2
  go_wp2_with fail
  refine (unhide CT _).mono ?_
  rintro e w' ⟨rfl, rfl⟩
  go_wp2_with fail
  refine (left_any _ _ hl ((unhide HP).later (unhide HB2))).mono ?_
  rintro e w3 ⟨a', n', cap', rfl, HK3, hp3, hb3⟩
  have hn' : n' ≤ 16 := by have := unhide HM; have := hp3.1; omega
  have HN := hide (show (SpentM.left l now).length = n' from hp3.1)
  have HR3 := hide hp3
  have HO3 := hide ((unhide HO2).later hb3)
  have HB3 := hide (bel3 (unhide HB2) (Below.refl _ _) hb3)
  clear hb3 hp3
  go_wp2_with fail
  refine (numbered_any _ _).mono ?_
  rintro e w4 ⟨rfl, hq, hb4⟩
  have HQ4 := hide hq
  have HR4 := hide ((unhide HR3).later hb4)
  have HK4 := hide (own_later (unhide HK3) hb4)
  have HO4 := hide ((unhide HO3).later hb4)
  have HB4 := hide (bel3 (unhide HB3) (Below.refl _ _) hb4)
  clear hb4 hq
  go_wp2_with fail
  refine (unhide Q _ _ _ _ _ hn' (unhide HR4) (unhide HQ4)).mono ?_
  rintro e w5 ⟨rfl, hb5⟩
  have HK5 := hide (own_later (unhide HK4) hb5)
  have HO5 := hide ((unhide HO4).later hb5)
  have HB5 := hide (bel3 (unhide HB4) (Below.refl _ _) hb5)
  clear hb5
  cases q with
  | true =>
    have HE1 := hide (show E = 7 from unhide HE)
    go_wp2
    go_ret2
    exact ⟨none, 0, 0, by rw [unhide HE1, errV_pos (by omega)]; rfl, by rw [unhide HE1, SpentM.told_pos (by omega)]; exact nil_row _, ⟨nil_new _, nil_blk _ _⟩, unhide HB5⟩
  | false =>
    by_cases hn : (n' : Int) = 16
    · have HE1 := hide (show E = 4 from (unhide HE).trans (by rw [if_neg (by simp), if_pos (by rw [unhide HN]; omega)]))
      have hn2 : ((n' : Int) == 16) = true := by simp [hn]
      go_wp2
      go_ret2
      exact ⟨none, 0, 0, by rw [unhide HE1, errV_pos (by omega)]; rfl, by rw [unhide HE1, SpentM.told_pos (by omega)]; exact nil_row _, ⟨nil_new _, nil_blk _ _⟩, unhide HB5⟩
    · have HE1 := hide (show E = 0 from (unhide HE).trans (by rw [if_neg (by simp), if_neg (by rw [unhide HN]; omega)]))
      have hn2 : ((n' : Int) == 16) = false := by simp [hn]
      obtain ⟨o0, o1⟩ := (unhide HO5).c2.1
      have ol := (unhide HO5).2
      have hB := (unhide HB2).size
      have hB5 := (unhide HB5).size
      go_wp2_with (at_builtin; refine wpList_append_own _ rfl _ _ 62 rfl w.heap.size 190 i0 (.agg #[.int .i64 0, .int .i64 0]) 2 16 Tryz.underlying62 hi hz0 hz1 hz2 rfl (by decide) _ _ _ rfl (own_base ((unhide HK5).alloc _) hB) ⟨w5.heap.size, 0, none⟩ 1 1 [.int .i64 n, .int .i64 till] rfl rfl ?c1 ?c2 ?c3 ?c4 ?c5 ?_)
      case c1 =>
        intro j u hj
        match j, hj with
        | 0, hj => simp at hj; subst hj; simp [Addr.add]
        | 1, hj => simp at hj; subst hj; simp [Addr.add]
        | j + 2, hj => simp at hj
      case c2 => exact flat_one [(n, till)]
      case c3 => unfold maxLen; omega
      case c4 => omega
      case c5 => simp; omega
      · intro v' w6 hown' hgrow _
        have R := own_snoc (own_base ((unhide HK5).alloc _) hB) (show Below w.heap.size w _ from Below.alloc (unhide HB5) hB5 _) (by simp; omega) hown' hgrow
        obtain ⟨a6, cap6, rfl, hp6, hn6⟩ := own_new R.1
        have HNW := hide (And.intro hn6 (own_blk R.1))
        have HR6 := hide hp6
        have HB6 := hide R.2
        clear R hown' hgrow hp6 hn6 o0 o1 ol
        go_wp2
        go_ret2
        exact ⟨_, _, _, by rw [unhide HE1, errV_zero rfl]; rfl, by rw [unhide HE1, SpentM.told_zero rfl]; exact unhide HR6, unhide HNW, unhide HB6⟩

set_option maxHeartbeats 1600000 in
/-- Spend, every way. -/
theorem sspend_typed {l : List (Int × Int)} {a : Option Addr} {len cap : Nat} (n till now : Int) (w : World) (hp : PRow w a len cap l) :
    Calls Tryz.prog 143 #[.slice a len cap, .int .i64 n, .int .i64 till, .int .i64 now] w fun e w' => ∃ a' n' cap', e = .returned (.tuple #[.slice a' n' cap', errV (SpentM.spendErr l n till now)]) ∧ PRow w' a' n' cap' (SpentM.spend l n till now) ∧ (NewRow w.heap.size a' ∧ BlkOf 190 w' a') ∧ Below w.heap.size w w' := by
  have C := hide (scheck_any w hp)
  by_cases he : SpentM.err l = 0
  · by_cases hf : SpentM.fitB (n, till) = true
    · by_cases ht : TokenM.timeB now = true
      · by_cases hlate : till < now
        · have hh : SpentM.spendErr l n till now = 9 := by
            obtain ⟨f1, f2⟩ := SpentM.fitB_iff.1 hf
            unfold SpentM.spendErr SpentM.restErr
            rw [if_pos he, if_pos ⟨f1, f2, ht⟩, if_pos hlate]
          rw [SpentM.spend_no (by omega), hh, errV_pos (by omega)]
          rw [errV_zero he] at C
          have CF := hide (fun w => sfits_any n till w)
          rw [hf] at CF
          have CT := hide (fun w => time_any now w)
          rw [ht] at CT
          clear hh he hf ht hp
          go_enter Tryz.func143, Tryz.ntmps143
          go_wp2_with fail
          refine (unhide C).mono ?_
          rintro e w1 ⟨rfl, hb1⟩
          have HB1 := hide hb1
          clear hb1
          go_wp2_with fail
          refine (unhide CF _).mono ?_
          rintro e w2 ⟨rfl, hb2⟩
          have HB2 := hide (bel3 (unhide HB1) (by (repeat' (first | exact Below.refl _ _ | refine Below.alloc ?_ ?_ _ | refine Below.setCell ?_ ?_ _ | refine Below.drew ?_)); all_goals (first | exact Nat.le_refl _ | omega | (simp; done) | (simp; omega))) hb2)
          clear hb2
          go_wp2_with fail
          refine (unhide CT _).mono ?_
          rintro e w' ⟨rfl, rfl⟩
          go_wp2
          go_ret2
          exact ⟨none, 0, 0, rfl, nil_row _, ⟨nil_new _, nil_blk _ _⟩, unhide HB2⟩
        · exact sspend_last n till now w hp he hf ht hlate
      · have ht' : TokenM.timeB now = false := by simpa using ht
        have hh : SpentM.spendErr l n till now = 1 := by
          unfold SpentM.spendErr SpentM.restErr
          rw [if_pos he, if_neg (fun h => ht h.2.2)]
        rw [SpentM.spend_no (by omega), hh, errV_pos (by omega)]
        rw [errV_zero he] at C
        have CF := hide (fun w => sfits_any n till w)
        rw [hf] at CF
        have CT := hide (fun w => time_any now w)
        rw [ht'] at CT
        clear hh he hf ht ht' hp
        go_enter Tryz.func143, Tryz.ntmps143
        go_wp2_with fail
        refine (unhide C).mono ?_
        rintro e w1 ⟨rfl, hb1⟩
        have HB1 := hide hb1
        clear hb1
        go_wp2_with fail
        refine (unhide CF _).mono ?_
        rintro e w2 ⟨rfl, hb2⟩
        have HB2 := hide (bel3 (unhide HB1) (by (repeat' (first | exact Below.refl _ _ | refine Below.alloc ?_ ?_ _ | refine Below.setCell ?_ ?_ _ | refine Below.drew ?_)); all_goals (first | exact Nat.le_refl _ | omega | (simp; done) | (simp; omega))) hb2)
        clear hb2
        go_wp2_with fail
        refine (unhide CT _).mono ?_
        rintro e w' ⟨rfl, rfl⟩
        go_wp2
        go_ret2
        exact ⟨none, 0, 0, rfl, nil_row _, ⟨nil_new _, nil_blk _ _⟩, unhide HB2⟩
    · have hf' : SpentM.fitB (n, till) = false := by simpa using hf
      have hh : SpentM.spendErr l n till now = 1 := by
        unfold SpentM.spendErr SpentM.restErr
        rw [if_pos he, if_neg (fun h => hf (SpentM.fitB_iff.2 ⟨h.1, h.2.1⟩))]
      rw [SpentM.spend_no (by omega), hh, errV_pos (by omega)]
      rw [errV_zero he] at C
      have CF := hide (fun w => sfits_any n till w)
      rw [hf'] at CF
      clear hh he hf hf' hp
      go_enter Tryz.func143, Tryz.ntmps143
      go_wp2_with fail
      refine (unhide C).mono ?_
      rintro e w1 ⟨rfl, hb1⟩
      have HB1 := hide hb1
      clear hb1
      go_wp2_with fail
      refine (unhide CF _).mono ?_
      rintro e w2 ⟨rfl, hb2⟩
      have HB2 := hide (bel3 (unhide HB1) (by (repeat' (first | exact Below.refl _ _ | refine Below.alloc ?_ ?_ _ | refine Below.setCell ?_ ?_ _ | refine Below.drew ?_)); all_goals (first | exact Nat.le_refl _ | omega | (simp; done) | (simp; omega))) hb2)
      clear hb2
      go_wp2
      go_ret2
      exact ⟨none, 0, 0, rfl, nil_row _, ⟨nil_new _, nil_blk _ _⟩, unhide HB2⟩
  · have hh : SpentM.spendErr l n till now = SpentM.err l := by unfold SpentM.spendErr; rw [if_neg he]
    rw [SpentM.spend_no (by rw [hh]; exact he), hh, errV_pos he]
    rw [errV_pos he] at C
    generalize SpentM.err l = q at C ⊢
    clear hp he hh
    go_enter Tryz.func143, Tryz.ntmps143
    go_wp2_with fail
    refine (unhide C).mono ?_
    rintro e w1 ⟨rfl, hb1⟩
    have HB1 := hide hb1
    clear hb1
    go_wp2
    go_ret2
    exact ⟨none, 0, 0, rfl, nil_row _, ⟨nil_new _, nil_blk _ _⟩, unhide HB1⟩
theorem sspend_new {l : List (Int × Int)} {a : Option Addr} {len cap : Nat} (n till now : Int) (w : World) (hp : PRow w a len cap l) :
    Calls Tryz.prog 143 #[.slice a len cap, .int .i64 n, .int .i64 till, .int .i64 now] w fun e w' => ∃ a' n' cap', e = .returned (.tuple #[.slice a' n' cap', errV (SpentM.spendErr l n till now)]) ∧ PRow w' a' n' cap' (SpentM.spend l n till now) ∧ NewRow w.heap.size a' ∧ Below w.heap.size w w' := by
  refine (sspend_typed n till now w hp).mono ?_
  rintro e w' ⟨a', n', cap', h1, h2, h3, h4⟩
  exact ⟨a', n', cap', h1, h2, h3.1, h4⟩
theorem sspend_any {l : List (Int × Int)} {a : Option Addr} {len cap : Nat} (n till now : Int) (w : World) (hp : PRow w a len cap l) :
    Calls Tryz.prog 143 #[.slice a len cap, .int .i64 n, .int .i64 till, .int .i64 now] w fun e w' => ∃ a' n' cap', e = .returned (.tuple #[.slice a' n' cap', errV (SpentM.spendErr l n till now)]) ∧ PRow w' a' n' cap' (SpentM.spend l n till now) ∧ Below w.heap.size w w' := by
  refine (sspend_new n till now w hp).mono ?_
  rintro e w' ⟨a', n', cap', h1, h2, -, h3⟩
  exact ⟨a', n', cap', h1, h2, h3⟩
end Go.Proofs.YthaicpepgianpakGreatDoor
