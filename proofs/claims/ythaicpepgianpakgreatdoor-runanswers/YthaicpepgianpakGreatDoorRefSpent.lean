/-
  What the reference's Spents, Has, Drop and Spend come to; and foldsame.Spent of two that read alike.
-/
import Derived.Test.YthaicpepgianpakGreatDoorSpendWalks
import Derived.Test.YthaicpepgianpakGreatDoorRefToken
namespace Go.Proofs.YthaicpepgianpakGreatDoor
open Go.RowKit
attribute [local go_sem ↓] Go.wp_at_zero Go.wp_at_succ

/-- What is kept of two cells inside a region that only reads. -/
theorem reg_start2 {W : World} {c d : Addr} {v u : Value} (h1 : W.cell? c = some v) (h2 : W.cell? d = some u) : Hid (Below W.heap.size W W.drew) ∧ W.drew.cell? c = some v ∧ W.drew.cell? d = some u :=
  ⟨hide ((Below.refl _ _).drew), by rw [World.cell?_drew]; exact h1, by rw [World.cell?_drew]; exact h2⟩

set_option maxHeartbeats 1600000 in
set_option maxRecDepth 8000 in
theorem ref_has {l : List (Int × Int)} {a : Option Addr} {len cap : Nat} (n : Int) (w : World) (hl : len ≤ 16) (hp : PRow w a len cap l) :
    Calls Tryz.prog 101 #[.slice a len cap, .int .i64 n] w fun e w' => e = .returned (.bool (SpentM.hasB l n)) ∧ w' = w := by
  have HL := hide hp.1
  have HP := hide hp
  generalize hq : SpentM.hasB l n = q
  have HQ := hide hq
  clear hp hq
  go_enter Tryz.func101, Tryz.ntmps101
  go_wp2
  go_loop [5] (fun i => ∃ k : Nat, k ≤ len ∧ i = .int .i64 k ∧ Hid (SpentM.hasB (l.take k) n = false)) (fun i => len - (intOf i).toNat)
  case atStart => exact ⟨0, Nat.zero_le _, rfl, hide rfl⟩
  case round =>
    obtain ⟨k, hk, rfl, HN⟩ := hrel
    by_cases hlt : k < len
    · have hr := hide (SpentM.hasB_at (n := n) (l := l) (k := k) (by rw [unhide HL]; exact hlt))
      obtain ⟨b, off, rfl, c1, c2⟩ := (unhide HP).2.2 k (by rw [unhide HL]; exact hlt)
      generalize l.getD k (0, 0) = s at c1 c2 hr
      obtain ⟨x, t⟩ := s
      dsimp only at c1 c2 hr
      clear c2
      by_cases hx : x = n
      · have hx' : (x == n) = true := by simp [hx]
        have HE := hide (show q = true by
          have h : SpentM.hasB (l.take (k + 1)) n = true := (unhide hr).trans (by rw [hx', Bool.or_true])
          rw [← unhide HQ]
          rw [SpentM.hasB_iff] at h ⊢
          exact (List.Sublist.map _ (List.take_sublist _ _)).subset h)
        go_wp2
        go_ret
        exact ⟨by rw [unhide HE]; rfl, rfl⟩
      · have hx' : (x == n) = false := by simp [hx]
        have hr' := hide (show SpentM.hasB (l.take (k + 1)) n = false from (unhide hr).trans (by rw [unhide HN, hx']; rfl))
        clear hr
        go_wp2
        go_round
        case rel => exact ⟨k + 1, by omega, by go_num, hr'⟩
        case measure => simp [intOf]; omega
    · have HE := hide (show q = false by have h := unhide HN; rw [List.take_of_length_le (by rw [unhide HL]; omega)] at h; rw [← unhide HQ]; exact h)
      go_wp2
      go_ret
      exact ⟨by rw [unhide HE]; rfl, rfl⟩

set_option maxHeartbeats 1600000 in
set_option maxRecDepth 8000 in
theorem ref_drop {l : List (Int × Int)} {a : Option Addr} {len cap : Nat} (now : Int) (w : World) (hl : len ≤ 16) (hp : PRow w a len cap l) :
    Calls Tryz.prog 100 #[.slice a len cap, .int .i64 now] w fun e w' => ∃ a' n' cap', e = .returned (.slice a' n' cap') ∧ Hid (w'.ownsRow w.heap.size 190 2 (.slice a' n' cap') n' (flat (SpentM.left l now))) ∧ PRow w' a' n' cap' (SpentM.left l now) ∧ Below w.heap.size w w' := by
  obtain ⟨i0, hi, hz0, hz1, hz2⟩ := info_parts infoSpent
  have HL := hide hp.1
  have HP := hide hp
  clear hp
  go_enter Tryz.func100, Tryz.ntmps100
  go_wp2
  go_loopw [5, 6] (fun v i wr => ∃ k n' : Nat, k ≤ len ∧ n' ≤ k ∧ i = .int .i64 k ∧ Hid (wr.ownsRow w.heap.size 190 2 v n' (flat (SpentM.left (l.take k) now))) ∧ Hid (Below w.heap.size w wr)) (fun _ i _ => len - (intOf i).toNat)
  case atStart => exact ⟨0, 0, Nat.zero_le _, Nat.zero_le _, rfl, hide (World.ownsRow_nil _ _ _ _), hide (Below.refl _ _)⟩
  case round =>
    obtain ⟨k, n', hk, hn', rfl, HO, HB⟩ := hrel
    by_cases hlt : k < len
    · have hs := hide (SpentM.left_at (l := l) (k := k) (now := now) (by rw [unhide HL]; exact hlt))
      obtain ⟨b, off, rfl, c1, c2⟩ := ((unhide HP).later (unhide HB)).2.2 k (by rw [unhide HL]; exact hlt)
      generalize l.getD k (0, 0) = s at c1 c2 hs
      obtain ⟨x, t⟩ := s
      dsimp only at c1 c2 hs
      by_cases hnow : now ≤ t
      · have hs' := hide (show SpentM.left (l.take (k + 1)) now = SpentM.left (l.take k) now ++ [(x, t)] from (unhide hs).trans (by rw [if_pos hnow]))
        clear hs
        have hB := (unhide HB).size
        go_wp2_with (at_builtin; refine wpList_append_own _ rfl _ _ 62 rfl w.heap.size 190 i0 (.agg #[.int .i64 0, .int .i64 0]) 2 16 Tryz.underlying62 hi hz0 hz1 hz2 rfl (by decide) _ _ _ rfl ((unhide HO).alloc _) ⟨wr.heap.size, 0, none⟩ 1 1 [.int .i64 x, .int .i64 t] rfl rfl ?c1 ?c2 ?c3 ?c4 ?c5 ?_)
        case c1 =>
          intro j u hj
          match j, hj with
          | 0, hj => simp at hj; subst hj; simp [Addr.add]
          | 1, hj => simp at hj; subst hj; simp [Addr.add]
          | j + 2, hj => simp at hj
        case c2 => exact flat_one [(x, t)]
        case c3 => unfold maxLen; omega
        case c4 => omega
        case c5 => simp; omega
        · intro v' w1 hown' hgrow _
          have R := own_snoc ((unhide HO).alloc _) (show Below w.heap.size w _ from Below.alloc (unhide HB) hB _) (by simp; omega) hown' hgrow
          have HO1 := hide R.1
          have HB1 := hide R.2
          clear R hown' hgrow c1 c2
          go_wp2
          go_roundw
          case rel => exact ⟨k + 1, n' + 1, by omega, by omega, by go_num, by rw [unhide hs']; exact HO1, HB1⟩
          case measure => simp [intOf]; omega
      · have hs' := hide (show SpentM.left (l.take (k + 1)) now = SpentM.left (l.take k) now from (unhide hs).trans (by rw [if_neg hnow, List.append_nil]))
        clear hs
        go_wp2
        go_roundw
        case rel => exact ⟨k + 1, n', by omega, by omega, by go_num, by rw [unhide hs']; exact HO, HB⟩
        case measure => simp [intOf]; omega
    · have hs' := hide (show SpentM.left (l.take k) now = SpentM.left l now from by rw [List.take_of_length_le (by rw [unhide HL]; omega)])
      rw [unhide hs'] at HO
      obtain ⟨a', cap', rfl, hp'⟩ := own_row (unhide HO)
      have HR := hide hp'
      clear hp'
      go_wp2
      go_ret
      exact ⟨_, _, _, rfl, HO, unhide HR, unhide HB⟩



set_option maxHeartbeats 3200000 in
set_option maxRecDepth 8000 in
theorem ref_spend_typed {l : List (Int × Int)} {a : Option Addr} {len cap : Nat} (n till now : Int) (w : World) (hl : len ≤ 16) (hp : PRow w a len cap l) :
    Calls Tryz.prog 72 #[.slice a len cap, .int .i64 n, .int .i64 till, .int .i64 now] w fun e w' => ∃ a' n' cap', e = .returned (.tuple #[.slice a' n' cap', .int .i64 (SpentM.restErr l n till now)]) ∧ PRow w' a' n' cap' (SpentM.told (SpentM.restErr l n till now) (SpentM.left l now ++ [(n, till)])) ∧ (NewRow w.heap.size a' ∧ BlkOf 190 w' a') ∧ Below w.heap.size w w' := by
  have C1 := hide (fun w => in_any n w)
  have C2 := hide (fun w => rtime_any till w)
  have C3 := hide (fun w => rtime_any now w)
  by_cases hr : TagM.inB n = true ∧ TokenM.timeB till = true ∧ TokenM.timeB now = true
  · obtain ⟨r1, r2, r3⟩ := hr
    rw [r1] at C1
    rw [r2] at C2
    rw [r3] at C3
    by_cases hlate : till < now
    · have hh : SpentM.restErr l n till now = 9 := by unfold SpentM.restErr; rw [if_pos ⟨r1, r2, r3⟩, if_pos hlate]
      rw [hh, SpentM.told_pos (by omega)]
      clear hh hp r1 r2 r3
      go_enter Tryz.func72, Tryz.ntmps72
      go_wp2_with fail
      refine (unhide C1 _).mono ?_
      rintro e w' ⟨rfl, rfl⟩
      go_wp2_with fail
      refine (unhide C2 _).mono ?_
      rintro e w' ⟨rfl, rfl⟩
      go_wp2_with fail
      refine (unhide C3 _).mono ?_
      rintro e w' ⟨rfl, rfl⟩
      go_wp2
      go_ret2
      exact ⟨none, 0, 0, rfl, nil_row _, ⟨nil_new _, nil_blk _ _⟩, Below.refl _ _⟩
    · obtain ⟨i0, hi, hz0, hz1, hz2⟩ := info_parts infoSpent
      have HE := hide (show SpentM.restErr l n till now = if SpentM.hasB (SpentM.left l now) n = true then 7 else if (SpentM.left l now).length = 16 then 4 else 0 by unfold SpentM.restErr; rw [if_pos ⟨r1, r2, r3⟩, if_neg hlate])
      have hm := SpentM.left_le l now
      have HM := hide (show (SpentM.left l now).length ≤ 16 by have := hp.1; omega)
      generalize SpentM.restErr l n till now = E at HE ⊢
      have HP := hide hp
      clear hp r1 r2 r3 hm
      have Q := hide (fun (W : World) (a : Option Addr) (len cap : Nat) (hl : len ≤ 16) (hp : PRow W a len cap (SpentM.left l now)) => ref_has n W hl hp)
      generalize SpentM.hasB (SpentM.left l now) n = q at Q HE
      go_enter Tryz.func72, Tryz.ntmps72
      go_wp2_with fail
      refine (unhide C1 _).mono ?_
      rintro e w' ⟨rfl, hw⟩
      obtain rfl := hw.symm
      clear hw
      go_wp2_with fail
      refine (unhide C2 _).mono ?_
      rintro e w' ⟨rfl, hw⟩
      obtain rfl := hw.symm
      clear hw
      go_wp2_with fail
      refine (unhide C3 _).mono ?_
      rintro e w' ⟨rfl, hw⟩
      obtain rfl := hw.symm
      clear hw
      go_wp2_with fail
      refine (ref_drop _ _ hl (unhide HP)).mono ?_
      rintro e w3 ⟨a', n', cap', rfl, HK3, hp3, hb3⟩
      have hn' : n' ≤ 16 := by have := unhide HM; have := hp3.1; omega
      have HN := hide (show (SpentM.left l now).length = n' from hp3.1)
      have HR3 := hide hp3
      have HB3 := hide hb3
      clear hb3 hp3
      go_wp2_with fail
      refine (unhide Q _ _ _ _ hn' (unhide HR3)).mono ?_
      rintro e w' ⟨rfl, hw⟩
      obtain rfl := hw.symm
      clear hw
      cases q with
      | true =>
        have HE1 := hide (show E = 7 from unhide HE)
        go_wp2
        go_ret2
        exact ⟨none, 0, 0, by rw [unhide HE1]; rfl, by rw [unhide HE1, SpentM.told_pos (by omega)]; exact nil_row _, ⟨nil_new _, nil_blk _ _⟩, unhide HB3⟩
      | false =>
        by_cases hn : (16 : Int) ≤ (n' : Int)
        · have HE1 := hide (show E = 4 from (unhide HE).trans (by rw [if_neg (by simp), if_pos (by rw [unhide HN]; omega)]))
          go_wp2
          go_ret2
          exact ⟨none, 0, 0, by rw [unhide HE1]; rfl, by rw [unhide HE1, SpentM.told_pos (by omega)]; exact nil_row _, ⟨nil_new _, nil_blk _ _⟩, unhide HB3⟩
        · have HE1 := hide (show E = 0 from (unhide HE).trans (by rw [if_neg (by simp), if_neg (by rw [unhide HN]; omega)]))
          have hB := (unhide HB3).size
          go_wp2_with (at_builtin; refine wpList_append_own _ rfl _ _ 62 rfl w.heap.size 190 i0 (.agg #[.int .i64 0, .int .i64 0]) 2 16 Tryz.underlying62 hi hz0 hz1 hz2 rfl (by decide) _ _ _ rfl ((unhide HK3).alloc _) ⟨w3.heap.size, 0, none⟩ 1 1 [.int .i64 n, .int .i64 till] rfl rfl ?c1 ?c2 ?c3 ?c4 ?c5 ?_)
          case c1 =>
            intro j u hj
            match j, hj with
            | 0, hj => simp at hj; subst hj; simp [Addr.add]
            | 1, hj => simp at hj; subst hj; simp [Addr.add]
            | j + 2, hj => simp at hj
          case c2 => exact flat_one [(n, till)]
          case c3 => unfold maxLen; omega
          case c4 => omega
          case c5 => simp; omega
          · intro v' w6 hown' hgrow _
            have R := own_snoc ((unhide HK3).alloc _) (show Below w.heap.size w _ from Below.alloc (unhide HB3) hB _) (by simp; omega) hown' hgrow
            obtain ⟨a6, cap6, rfl, hp6, hn6⟩ := own_new R.1
            have HNW := hide (And.intro hn6 (own_blk R.1))
            have HR6 := hide hp6
            have HB6 := hide R.2
            clear R hown' hgrow hp6 hn6
            go_wp2
            go_ret2
            exact ⟨_, _, _, by rw [unhide HE1]; rfl, by rw [unhide HE1, SpentM.told_zero rfl]; exact unhide HR6, unhide HNW, unhide HB6⟩
  · have hh : SpentM.restErr l n till now = 1 := by unfold SpentM.restErr; rw [if_neg hr]
    rw [hh, SpentM.told_pos (by omega)]
    clear hh hp
    cases r1 : TagM.inB n with
    | false =>
      rw [r1] at C1
      clear hr r1
      generalize TokenM.timeB till = q2 at C2
      generalize TokenM.timeB now = q3 at C3
      go_enter Tryz.func72, Tryz.ntmps72
      go_wp2_with fail
      refine (unhide C1 _).mono ?_
      rintro e w' ⟨rfl, rfl⟩
      go_wp2_with fail
      refine (unhide C2 _).mono ?_
      rintro e w' ⟨rfl, rfl⟩
      go_wp2_with fail
      refine (unhide C3 _).mono ?_
      rintro e w' ⟨rfl, rfl⟩
      go_wp2
      go_ret2
      exact ⟨none, 0, 0, rfl, nil_row _, ⟨nil_new _, nil_blk _ _⟩, Below.refl _ _⟩
    | true =>
      rw [r1] at C1
      cases r2 : TokenM.timeB till with
      | false =>
        rw [r2] at C2
        clear hr r1 r2
        generalize TokenM.timeB now = q3 at C3
        go_enter Tryz.func72, Tryz.ntmps72
        go_wp2_with fail
        refine (unhide C1 _).mono ?_
        rintro e w' ⟨rfl, rfl⟩
        go_wp2_with fail
        refine (unhide C2 _).mono ?_
        rintro e w' ⟨rfl, rfl⟩
        go_wp2_with fail
        refine (unhide C3 _).mono ?_
        rintro e w' ⟨rfl, rfl⟩
        go_wp2
        go_ret2
        exact ⟨none, 0, 0, rfl, nil_row _, ⟨nil_new _, nil_blk _ _⟩, Below.refl _ _⟩
      | true =>
        have r3 : TokenM.timeB now = false := by simpa [r1, r2] using hr
        rw [r2] at C2
        rw [r3] at C3
        clear hr r1 r2 r3
        go_enter Tryz.func72, Tryz.ntmps72
        go_wp2_with fail
        refine (unhide C1 _).mono ?_
        rintro e w' ⟨rfl, rfl⟩
        go_wp2_with fail
        refine (unhide C2 _).mono ?_
        rintro e w' ⟨rfl, rfl⟩
        go_wp2_with fail
        refine (unhide C3 _).mono ?_
        rintro e w' ⟨rfl, rfl⟩
        go_wp2
        go_ret2
        exact ⟨none, 0, 0, rfl, nil_row _, ⟨nil_new _, nil_blk _ _⟩, Below.refl _ _⟩
theorem ref_spend_new {l : List (Int × Int)} {a : Option Addr} {len cap : Nat} (n till now : Int) (w : World) (hl : len ≤ 16) (hp : PRow w a len cap l) :
    Calls Tryz.prog 72 #[.slice a len cap, .int .i64 n, .int .i64 till, .int .i64 now] w fun e w' => ∃ a' n' cap', e = .returned (.tuple #[.slice a' n' cap', .int .i64 (SpentM.restErr l n till now)]) ∧ PRow w' a' n' cap' (SpentM.told (SpentM.restErr l n till now) (SpentM.left l now ++ [(n, till)])) ∧ NewRow w.heap.size a' ∧ Below w.heap.size w w' := by
  refine (ref_spend_typed n till now w hl hp).mono ?_
  rintro e w' ⟨a', n', cap', h1, h2, h3, h4⟩
  exact ⟨a', n', cap', h1, h2, h3.1, h4⟩
theorem ref_spend {l : List (Int × Int)} {a : Option Addr} {len cap : Nat} (n till now : Int) (w : World) (hl : len ≤ 16) (hp : PRow w a len cap l) :
    Calls Tryz.prog 72 #[.slice a len cap, .int .i64 n, .int .i64 till, .int .i64 now] w fun e w' => ∃ a' n' cap', e = .returned (.tuple #[.slice a' n' cap', .int .i64 (SpentM.restErr l n till now)]) ∧ PRow w' a' n' cap' (SpentM.told (SpentM.restErr l n till now) (SpentM.left l now ++ [(n, till)])) ∧ Below w.heap.size w w' := by
  refine (ref_spend_new n till now w hl hp).mono ?_
  rintro e w' ⟨a', n', cap', h1, h2, -, h3⟩
  exact ⟨a', n', cap', h1, h2, h3⟩
end Go.Proofs.YthaicpepgianpakGreatDoor
