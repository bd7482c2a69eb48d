/-
  What the calls of package spent come to, said of lists of pairs: numbered, fits, Check, left, Spend, Has, Drop; and slices.ContainsFunc of them.
-/
import Derived.Test.YthaicpepgianpakGreatDoorTokenWalks
import Derived.Test.YthaicpepgianpakGreatDoorJoinedHeld
import Derived.Test.YthaicpepgianpakGreatDoorJoinedVaultMath
import Derived.Test.YthaicpepgianpakGreatDoorSpentMath
import Derived.Deep.RegionHeld3
import Derived.Deep.DrawnRows
namespace Go.Proofs.YthaicpepgianpakGreatDoor
open Go.RowKit
attribute [local go_sem ↓] Go.wp_at_zero Go.wp_at_succ


theorem numbered_any (n : Int) (w : World) :
    Calls Tryz.prog 161 #[.int .i64 n] w fun e w' => e = .returned (.func (.func 170) #[] #[.pointer (some ⟨w.heap.size, 0, none⟩)]) ∧ w'.cell? ⟨w.heap.size, 0, none⟩ = some (.int .i64 n) ∧ Below w.heap.size w w' := by
  go_enter Tryz.func161, Tryz.ntmps161
  go_wp2
  go_ret
  exact ⟨rfl, by simp, (by (repeat' (first | exact Below.refl _ _ | refine Below.alloc ?_ ?_ _ | refine Below.setCell ?_ ?_ _ | refine Below.drew ?_)); all_goals (first | exact Nat.le_refl _ | omega | (simp; done) | (simp; omega)))⟩

theorem num_any (x t n : Int) (B : Nat) (w : World) (hB : B < w.heap.size) (hc : w.cell? ⟨B, 0, none⟩ = some (.int .i64 n)) :
    Calls Tryz.prog 170 #[.agg #[.int .i64 x, .int .i64 t], .pointer (some ⟨B, 0, none⟩)] w fun e w' => e = .returned (.bool (x == n)) ∧ Below w.heap.size w w' := by
  go_enter Tryz.func170, Tryz.ntmps170
  go_wp2
  go_ret
  exact ⟨rfl, (by (repeat' (first | exact Below.refl _ _ | refine Below.alloc ?_ ?_ _ | refine Below.setCell ?_ ?_ _ | refine Below.drew ?_)); all_goals (first | exact Nat.le_refl _ | omega | (simp; done) | (simp; omega)))⟩

theorem sfits_any (x t : Int) (w : World) :
    Calls Tryz.prog 158 #[.agg #[.int .i64 x, .int .i64 t]] w fun e w' => e = .returned (.bool (SpentM.fitB (x, t))) ∧ Below w.heap.size w w' := by
  have C1 := hide (fun w => fits_any x w)
  have C2 := hide (fun w => time_any t w)
  unfold SpentM.fitB
  cases h1 : TagM.inB x with
  | false =>
    rw [h1] at C1
    simp only [Bool.false_and]
    clear h1
    go_enter Tryz.func158, Tryz.ntmps158
    go_wp2_with fail
    refine (unhide C1 _).mono ?_
    rintro e w' ⟨rfl, rfl⟩
    go_wp2
    go_ret
    exact ⟨rfl, (by (repeat' (first | exact Below.refl _ _ | refine Below.alloc ?_ ?_ _ | refine Below.setCell ?_ ?_ _ | refine Below.drew ?_)); all_goals (first | exact Nat.le_refl _ | omega | (simp; done) | (simp; omega)))⟩
  | true =>
    rw [h1] at C1
    simp only [Bool.true_and]
    clear h1
    generalize TokenM.timeB t = q at C2 ⊢
    go_enter Tryz.func158, Tryz.ntmps158
    go_wp2_with fail
    refine (unhide C1 _).mono ?_
    rintro e w' ⟨rfl, rfl⟩
    go_wp2_with fail
    refine (unhide C2 _).mono ?_
    rintro e w' ⟨rfl, rfl⟩
    go_wp2
    go_ret
    exact ⟨rfl, (by (repeat' (first | exact Below.refl _ _ | refine Below.alloc ?_ ?_ _ | refine Below.setCell ?_ ?_ _ | refine Below.drew ?_)); all_goals (first | exact Nat.le_refl _ | omega | (simp; done) | (simp; omega)))⟩

/-- slices.IndexFunc of some with that number: where it is, or -1. -/
theorem index_any {l : List (Int × Int)} {a : Option Addr} (cap : Nat) (n : Int) (B : Nat) (w : World) (hl : l.length ≤ 16) (hp : Pairs w a l) (hc : w.cell? ⟨B, 0, none⟩ = some (.int .i64 n)) :
    Calls Tryz.prog 169 #[.slice a l.length cap, .func (.func 170) #[] #[.pointer (some ⟨B, 0, none⟩)]] w fun e w' =>
      ∃ r : Int, e = .returned (.int .i64 r) ∧ ((SpentM.hasB l n = true ∧ 0 ≤ r) ∨ (SpentM.hasB l n = false ∧ r = -1)) ∧ Below w.heap.size w w' := by
  have HP := hide hp
  have HC := hide hc
  clear hp hc
  generalize hlen : l.length = len at hl ⊢
  have HL := hide hlen
  clear hlen
  go_enter Tryz.func169, Tryz.ntmps169
  go_wp2
  go_loopw [8] (fun i wr => ∃ k : Nat, k ≤ len ∧ i = .int .i64 k ∧ SpentM.hasB (l.take k) n = false ∧ Below w.heap.size w wr) (fun i _ => len - (intOf i).toNat)
  case atStart => exact ⟨0, Nat.zero_le _, rfl, rfl, Below.refl _ _⟩
  case round =>
    obtain ⟨k, hk, rfl, hno, hb⟩ := hrel
    by_cases hlt : k < len
    · have hr := hide (SpentM.hasB_at (n := n) (l := l) (k := k) (by rw [unhide HL]; exact hlt))
      obtain ⟨b, off, rfl, c1, c2⟩ := ((unhide HP).later hb) k (by rw [unhide HL]; exact hlt)
      have c0 := cell_later hb (unhide HC)
      have HB := hide hb
      have HN := hide hno
      have Q := hide (fun x t w' (h : Below w.heap.size w w') => num_any x t n B w' (Nat.lt_of_lt_of_le (World.block_lt_of_cell? _ _ (unhide HC)) h.size) (cell_later h (unhide HC)))
      clear hb hno c0
      generalize l.getD k (0, 0) = s at c1 c2 hr
      go_wp2_with fail
      refine (unhide Q _ _ _ (unhide HB)).mono ?_
      rintro e w1 ⟨rfl, hb1⟩
      have HB1 := hide (Below.trans (unhide HB) (hb1.mono (unhide HB).size))
      clear hb1 c1 c2
      cases hq : (s.1 == n) with
      | true =>
        have hr' := hide (show SpentM.hasB (l.take (k + 1)) n = true from (unhide hr).trans (by rw [unhide HN, hq]; rfl))
        clear hq hr
        go_wp2
        go_ret
        refine ⟨_, rfl, .inl ⟨?_, by omega⟩, unhide HB1⟩
        have h := unhide hr'
        rw [SpentM.hasB_iff] at h ⊢
        exact (List.Sublist.map _ (List.take_sublist _ _)).subset (by simpa using h)
      | false =>
        have hr' := hide (show SpentM.hasB (l.take (k + 1)) n = false from (unhide hr).trans (by rw [unhide HN, hq]; rfl))
        clear hq hr
        go_wp2
        go_roundw
        case rel => exact ⟨k + 1, by omega, by go_num, unhide hr', unhide HB1⟩
        case measure => simp [intOf]; omega
    · have HN := hide hno
      have HB := hide hb
      clear hno hb
      go_wp2
      go_ret
      refine ⟨_, rfl, .inr ⟨?_, rfl⟩, unhide HB⟩
      have h := unhide HN
      rwa [List.take_of_length_le (by rw [unhide HL]; omega)] at h

theorem contains_any {l : List (Int × Int)} {a : Option Addr} (cap : Nat) (n : Int) (B : Nat) (w : World) (hl : l.length ≤ 16) (hp : Pairs w a l) (hc : w.cell? ⟨B, 0, none⟩ = some (.int .i64 n)) :
    Calls Tryz.prog 160 #[.slice a l.length cap, .func (.func 170) #[] #[.pointer (some ⟨B, 0, none⟩)]] w fun e w' => e = .returned (.bool (SpentM.hasB l n)) ∧ Below w.heap.size w w' := by
  have Q := hide (index_any cap n B w hl hp hc)
  clear hp hc
  generalize l.length = len at Q ⊢
  generalize SpentM.hasB l n = q at Q ⊢
  go_enter Tryz.func160, Tryz.ntmps160
  go_wp2_with fail
  refine (unhide Q).mono ?_
  rintro e w1 ⟨r, rfl, ⟨rfl, hr⟩ | ⟨rfl, rfl⟩, hb⟩
  · have HB := hide hb
    clear hb
    go_wp2
    go_ret
    exact ⟨rfl, unhide HB⟩
  · have HB := hide hb
    clear hb
    go_wp2
    go_ret
    exact ⟨rfl, unhide HB⟩

theorem contains_row {l : List (Int × Int)} {a : Option Addr} {len cap : Nat} (n : Int) (B : Nat) (w : World) (hl : len ≤ 16) (hp : PRow w a len cap l) (hc : w.cell? ⟨B, 0, none⟩ = some (.int .i64 n)) :
    Calls Tryz.prog 160 #[.slice a len cap, .func (.func 170) #[] #[.pointer (some ⟨B, 0, none⟩)]] w fun e w' => e = .returned (.bool (SpentM.hasB l n)) ∧ Below w.heap.size w w' := by
  obtain ⟨rfl, _, hp⟩ := hp
  exact contains_any cap n B w hl hp hc

/-- What is kept of the cells, behind a call inside a region. -/
theorem reg_step1 {W W1 W2 : World} {c : Addr} {v : Value} (h : Hid (Below W.heap.size W W1) ∧ W1.cell? c = some v) (hb : Below W1.heap.size W1 W2) : Hid (Below W.heap.size W W2) ∧ W2.cell? c = some v :=
  ⟨hide (Below.trans (unhide h.1) (hb.mono (unhide h.1).size)), cell_later hb h.2⟩

set_option maxHeartbeats 1600000 in
theorem scheck_any {l : List (Int × Int)} {a : Option Addr} {len cap : Nat} (w : World) (hp : PRow w a len cap l) :
    Calls Tryz.prog 157 #[.slice a len cap] w fun e w' => e = .returned (errV (SpentM.err l)) ∧ Below w.heap.size w w' := by
  have hlen := hp.1
  by_cases hl : 16 < len
  · have HE : SpentM.err l = 4 := by unfold SpentM.err; rw [if_pos (by omega)]
    rw [HE, errV_pos (by omega)]
    clear HE hp hlen
    go_enter Tryz.func157, Tryz.ntmps157
    go_wp2
    go_ret
    exact ⟨rfl, Below.refl _ _⟩
  · have HE : SpentM.err l = SpentM.scan [] l := by unfold SpentM.err; rw [if_neg (by omega)]
    rw [HE]
    clear HE
    have hl' : len ≤ 16 := by omega
    have hcap := hp.2.1
    have HP := hide hp
    have HL := hide hlen
    have HS := hide (show SpentM.scan (l.take 0) (l.drop 0) = SpentM.scan [] l from rfl)
    generalize SpentM.scan [] l = E at HS ⊢
    clear hp hlen hl
    go_enter Tryz.func157, Tryz.ntmps157
    go_wp2
    go_loopw [11] (fun i wr => ∃ k : Nat, k ≤ len ∧ i = .int .i64 k ∧ Hid (SpentM.scan (l.take k) (l.drop k) = E) ∧ Hid (Below w.heap.size w wr)) (fun i _ => len - (intOf i).toNat)
    case atStart => exact ⟨0, Nat.zero_le _, rfl, HS, hide (Below.refl _ _)⟩
    case round =>
      obtain ⟨k, hk, rfl, HK, HB⟩ := hrel
      by_cases hlt : k < len
      · have hs := hide (SpentM.scan_at (l := l) (k := k) (by rw [unhide HL]; exact hlt))
        obtain ⟨b, off, rfl, c1, c2⟩ := ((unhide HP).later (unhide HB)).2.2 k (by rw [unhide HL]; exact hlt)
        generalize l.getD k (0, 0) = s at c1 c2 hs
        obtain ⟨x, t⟩ := s
        dsimp only at c1 c2 hs
        cases hf : SpentM.fitB (x, t) with
        | false =>
          have C := hide (fun w => sfits_any x t w)
          rw [hf] at C
          have HE1 := hide (show E = 1 by rw [← unhide HK, unhide hs, hf]; rfl)
          clear hs hf
          go_wp2_with fail
          refine (unhide C _).mono ?_
          rintro e w1 ⟨rfl, hb1⟩
          have HB1 := hide (bel3 (unhide HB) (by (repeat' (first | exact Below.refl _ _ | refine Below.alloc ?_ ?_ _ | refine Below.setCell ?_ ?_ _ | refine Below.drew ?_)); all_goals (first | exact Nat.le_refl _ | omega | (simp; done) | (simp; omega))) hb1)
          clear hb1 c1 c2
          go_wp2
          go_ret
          exact ⟨by rw [unhide HE1, errV_pos (by omega)]; rfl, unhide HB1⟩
        | true =>
          have C := hide (fun w => sfits_any x t w)
          rw [hf] at C
          have hs' := hide (show E = if SpentM.hasB (l.take k) x = true then 7 else SpentM.scan (l.take (k + 1)) (l.drop (k + 1)) from (unhide HK).symm.trans ((unhide hs).trans (by rw [hf, if_pos rfl])))
          have Q := hide (fun (B : Nat) (W : World) (hp : PRow W (some ⟨b, off, none⟩) k cap (l.take k)) (hc : W.cell? ⟨B, 0, none⟩ = some (.int .i64 x)) => contains_row x B W (by omega) hp hc)
          generalize SpentM.hasB (l.take k) x = q at Q hs'
          clear hs hf
          go_wp2_with fail
          refine (unhide C _).mono ?_
          rintro e w1 ⟨rfl, hb1⟩
          have HS1 := hide ((Held.fresh (w := wr) [.int .i64 x, .int .i64 t] 190 rfl).later hb1)
          have HB1 := hide (bel3 (unhide HB) (by (repeat' (first | exact Below.refl _ _ | refine Below.alloc ?_ ?_ _ | refine Below.setCell ?_ ?_ _ | refine Below.drew ?_)); all_goals (first | exact Nat.le_refl _ | omega | (simp; done) | (simp; omega))) hb1)
          clear hb1 c1 c2
          obtain ⟨s0, s1⟩ := (unhide HS1).c2.1
          have sl := (unhide HS1).2
          clear s1
          have hk0 : (0 : Int) ≤ (k : Int) := by omega
          have hkc : (k : Int) ≤ (cap : Int) := by omega
          go_wp2
          go_region_held3 (fun w' => Hid (Below w1.heap.size w1 w') ∧ w'.cell? ⟨wr.heap.size, 0, none⟩ = some (.int .i64 x)) (first | exact reg_step1 (by assumption) hb | exact ⟨hide ((Below.refl _ _).drew), by rw [World.cell?_drew]; exact s0⟩)
            (first | (go_at_call 161; refine (numbered_any _ _).mono ?_; rintro e w' ⟨rfl, hq, hb⟩) | (go_at_call 160; refine (unhide Q _ _ (((unhide HP).later (Below.trans (unhide HB1) ((unhide (And.left ‹Hid (Below w1.heap.size w1 _) ∧ _›)).mono (unhide HB1).size))).take hk) (by assumption)).mono ?_; rintro e w' ⟨rfl, hb⟩))
          have HBx := hide (Below.trans (unhide HB1) ((unhide (And.left ‹Hid (Below w1.heap.size w1 _) ∧ _›)).mono (unhide HB1).size))
          clear s0
          cases q with
          | true =>
            have HE1 := hide (show E = 7 from unhide hs')
            go_wp2
            go_ret
            exact ⟨by rw [unhide HE1, errV_pos (by omega)]; rfl, unhide HBx⟩
          | false =>
            have HE1 := hide (show SpentM.scan (l.take (k + 1)) (l.drop (k + 1)) = E from (unhide hs').symm)
            go_wp2
            go_roundw
            case rel => exact ⟨k + 1, by omega, by go_num, HE1, HBx⟩
            case measure => simp [intOf]; omega
      · have HE1 := hide (show E = 0 from (unhide HK).symm.trans (SpentM.scan_end (by rw [unhide HL]; exact hlt)))
        go_wp2
        go_ret
        exact ⟨by rw [unhide HE1, errV_zero rfl]; rfl, unhide HB⟩
end Go.Proofs.YthaicpepgianpakGreatDoor
