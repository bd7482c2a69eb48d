/-
  Texts joined: RefText RefSmall RefGreet RefLine.
-/
import Derived.Test.YthaicpepgianpakGreatDoorJoinedRunLaid
import Derived.Test.YthaicpepgianpakGreatDoorJoinedRunAs
import Derived.Test.YthaicpepgianpakGreatDoorRefHello
import Derived.Test.YthaicpepgianpakGreatDoorJoinedRefConn
import Derived.Test.YthaicpepgianpakGreatDoorRunDesk
import Derived.Test.YthaicpepgianpakGreatDoorRunAnswer
namespace Go.Proofs.YthaicpepgianpakGreatDoor
open Go.RowKit Go.PlainAid
set_option linter.unusedVariables false

namespace RunM
def CutAt (c : UInt8) (s : List UInt8) (D : List (List UInt8)) (f i : Nat) : Prop := f ≤ i ∧ D ++ go c ((s.take i).drop f) (s.drop i) = cut c s
theorem CutAt.start (c : UInt8) (s : List UInt8) : CutAt c s [] 0 0 := ⟨Nat.le_refl _, by simp [go_start]⟩
theorem CutAt.hit {c : UInt8} {s : List UInt8} {D : List (List UInt8)} {f i : Nat} (h : CutAt c s D f i) (hc : s[i]? = some c) : CutAt c s (D ++ [(s.take i).drop f]) (i + 1) (i + 1) := by
  obtain ⟨hf, h⟩ := h
  have hlt := (List.getElem?_eq_some_iff.1 hc).1
  have hd : s.drop i = c :: s.drop (i + 1) := by
    rw [List.drop_eq_getElem_cons hlt, (List.getElem?_eq_some_iff.1 hc).2]
  refine ⟨Nat.le_refl _, ?_⟩
  rw [hd, go_cut] at h
  rw [← h, List.append_assoc]
  have h0 : (s.take (i + 1)).drop (i + 1) = [] := List.drop_eq_nil_of_le (by rw [List.length_take]; omega)
  rw [h0, go_start]
  rfl
theorem CutAt.miss {c x : UInt8} {s : List UInt8} {D : List (List UInt8)} {f i : Nat} (h : CutAt c s D f i) (hc : s[i]? = some x) (hx : ¬ x = c) : CutAt c s D f (i + 1) := by
  obtain ⟨hf, h⟩ := h
  have hlt := (List.getElem?_eq_some_iff.1 hc).1
  have hd : s.drop i = x :: s.drop (i + 1) := by
    rw [List.drop_eq_getElem_cons hlt, (List.getElem?_eq_some_iff.1 hc).2]
  refine ⟨Nat.le_succ_of_le hf, ?_⟩
  rw [hd, go_on hx] at h
  rw [← h, List.take_add_one, hc, List.drop_append_of_le_length (by rw [List.length_take]; omega)]
  rfl
theorem CutAt.done {c : UInt8} {s : List UInt8} {D : List (List UInt8)} {f : Nat} (h : CutAt c s D f s.length) : cut c s = D ++ [s.drop f] := by
  rw [← h.2, List.drop_length, go_end, List.take_length]
end RunM
theorem mid_data (t : ByteArray) (a b : Nat) (h : b ≤ t.size) : (t.extract a b).data.toList = (t.data.toList.take b).drop a := by
  rw [ByteArray.data_extract, Array.toList_extract, List.drop_take]
theorem mid_bs (t : ByteArray) (a b : Nat) (h : b ≤ t.size) : t.extract a b = RunM.bs ((t.data.toList.take b).drop a) := by
  rw [← mid_data t a b h]; exact (RunM.bs_data _).symm

theorem ten_cut : ∀ n, n < 10 → (⟨#[48, 49, 50, 51, 52, 53, 54, 55, 56, 57]⟩ : ByteArray).extract n (n + 1) = RunM.bs [RunM.dig n] := by
  intro n hn
  have h : n = 0 ∨ n = 1 ∨ n = 2 ∨ n = 3 ∨ n = 4 ∨ n = 5 ∨ n = 6 ∨ n = 7 ∨ n = 8 ∨ n = 9 := by omega
  rcases h with rfl | rfl | rfl | rfl | rfl | rfl | rfl | rfl | rfl | rfl <;> rfl
theorem ten_size : (⟨#[48, 49, 50, 51, 52, 53, 54, 55, 56, 57]⟩ : ByteArray).size = 10 := rfl
set_option maxRecDepth 8000 in
theorem rdigits_any (n : Nat) : n < 1000000 → ∀ w : World, Calls Tryz.prog 10 #[.int .i64 n] w fun e w' => e = .returned (.string (RunM.bs (RunM.digits n))) ∧ w' = w := by
  induction n using Nat.strongRecOn with
  | ind n ih =>
    intro hn w
    by_cases h : n < 10
    · rw [RunM.digits_small h]
      have hx := ten_cut n h
      have hz := ten_size
      have h' : (n : Int) < 10 := by omega
      go_enter Tryz.func10, Tryz.ntmps10
      go_wp2
      go_ret
      exact ⟨rfl, rfl⟩
    · have hd := RunM.digits_step h (by have : (10 : Nat) ^ 19 = 10000000000000000000 := rfl; omega)
      have C := hide (ih (n / 10) (by omega) (by omega))
      obtain ⟨r, hr⟩ : ∃ r : Nat, n % 10 = r := ⟨_, rfl⟩
      have hr' : (n : Int) % 10 = (r : Int) := by omega
      have hr10 : r < 10 := by omega
      have hx := ten_cut r hr10
      have hz := ten_size
      have HD := hide (show RunM.bs (RunM.digits (n / 10)) ++ RunM.bs [RunM.dig r] = RunM.bs (RunM.digits n) by rw [hd, RunM.bs_append, hr])
      have hs1 : (RunM.bs (RunM.digits (n / 10))).size ≤ 6 := by rw [RunM.bs_size]; exact RunM.digits_len (by omega)
      have hs2 : (RunM.bs [RunM.dig r]).size = 1 := rfl
      rw [show (((n / 10 : Nat)) : Int) = (n : Int) / 10 from by omega] at C
      generalize RunM.bs (RunM.digits (n / 10)) = A at *
      generalize RunM.bs [RunM.dig r] = E at *
      have h' : ¬ (n : Int) < 10 := by omega
      clear hd ih hr
      go_enter Tryz.func10, Tryz.ntmps10
      go_wp2_with fail
      refine (unhide C _).mono ?_
      rintro e w' ⟨rfl, rfl⟩
      go_wp2
      go_ret
      exact ⟨congrArg (fun q => Ending.returned (Value.string q)) (unhide HD), rfl⟩

theorem CutAt_at {c : UInt8} {s : ByteArray} {k : Nat} (h : k < s.size) : s.data.toList[k]? = some (s[k]'h) := by
  have h2 : k < s.data.toList.length := by rw [← Go.Lib.size_eq]; exact h
  rw [List.getElem?_eq_getElem h2]
  simp [ByteArray.getElem_eq_getElem_data]
/-- Strings in a row. -/
def strs (D : List (List UInt8)) : List Value := D.map fun p => Value.string (RunM.bs p)
theorem own_strs {w : World} {base : Nat} {v : Value} {D : List (List UInt8)} (h : w.ownsRow base 9 1 v D.length (strs D)) (hn : 0 < D.length) :
    ∃ g cap, v = .slice (some ⟨g, 0, none⟩) D.length cap ∧ D.length ≤ cap ∧ base ≤ g ∧ g < w.heap.size ∧ ∀ j p, D[j]? = some p → w.cell? ⟨g, j, none⟩ = some (.string (RunM.bs p)) := by
  rcases h.2 with ⟨rfl, h0⟩ | ⟨g, cap, cur, rfl, hb, hg, hc, _⟩
  · omega
  · refine ⟨g, cap, rfl, hc, hb, (Array.getElem?_eq_some_iff.1 hg).1, fun j n hj => ?_⟩
    have hlt : j < D.length := (List.getElem?_eq_some_iff.1 hj).1
    rw [h.cellAt j (by omega)]
    unfold strs
    rw [List.getElem?_map, hj]
    rfl
theorem u8_eq {a b : UInt8} (h : (a.toNat : Int) = (b.toNat : Int)) : a = b := UInt8.toNat_inj.1 (by omega)
set_option maxHeartbeats 3200000 in
set_option maxRecDepth 8000 in
theorem rcut_any (s : ByteArray) (c : UInt8) (w : World) (hs : s.size ≤ 1000000) :
    Calls Tryz.prog 7 #[.string s, .int .u8 (c.toNat : Int)] w fun e w' => ∃ g cap, e = .returned (.slice (some ⟨g, 0, none⟩) (RunM.cut c s.data.toList).length cap) ∧ (RunM.cut c s.data.toList).length ≤ cap ∧ w.heap.size ≤ g ∧ g < w'.heap.size ∧ (∀ j p, (RunM.cut c s.data.toList)[j]? = some p → w'.cell? ⟨g, j, none⟩ = some (.string (RunM.bs p))) ∧ Below w.heap.size w w' := by
  have hbt := get_bt s
  have hz := Go.Lib.size_eq s
  obtain ⟨i0, hi0, hz0, hz1, hz2⟩ := info_parts infoStr
  obtain ⟨cv, hcv⟩ : ∃ cv : Int, (c.toNat : Int) = cv := ⟨_, rfl⟩
  have HC := hide hcv
  rw [hcv]
  clear hcv
  have hls := hide hz
  clear hz
  go_enter Tryz.func7, Tryz.ntmps7
  go_wp2
  go_loopw [5, 6, 7] (fun v fv i wr => ∃ (k f dl : Nat) (D : List (List UInt8)) (sa : Option Addr) (sc : Nat), k ≤ s.size ∧ f ≤ k ∧ dl ≤ k ∧ v = .slice sa dl sc ∧ fv = .int .i64 f ∧ i = .int .i64 k ∧ Hid (D.length = dl) ∧ Hid (RunM.CutAt c s.data.toList D f k) ∧ Hid (wr.ownsRow w.heap.size 9 1 (.slice sa dl sc) dl (strs D)) ∧ Hid (Below w.heap.size w wr)) (fun _ _ i _ => s.size - (intOf i).toNat)
  case atStart => exact ⟨0, 0, 0, [], none, 0, Nat.zero_le _, Nat.le_refl _, Nat.le_refl _, rfl, rfl, rfl, hide rfl, hide (RunM.CutAt.start _ _), hide (World.ownsRow_nil _ _ _ _), hide (Below.refl _ _)⟩
  case round =>
    obtain ⟨k, f, dl, D, sa, sc, hk, hf, hD, rfl, rfl, rfl, HDL, HK, HO, HB⟩ := hrel
    have hzz := (unhide HB).size
    by_cases hlt : k < s.size
    · by_cases hb : bt s k = cv
      · have HX := hide (mid_bs s f k hk)
        have hhit : s.data.toList[k]? = some c := by
          rw [CutAt_at (c := c) hlt]
          exact congrArg some (u8_eq (by rw [get_bt s k hlt, hb]; exact (unhide HC).symm))
        have HK2 := hide ((unhide HK).hit hhit)
        have hzx : (s.extract f k).size = k - f := by rw [ByteArray.size_extract]; omega
        obtain ⟨X, hX⟩ : ∃ X, s.extract f k = X := ⟨_, rfl⟩
        rw [hX] at HX hzx
        clear hhit
        go_wp2_with (at_builtin; refine wpList_append_lies _ rfl _ _ 23 rfl w.heap.size 9 i0 (.string ByteArray.empty) 1 16 Tryz.underlying23 hi0 hz0 hz1 hz2 rfl (by decide) (.slice sa dl sc) dl (strs D) rfl ((unhide HO).alloc _) ⟨wr.heap.size, 0, none⟩ 1 1 [.string X] rfl rfl ?c1 ?c2 (by omega) ?c3 ?c4 ?c5 (wr.heap.size + 1) ?c6 ?_)
        case c1 => exact World.news_of_block (cs := #[.string X]) (t := 9) (fr := (0, 0)) (heap_alloc_new wr _)
        case c2 => simp [Value.oneCell']
        case c3 => unfold maxLen; omega
        case c4 => omega
        case c5 => simp; omega
        case c6 => simp
        intro gg cp w2 hown2 hgrow hat hlt2
        have HO4 := hide (show w2.ownsRow w.heap.size 9 1 (.slice (some ⟨gg, 0, none⟩) (dl + 1) cp) (dl + 1) (strs (D ++ [(s.data.toList.take k).drop f])) by
          unfold strs at hown2 ⊢
          rw [List.map_append, List.map_cons, List.map_nil, ← unhide HX]; exact hown2)
        have HB4 := hide (((unhide HB).alloc (by omega) _).grown hgrow (by simp; omega) (fun q hq => ((unhide HO).lt q hq).1))
        have HDL2 := hide (show (D ++ [(s.data.toList.take k).drop f]).length = dl + 1 by rw [List.length_append, unhide HDL]; rfl)
        clear hown2 hgrow hat hlt2
        go_wp2
        go_roundw
        case rel => exact ⟨k + 1, k + 1, dl + 1, _, some ⟨gg, 0, none⟩, cp, by omega, by omega, by omega, rfl, by go_num, by go_num, HDL2, HK2, HO4, HB4⟩
        case measure => simp [intOf]; omega
      · have HK2 := hide ((unhide HK).miss (CutAt_at (c := c) hlt) (fun e => hb (by rw [← get_bt s k hlt, e]; exact unhide HC)))
        go_wp2
        go_roundw
        case rel => exact ⟨k + 1, f, dl, D, sa, sc, by omega, by omega, by omega, rfl, rfl, by go_num, HDL, HK2, HO, HB⟩
        case measure => simp [intOf]; omega
    · obtain rfl : k = s.size := by omega
      have hz := unhide hls
      have HX := hide (mid_bs s f s.size hk)
      have HK2 := hide (show RunM.cut c s.data.toList = D ++ [s.data.toList.drop f] by have q := unhide HK; rw [hz] at q; exact q.done)
      have hzx : (s.extract f s.size).size = s.size - f := by rw [ByteArray.size_extract]; omega
      obtain ⟨X, hX⟩ : ∃ X, s.extract f s.size = X := ⟨_, rfl⟩
      rw [hX] at HX hzx
      have HX2 := hide (show X = RunM.bs (s.data.toList.drop f) by rw [unhide HX, hz, List.take_length])
      clear hz
      go_wp2_with (at_builtin; refine wpList_append_lies _ rfl _ _ 23 rfl w.heap.size 9 i0 (.string ByteArray.empty) 1 16 Tryz.underlying23 hi0 hz0 hz1 hz2 rfl (by decide) (.slice sa dl sc) dl (strs D) rfl ((unhide HO).alloc _) ⟨wr.heap.size, 0, none⟩ 1 1 [.string X] rfl rfl ?c1 ?c2 (by omega) ?c3 ?c4 ?c5 (wr.heap.size + 1) ?c6 ?_)
      case c1 => exact World.news_of_block (cs := #[.string X]) (t := 9) (fr := (0, 0)) (heap_alloc_new wr _)
      case c2 => simp [Value.oneCell']
      case c3 => unfold maxLen; omega
      case c4 => omega
      case c5 => simp; omega
      case c6 => simp
      intro gg cp w2 hown2 hgrow hat hlt2
      have HDL2 := hide (show (RunM.cut c s.data.toList).length = dl + 1 by rw [unhide HK2, List.length_append, unhide HDL]; rfl)
      have HO4 := hide (own_strs (show w2.ownsRow w.heap.size 9 1 (.slice (some ⟨gg, 0, none⟩) (dl + 1) cp) (RunM.cut c s.data.toList).length (strs (RunM.cut c s.data.toList)) by
        rw [unhide HDL2, unhide HK2]
        unfold strs at hown2 ⊢
        rw [List.map_append, List.map_cons, List.map_nil, ← unhide HX2]; exact hown2) (by rw [unhide HDL2]; omega))
      have HB4 := hide (((unhide HB).alloc (by omega) _).grown hgrow (by simp; omega) (fun q hq => ((unhide HO).lt q hq).1))
      clear hown2 hgrow hat hlt2
      obtain ⟨g', cap', he, h1, h2, h3, h4⟩ := unhide HO4
      obtain ⟨e1, -, e3⟩ := Value.slice.inj he
      have e1 : gg = g' := congrArg Addr.block (Option.some.inj e1)
      subst e1
      subst e3
      have HE := hide (And.intro h1 (And.intro h2 (And.intro h3 h4)))
      clear he h1 h2 h3 h4 HO4
      go_wp2
      go_ret
      obtain ⟨h1, h2, h3, h4⟩ := unhide HE
      exact ⟨gg, cp, by rw [unhide HDL2]; rfl, h1, h2, h3, h4, unhide HB4⟩
theorem rcut10 (s : ByteArray) (w : World) (hs : s.size ≤ 1000000) :
    Calls Tryz.prog 7 #[.string s, .int .u8 10] w fun e w' => ∃ g cap, e = .returned (.slice (some ⟨g, 0, none⟩) (RunM.cut 10 s.data.toList).length cap) ∧ (RunM.cut 10 s.data.toList).length ≤ cap ∧ w.heap.size ≤ g ∧ g < w'.heap.size ∧ (∀ j p, (RunM.cut 10 s.data.toList)[j]? = some p → w'.cell? ⟨g, j, none⟩ = some (.string (RunM.bs p))) ∧ Below w.heap.size w w' := rcut_any s 10 w hs
end Go.Proofs.YthaicpepgianpakGreatDoor
namespace Go.Proofs.YthaicpepgianpakGreatDoor
open Go.RowKit Go.PlainAid
set_option linter.unusedVariables false

set_option maxHeartbeats 6400000 in
set_option maxRecDepth 8000 in
theorem fname_any (E : Int) (w : World) (h0 : 0 ≤ E) (h9 : E ≤ 9) : Calls Tryz.prog 22 #[.int .i64 E] w fun e w' => e = .returned (.string (RunM.bs (RunM.name E))) ∧ Below w.heap.size w w' := by
  have hE : E = 0 ∨ E = 1 ∨ E = 2 ∨ E = 3 ∨ E = 4 ∨ E = 5 ∨ E = 6 ∨ E = 7 ∨ E = 8 ∨ E = 9 := by omega
  clear h0 h9
  rcases hE with rfl | rfl | rfl | rfl | rfl | rfl | rfl | rfl | rfl | rfl
  · have hn := hide (show (⟨#[79, 75]⟩ : ByteArray) = RunM.bs (RunM.name 0) from rfl)
    go_enter Tryz.func22, Tryz.ntmps22
    go_wp2
    go_ret
    exact ⟨congrArg (fun q => Ending.returned (Value.string q)) (unhide hn), (by (repeat' (first | exact Below.refl _ _ | refine Below.alloc ?_ ?_ _ | refine Below.setCell ?_ ?_ _ | refine Below.drew ?_)); all_goals (first | exact Nat.le_refl _ | omega | (simp; done) | (simp; omega)))⟩
  · have hn := hide (show (⟨#[69, 114, 114, 82, 97, 110, 103, 101]⟩ : ByteArray) = RunM.bs (RunM.name 1) from rfl)
    go_enter Tryz.func22, Tryz.ntmps22
    go_wp2
    go_ret
    exact ⟨congrArg (fun q => Ending.returned (Value.string q)) (unhide hn), (by (repeat' (first | exact Below.refl _ _ | refine Below.alloc ?_ ?_ _ | refine Below.setCell ?_ ?_ _ | refine Below.drew ?_)); all_goals (first | exact Nat.le_refl _ | omega | (simp; done) | (simp; omega)))⟩
  · have hn := hide (show (⟨#[69, 114, 114, 83, 121, 110, 116, 97, 120]⟩ : ByteArray) = RunM.bs (RunM.name 2) from rfl)
    go_enter Tryz.func22, Tryz.ntmps22
    go_wp2
    go_ret
    exact ⟨congrArg (fun q => Ending.returned (Value.string q)) (unhide hn), (by (repeat' (first | exact Below.refl _ _ | refine Below.alloc ?_ ?_ _ | refine Below.setCell ?_ ?_ _ | refine Below.drew ?_)); all_goals (first | exact Nat.le_refl _ | omega | (simp; done) | (simp; omega)))⟩
  · have hn := hide (show (⟨#[69, 114, 114, 83, 104, 97, 112, 101]⟩ : ByteArray) = RunM.bs (RunM.name 3) from rfl)
    go_enter Tryz.func22, Tryz.ntmps22
    go_wp2
    go_ret
    exact ⟨congrArg (fun q => Ending.returned (Value.string q)) (unhide hn), (by (repeat' (first | exact Below.refl _ _ | refine Below.alloc ?_ ?_ _ | refine Below.setCell ?_ ?_ _ | refine Below.drew ?_)); all_goals (first | exact Nat.le_refl _ | omega | (simp; done) | (simp; omega)))⟩
  · have hn := hide (show (⟨#[69, 114, 114, 70, 117, 108, 108]⟩ : ByteArray) = RunM.bs (RunM.name 4) from rfl)
    go_enter Tryz.func22, Tryz.ntmps22
    go_wp2
    go_ret
    exact ⟨congrArg (fun q => Ending.returned (Value.string q)) (unhide hn), (by (repeat' (first | exact Below.refl _ _ | refine Below.alloc ?_ ?_ _ | refine Below.setCell ?_ ?_ _ | refine Below.drew ?_)); all_goals (first | exact Nat.le_refl _ | omega | (simp; done) | (simp; omega)))⟩
  · have hn := hide (show (⟨#[69, 114, 114, 78, 111, 110, 101]⟩ : ByteArray) = RunM.bs (RunM.name 5) from rfl)
    go_enter Tryz.func22, Tryz.ntmps22
    go_wp2
    go_ret
    exact ⟨congrArg (fun q => Ending.returned (Value.string q)) (unhide hn), (by (repeat' (first | exact Below.refl _ _ | refine Below.alloc ?_ ?_ _ | refine Below.setCell ?_ ?_ _ | refine Below.drew ?_)); all_goals (first | exact Nat.le_refl _ | omega | (simp; done) | (simp; omega)))⟩
  · have hn := hide (show (⟨#[69, 114, 114, 83, 116, 97, 116, 101]⟩ : ByteArray) = RunM.bs (RunM.name 6) from rfl)
    go_enter Tryz.func22, Tryz.ntmps22
    go_wp2
    go_ret
    exact ⟨congrArg (fun q => Ending.returned (Value.string q)) (unhide hn), (by (repeat' (first | exact Below.refl _ _ | refine Below.alloc ?_ ?_ _ | refine Below.setCell ?_ ?_ _ | refine Below.drew ?_)); all_goals (first | exact Nat.le_refl _ | omega | (simp; done) | (simp; omega)))⟩
  · have hn := hide (show (⟨#[69, 114, 114, 67, 108, 97, 115, 104]⟩ : ByteArray) = RunM.bs (RunM.name 7) from rfl)
    go_enter Tryz.func22, Tryz.ntmps22
    go_wp2
    go_ret
    exact ⟨congrArg (fun q => Ending.returned (Value.string q)) (unhide hn), (by (repeat' (first | exact Below.refl _ _ | refine Below.alloc ?_ ?_ _ | refine Below.setCell ?_ ?_ _ | refine Below.drew ?_)); all_goals (first | exact Nat.le_refl _ | omega | (simp; done) | (simp; omega)))⟩
  · have hn := hide (show (⟨#[69, 114, 114, 83, 101, 97, 108]⟩ : ByteArray) = RunM.bs (RunM.name 8) from rfl)
    go_enter Tryz.func22, Tryz.ntmps22
    go_wp2
    go_ret
    exact ⟨congrArg (fun q => Ending.returned (Value.string q)) (unhide hn), (by (repeat' (first | exact Below.refl _ _ | refine Below.alloc ?_ ?_ _ | refine Below.setCell ?_ ?_ _ | refine Below.drew ?_)); all_goals (first | exact Nat.le_refl _ | omega | (simp; done) | (simp; omega)))⟩
  · have hn := hide (show (⟨#[69, 114, 114, 76, 97, 116, 101]⟩ : ByteArray) = RunM.bs (RunM.name 9) from rfl)
    go_enter Tryz.func22, Tryz.ntmps22
    go_wp2
    go_ret
    exact ⟨congrArg (fun q => Ending.returned (Value.string q)) (unhide hn), (by (repeat' (first | exact Below.refl _ _ | refine Below.alloc ?_ ?_ _ | refine Below.setCell ?_ ?_ _ | refine Below.drew ?_)); all_goals (first | exact Nat.le_refl _ | omega | (simp; done) | (simp; omega)))⟩

set_option maxHeartbeats 1600000 in
set_option maxRecDepth 8000 in
theorem frow_any (ns : List Nat) (a : Option Addr) (c : Nat) (w : World) (h : ∀ n ∈ ns, n < 1000000) (h4 : ns.length ≤ 4) (hi : Ints w a (ns.map Int.ofNat)) :
    Calls Tryz.prog 23 #[.slice a ns.length c] w fun e w' => e = .returned (.string (RunM.bs (RunM.row ns))) ∧ w' = w := by
  have HI := hide hi
  have HN := hide h
  obtain ⟨l, hl⟩ : ∃ l, ns.length = l := ⟨_, rfl⟩
  have HLEN := hide hl
  rw [hl] at h4 ⊢
  clear hl h hi
  go_enter Tryz.func23, Tryz.ntmps23
  go_wp2
  go_loop [3, 4] (fun v i => ∃ (k : Nat) (T : ByteArray), k ≤ l ∧ i = .int .i64 k ∧ v = .string T ∧ T.size ≤ 7 * k ∧ Hid (T = RunM.bs (RunM.row (ns.take k)))) (fun _ i => l - (intOf i).toNat)
  case atStart => exact ⟨0, _, Nat.zero_le _, rfl, rfl, Nat.le_refl 0, hide rfl⟩
  case round =>
    obtain ⟨k, T, hk, rfl, rfl, hT, HT⟩ := hrel
    by_cases hlt : k < l
    · obtain ⟨n, hn⟩ : ∃ n, ns[k]? = some n := ⟨_, List.getElem?_eq_getElem (by rw [unhide HLEN]; exact hlt)⟩
      have hn6 := unhide HN n (List.mem_of_getElem? hn)
      obtain ⟨bb, off, rfl, hc⟩ := (unhide HI).row (by rw [List.length_map, unhide HLEN]; omega)
      have c0 : w.cell? ⟨bb, off + k, none⟩ = some (.int .i64 n) := by
        rw [hc k (by rw [List.length_map, unhide HLEN]; exact hlt)]
        simp [List.getD, hn]
      have CD := hide (fun W => rdigits_any n hn6 W)
      have sd : (RunM.bs (RunM.digits n)).size ≤ 6 := by rw [RunM.bs_size]; exact RunM.digits_len hn6
      have htk : ns.take (k + 1) = ns.take k ++ [n] := by rw [List.take_add_one, hn]; rfl
      have hz1 : (⟨#[32]⟩ : ByteArray).size = 1 := rfl
      by_cases hk0 : k = 0
      · have HT2 := hide (show T ++ RunM.bs (RunM.digits n) = RunM.bs (RunM.row (ns.take (k + 1))) by rw [unhide HT, htk, hk0, RunM.bs_append]; rfl)
        have hk0' : ¬ 0 < k := by omega
        have hk0'' : (k : Int) ≤ 0 := by omega
        have c1 : w.cell? ⟨bb, off, none⟩ = some (.int .i64 n) := by have q := c0; rw [hk0, Nat.add_zero] at q; exact q
        generalize RunM.bs (RunM.digits n) = D at CD sd HT2
        clear hc hn hn6 htk
        go_wp2_with fail
        refine (unhide CD _).mono ?_
        rintro e w' ⟨rfl, rfl⟩
        go_wp2
        go_round
        case rel => exact ⟨k + 1, _, by omega, by go_num, rfl, by simp only [ByteArray.size_append]; omega, HT2⟩
        case measure => simp [intOf]; omega
      · have hne : ¬ ns.take k = [] := fun e => by
          have q := congrArg List.length e
          rw [List.length_take, unhide HLEN] at q
          simp at q; omega
        have HT2 := hide (show T ++ (⟨#[32]⟩ : ByteArray) ++ RunM.bs (RunM.digits n) = RunM.bs (RunM.row (ns.take (k + 1))) by
          rw [unhide HT, htk, RunM.row_snoc _ _ hne]
          show RunM.bs (RunM.row (ns.take k)) ++ RunM.bs [32] ++ RunM.bs (RunM.digits n) = _
          rw [RunM.bs_append, RunM.bs_append, List.append_assoc]; rfl)
        generalize RunM.bs (RunM.digits n) = D at CD sd HT2
        have hk0' : 0 < k := by omega
        clear hc hn hn6 htk hne
        go_wp2_with fail
        refine (unhide CD _).mono ?_
        rintro e w' ⟨rfl, rfl⟩
        go_wp2
        go_round
        case rel => exact ⟨k + 1, _, by omega, by go_num, rfl, by simp only [ByteArray.size_append, hz1]; omega, HT2⟩
        case measure => simp [intOf]; omega
    · obtain rfl : k = l := by omega
      have HT2 := hide (show T = RunM.bs (RunM.row ns) by rw [unhide HT, List.take_of_length_le (by rw [unhide HLEN]; omega)])
      go_wp2
      go_ret
      exact ⟨congrArg (fun q => Ending.returned (Value.string q)) (unhide HT2), rfl⟩
theorem bt_at {p : List UInt8} {k : Nat} {x : UInt8} (h : p[k]? = some x) : bt (RunM.bs p) k = (x.toNat : Int) := by
  obtain ⟨hk, hx⟩ := List.getElem?_eq_some_iff.1 h
  have hz : k < (RunM.bs p).size := hk
  have h2 := CutAt_at (c := x) hz
  rw [RunM.bs_list, h] at h2
  rw [← get_bt _ k hz, ← Option.some.inj h2]
namespace RunM
theorem num_bad {p : List UInt8} {k : Nat} {x : UInt8} (h : p[k]? = some x) (hx : isDig x = false) : num p = none := by
  unfold num
  split
  · rfl
  · rw [if_neg]
    intro ha
    have := List.all_eq_true.1 ha x (List.mem_of_getElem? h)
    rw [hx] at this; cases this
theorem num_good {p : List UInt8} (h : ¬ (p = [] ∨ 6 < p.length ∨ (p.head? = some 48 ∧ 1 < p.length))) (ha : p.all isDig = true) : num p = some (val p) := by
  unfold num; rw [if_neg h, if_pos ha]
theorem num_cond {p : List UInt8} (h : p = [] ∨ 6 < p.length ∨ (p.head? = some 48 ∧ 1 < p.length)) : num p = none := by
  unfold num; rw [if_pos h]
end RunM
set_option maxRecDepth 8000 in
theorem fnumber_cond {p : List UInt8} (w : World) (hp : p.length ≤ 3000) (h : p = [] ∨ 6 < p.length ∨ (p.head? = some 48 ∧ 1 < p.length)) :
    Calls Tryz.prog 19 #[.string (RunM.bs p)] w fun e w' => e = .returned (.tuple #[.int .i64 0, .bool false]) ∧ w' = w := by
  have hz : (RunM.bs p).size = p.length := rfl
  by_cases h0 : p = []
  · subst h0
    have hs : RunM.bs [] = (⟨#[]⟩ : ByteArray) := rfl
    rw [hs]
    go_enter Tryz.func19, Tryz.ntmps19
    go_wp2
    go_ret2
    exact ⟨rfl, rfl⟩
  · have k0 : ((RunM.bs p).toList == []) = false := (word_eq p []).trans (decide_eq_false h0)
    by_cases h6 : 6 < p.length
    · have h6' : (6 : Int) < (RunM.bs p).size := by omega
      go_enter Tryz.func19, Tryz.ntmps19
      go_wp2
      go_ret2
      exact ⟨rfl, rfl⟩
    · obtain ⟨hh, h1⟩ : p.head? = some 48 ∧ 1 < p.length := by rcases h with h | h | h <;> first | contradiction | exact h
      have hb := get_bt (RunM.bs p)
      have hb0 : bt (RunM.bs p) 0 = 48 := bt_at (x := 48) (by rw [← List.head?_eq_getElem?]; exact hh)
      have h1' : (1 : Int) < (RunM.bs p).size := by omega
      have h6' : ¬ (6 : Int) < (RunM.bs p).size := by omega
      have h6'' : (RunM.bs p).size ≤ 6 := by omega
      have hp0 : 0 < (RunM.bs p).size := by omega
      generalize RunM.bs p = s at *
      clear h hh h0 h6 h1
      go_enter Tryz.func19, Tryz.ntmps19
      go_wp2
      go_ret2
      exact ⟨rfl, rfl⟩
set_option maxHeartbeats 1600000 in
set_option maxRecDepth 8000 in
theorem fnumber_loop {p : List UInt8} (w : World) (h : ¬ (p = [] ∨ 6 < p.length ∨ (p.head? = some 48 ∧ 1 < p.length))) :
    Calls Tryz.prog 19 #[.string (RunM.bs p)] w fun e w' => e = .returned (.tuple #[.int .i64 (((RunM.num p).getD 0 : Nat) : Int), .bool (RunM.num p).isSome]) ∧ w' = w := by
  have hz : (RunM.bs p).size = p.length := rfl
  have h0 : ¬ p = [] := fun e => h (.inl e)
  have h6 : p.length ≤ 6 := Nat.le_of_not_lt fun e => h (.inr (.inl e))
  have k0 : ((RunM.bs p).toList == []) = false := (word_eq p []).trans (decide_eq_false h0)
  have hp0 : 0 < p.length := List.length_pos_iff.2 h0
  have hh := hide h
  have hcase : ¬ bt (RunM.bs p) 0 = 48 ∨ (bt (RunM.bs p) 0 = 48 ∧ (RunM.bs p).size ≤ 1) := by
    by_cases q : bt (RunM.bs p) 0 = 48
    · refine .inr ⟨q, Nat.le_of_not_lt fun e => h (.inr (.inr ⟨?_, by omega⟩))⟩
      obtain ⟨x, hx⟩ : ∃ x, p[0]? = some x := ⟨_, List.getElem?_eq_getElem hp0⟩
      rw [bt_at hx] at q
      rw [List.head?_eq_getElem?, hx]
      exact congrArg some (UInt8.toNat_inj.1 (by have e48 : (48 : UInt8).toNat = 48 := rfl; omega))
    · exact .inl q
  have hb := get_bt (RunM.bs p)
  have HP : Hid (∀ k x, p[k]? = some x → bt (RunM.bs p) k = (x.toNat : Int)) := hide (fun k x hx => bt_at hx)
  obtain ⟨l, hl⟩ : ∃ l, p.length = l := ⟨_, rfl⟩
  have HLEN := hide hl
  rw [hl] at hz h6 hp0
  generalize RunM.bs p = s at *
  subst hz
  have hs6 : ¬ (6 : Int) < s.size := by omega
  have hs0 : 0 < s.size := hp0
  clear h h0 hl
  have main : ∀ n0 : Int, True := fun _ => trivial
  rcases hcase with hc | ⟨hc, hc1⟩
  all_goals
    go_enter Tryz.func19, Tryz.ntmps19
    go_wp2
    go_loop [4, 5] (fun v i => ∃ k : Nat, k ≤ s.size ∧ i = .int .i64 k ∧ v = .int .i64 (RunM.val (p.take k) : Int) ∧ Hid ((p.take k).all RunM.isDig = true)) (fun _ i => s.size - (intOf i).toNat)
    case atStart => exact ⟨0, Nat.zero_le _, rfl, rfl, hide rfl⟩
    case round =>
      obtain ⟨k, hk, rfl, rfl, HA⟩ := hrel
      have hv := RunM.val_lt (p.take k) (unhide HA)
      have hv6 : RunM.val (p.take k) < 1000000 := by
        have h3 : 10 ^ (p.take k).length ≤ 10 ^ 6 := Nat.pow_le_pow_right (by omega) (by rw [List.length_take]; omega)
        have h4 : (10 : Nat) ^ 6 = 1000000 := rfl
        omega
      clear hv
      by_cases hlt : k < s.size
      · obtain ⟨x, hx⟩ : ∃ x, p[k]? = some x := ⟨_, List.getElem?_eq_getElem (by rw [unhide HLEN]; exact hlt)⟩
        have hbk := unhide HP k x hx
        have htk : p.take (k + 1) = p.take k ++ [x] := by rw [List.take_add_one, hx]; rfl
        by_cases hd : RunM.isDig x = true
        · have HA2 := hide (show (p.take (k + 1)).all RunM.isDig = true by rw [htk, List.all_append, unhide HA]; simpa using hd)
          have hd2 := of_decide_eq_true (show decide (48 ≤ x.toNat ∧ x.toNat ≤ 57) = true from hd)
          have hV := hide (show (RunM.val (p.take (k + 1)) : Int) = (RunM.val (p.take k) : Int) * 10 + bt s k - 48 by rw [htk, RunM.val_snoc, hbk]; omega)
          have hb1 : ¬ bt s k < 48 := by omega
          have hb2 : ¬ 57 < bt s k := by omega
          have hb3 : bt s k ≤ 57 := by omega
          have hb4 : 48 ≤ bt s k := by omega
          clear hbk htk hd hd2 hx
          generalize RunM.val (p.take k) = V at *
          go_wp2
          go_round
          case rel => exact ⟨k + 1, by omega, by go_num, by rw [unhide hV], HA2⟩
          case measure => simp [intOf]; omega
        · have hd' : RunM.isDig x = false := by simpa using hd
          have hN := hide (RunM.num_bad hx hd')
          have hd2 := of_decide_eq_false (show decide (48 ≤ x.toNat ∧ x.toNat ≤ 57) = false from hd')
          have hout : bt s k < 48 ∨ (48 ≤ bt s k ∧ 57 < bt s k) := by omega
          clear hbk htk hd hd' hd2 hx
          generalize RunM.val (p.take k) = V at *
          rcases hout with h1 | ⟨h1, h2⟩
          all_goals
            go_wp2
            go_ret2
            rw [unhide hN]
            exact ⟨rfl, rfl⟩
      · obtain rfl : k = s.size := by omega
        have hN := hide (RunM.num_good (unhide hh) (by have q := unhide HA; rwa [List.take_of_length_le (by rw [unhide HLEN]; omega)] at q))
        have hV := hide (show RunM.val (p.take s.size) = RunM.val p by rw [List.take_of_length_le (by rw [unhide HLEN]; omega)])
        generalize RunM.val (p.take s.size) = V at *
        go_wp2
        go_ret2
        rw [unhide hN, unhide hV]
        exact ⟨rfl, rfl⟩
theorem fnumber_any (p : List UInt8) (w : World) (hp : p.length ≤ 3000) :
    Calls Tryz.prog 19 #[.string (RunM.bs p)] w fun e w' => e = .returned (.tuple #[.int .i64 (((RunM.num p).getD 0 : Nat) : Int), .bool (RunM.num p).isSome]) ∧ w' = w := by
  by_cases h : p = [] ∨ 6 < p.length ∨ (p.head? = some 48 ∧ 1 < p.length)
  · rw [RunM.num_cond h]
    exact fnumber_cond w hp h
  · exact fnumber_loop w h
end Go.Proofs.YthaicpepgianpakGreatDoor
namespace Go.Proofs.YthaicpepgianpakGreatDoor
open Go.RowKit
set_option linter.unusedVariables false

namespace RunM
theorem ring_small (a b c : Int) : 0 ≤ RingM.err a b c ∧ RingM.err a b c ≤ 9 := by
  unfold RingM.err
  repeat' split
  all_goals omega
theorem err_small (x : ServM.St) (h : ServM.Hi) (now : Int) : 0 ≤ ServM.err x h now ∧ ServM.err x h now ≤ 9 := by
  have h1 := ring_small x.ep x.key x.old
  have h2 : 0 ≤ ServM.ask x h now ∧ ServM.ask x h now ≤ 9 := by
    unfold ServM.ask JudgeM.ansErr LoadM.err
    repeat' split
    all_goals omega
  unfold ServM.err
  repeat' split
  all_goals omega
theorem tErr_small (x : ServM.St) (u : Int) : 0 ≤ ServM.tErr x u ∧ ServM.tErr x u ≤ 9 := by
  unfold ServM.tErr
  repeat' split
  all_goals omega
theorem turnErr_small (a b c : Int) : 0 ≤ RingM.turnErr a b c ∧ RingM.turnErr a b c ≤ 9 := by
  have h1 := ring_small a b c
  unfold RingM.turnErr
  repeat' split
  all_goals omega
end RunM
/-- Four numbers in a slice of their own, as a row. -/
theorem frow4 {V : Nat} {W : World} {p q r t : Int} {T : TypeId} (hV : W.heap.size = V) (hp : 0 ≤ p ∧ p < 1000000) (hq : 0 ≤ q ∧ q < 1000000) (hr : 0 ≤ r ∧ r < 1000000) (ht : 0 ≤ t ∧ t < 1000000) :
    Calls Tryz.prog 23 #[.slice (some ⟨V, 0, none⟩) 4 4] (W.alloc (.cells #[.int .i64 p, .int .i64 q, .int .i64 r, .int .i64 t] T)) fun e w' => e = .returned (.string (RunM.bs (RunM.row [p.toNat, q.toNat, r.toNat, t.toNat]))) ∧ Below W.heap.size W w' := by
  refine (frow_any [p.toNat, q.toNat, r.toNat, t.toNat] (some ⟨V, 0, none⟩) 4 _ (by intro n hn; simp only [List.mem_cons, List.not_mem_nil, or_false] at hn; omega) (by simp) (four_ints hV hp.1 hq.1 hr.1 ht.1)).mono ?_
  rintro e w' ⟨rfl, rfl⟩
  exact ⟨rfl, below_alloc (Below.refl _ _) _⟩
/-- A conn's number, as digits. -/
theorem fdig_turn {c : Int} (W : World) (h0 : 0 ≤ c) (h1 : c ≤ 65535) : Calls Tryz.prog 10 #[.int .i64 (ConnM.turn c)] W fun e w' => e = .returned (.string (RunM.bs (RunM.digits (ConnM.turn c).toNat))) ∧ w' = W := by
  have h2 := ConnM.turn_lo c
  have h3 := ConnM.turn_hi h1
  have h := rdigits_any (ConnM.turn c).toNat (by omega) W
  rwa [show (((ConnM.turn c).toNat : Nat) : Int) = ConnM.turn c from by omega] at h

set_option maxHeartbeats 3200000 in
set_option maxRecDepth 8000 in
theorem fgreet_any {B m : Nat} {o : Option Nat} {R : List Nat} {x : ServM.St} (h : ServM.Hi) (now : Int) (w : World) (g : ServM.Good x) (h0 : MAt B w m o R x) (ha : 0 ≤ h.a ∧ h.a < 1000000) (hn : 0 ≤ now ∧ now < 1000000) :
    Calls Tryz.prog 20 #[.pointer (some ⟨m, 0, none⟩), .agg #[.int .i64 h.a, .int .i64 h.te, .int .i64 h.ta, .int .i64 h.tt, .int .i64 h.tg, .int .i64 h.ke, .int .i64 h.kn, .int .i64 h.ku, .int .i64 h.kg, .string h.s], .int .i64 now] w fun e w' => e = .returned (.string (RunM.bs (RunM.greet x h now))) ∧ MStep B w w' m o R (ServM.next x h now) := by
  have H0 := hide h0
  obtain ⟨b1, b2, b3, b4, b5⟩ := RunM.hello_bds g ha hn
  have be := RunM.err_small x h now
  have C := hide (fun W (hW : Below w.heap.size w W) => rhello_any h now W g (h0.later hW))
  have kw := ServM.kind_ways x h now
  have HT : Hid (RunM.greet x h now = if ¬ ServM.err x h now = 0 then RunM.name (ServM.err x h now) else if ServM.aKind x h now = 0 then RunM.tRetry ++ RunM.row [(ServM.aEp x h now).toNat, (ServM.aAd x h now).toNat, (ServM.aTi x h now).toNat, (ServM.aTg x h now).toNat] else if ServM.aKind x h now = 2 then RunM.tBusy else RunM.tWelcome ++ RunM.digits (ConnM.turn (ServM.aCo x h now)).toNat) := hide rfl
  have ka : ServM.err x h now = 0 → ServM.aKind x h now = 0 ∨ ServM.aKind x h now = 1 ∨ ServM.aKind x h now = 2 := fun q => by
    unfold ServM.aKind; rw [if_pos q]; exact kw
  generalize RunM.greet x h now = T at HT ⊢
  generalize ServM.err x h now = E at HT C ka be ⊢
  generalize ServM.aKind x h now = K at HT C ka
  generalize ServM.aEp x h now = n1 at HT C b1
  generalize ServM.aAd x h now = n2 at HT C b2
  generalize ServM.aTi x h now = n3 at HT C b3
  generalize ServM.aTg x h now = n4 at HT C b4
  generalize ServM.aCo x h now = c1 at HT C b5
  generalize ServM.soon x h now = sb at C
  generalize ServM.next x h now = y at C ⊢
  have HB := hide (And.intro b1 (And.intro b2 (And.intro b3 (And.intro b4 b5))))
  clear kw ha hn b1 b2 b3 b4 b5 g h0
  by_cases hE0 : E = 0
  · subst hE0
    rcases ka rfl with rfl | rfl | rfl
    · clear ka
      have HT2 := hide (show (⟨#[114, 101, 116, 114, 121, 32]⟩ : ByteArray) ++ RunM.bs (RunM.row [n1.toNat, n2.toNat, n3.toNat, n4.toNat]) = RunM.bs T by rw [unhide HT, if_neg (by simp), if_pos rfl, ← RunM.bs_append]; rfl)
      obtain ⟨z1, z2, z3, z4, -⟩ := unhide HB
      have CR := hide (fun W V (hV : W.heap.size = V) => frow4 (W := W) (T := 3) hV z1 z2 z3 z4)
      have hsz : (RunM.bs (RunM.row [n1.toNat, n2.toNat, n3.toNat, n4.toNat])).size ≤ 28 := RunM.row_len _ (by intro n hn; simp only [List.mem_cons, List.not_mem_nil, or_false] at hn; omega)
      have hs6 : (⟨#[114, 101, 116, 114, 121, 32]⟩ : ByteArray).size = 6 := rfl
      generalize RunM.bs (RunM.row [n1.toNat, n2.toNat, n3.toNat, n4.toNat]) = out at CR HT2 hsz
      clear HT HB z1 z2 z3 z4 be
      go_enter Tryz.func20, Tryz.ntmps20
      go_wp2_with fail
      refine (unhide C _ (show Below w.heap.size w (w.alloc _) from (by (repeat' (first | exact Below.refl _ _ | refine Below.alloc ?_ ?_ _ | refine Below.setCell ?_ ?_ _ | refine Below.drew ?_)); all_goals (first | exact Nat.le_refl _ | omega | (simp; done) | (simp; omega))))).mono ?_
      rintro e w1 ⟨rfl, hs⟩
      have HS := hide (MStep.behind (show Below w.heap.size w (w.alloc _) from (by (repeat' (first | exact Below.refl _ _ | refine Below.alloc ?_ ?_ _ | refine Below.setCell ?_ ?_ _ | refine Below.drew ?_)); all_goals (first | exact Nat.le_refl _ | omega | (simp; done) | (simp; omega)))) hs)
      clear hs
      go_wp2_with fail
      refine (unhide CR _ _ (by simp)).mono ?_
      rintro e w2 ⟨rfl, hb2⟩
      have HB2 := hide (bel3 (Below.refl _ _) (below_alloc (Below.refl _ _) _) hb2)
      clear hb2
      go_wp2
      go_ret
      exact ⟨congrArg (fun q => Ending.returned (Value.string q)) (unhide HT2), (unhide HS).ahead (unhide HB2)⟩
    · clear ka
      have HT2 := hide (show (⟨#[119, 101, 108, 99, 111, 109, 101, 32]⟩ : ByteArray) ++ RunM.bs (RunM.digits (ConnM.turn c1).toNat) = RunM.bs T by rw [unhide HT, if_neg (by simp), if_neg (by decide), if_neg (by decide), ← RunM.bs_append]; rfl)
      obtain ⟨-, -, -, -, z5⟩ := unhide HB
      have CN := hide (fun W => rnumber_any (s := 0) (m := c1) W (by omega) (by omega) z5.1 (by omega))
      have CD := hide (fun W => fdig_turn W z5.1 (by omega : c1 ≤ 65535))
      rw [show 4096 * 0 + c1 = c1 from by omega] at CN
      have hsz : (RunM.bs (RunM.digits (ConnM.turn c1).toNat)).size ≤ 6 := RunM.digits_len (by have := ConnM.turn_hi (x := c1) (by omega); omega)
      have hs6 : (⟨#[119, 101, 108, 99, 111, 109, 101, 32]⟩ : ByteArray).size = 8 := rfl
      generalize RunM.bs (RunM.digits (ConnM.turn c1).toNat) = out at CD HT2 hsz
      generalize ConnM.turn c1 = tc at CN CD
      clear HT HB z5 be
      go_enter Tryz.func20, Tryz.ntmps20
      go_wp2_with fail
      refine (unhide C _ (show Below w.heap.size w (w.alloc _) from (by (repeat' (first | exact Below.refl _ _ | refine Below.alloc ?_ ?_ _ | refine Below.setCell ?_ ?_ _ | refine Below.drew ?_)); all_goals (first | exact Nat.le_refl _ | omega | (simp; done) | (simp; omega))))).mono ?_
      rintro e w1 ⟨rfl, hs⟩
      have HS := hide (MStep.behind (show Below w.heap.size w (w.alloc _) from (by (repeat' (first | exact Below.refl _ _ | refine Below.alloc ?_ ?_ _ | refine Below.setCell ?_ ?_ _ | refine Below.drew ?_)); all_goals (first | exact Nat.le_refl _ | omega | (simp; done) | (simp; omega)))) hs)
      clear hs
      go_wp2_with fail
      refine (unhide CN _).mono ?_
      rintro e w2 ⟨rfl, hb2⟩
      have HB2 := hide (bel3 (Below.refl _ _) (below_alloc (Below.refl _ _) _) hb2)
      clear hb2
      go_wp2_with fail
      refine (unhide CD _).mono ?_
      rintro e w3 ⟨rfl, rfl⟩
      go_wp2
      go_ret
      exact ⟨congrArg (fun q => Ending.returned (Value.string q)) (unhide HT2), (unhide HS).ahead (unhide HB2)⟩
    · clear ka
      have HT2 := hide (show (⟨#[98, 117, 115, 121]⟩ : ByteArray) = RunM.bs T by rw [unhide HT, if_neg (by simp), if_neg (by decide), if_pos rfl]; rfl)
      clear HT HB be
      go_enter Tryz.func20, Tryz.ntmps20
      go_wp2_with fail
      refine (unhide C _ (show Below w.heap.size w (w.alloc _) from (by (repeat' (first | exact Below.refl _ _ | refine Below.alloc ?_ ?_ _ | refine Below.setCell ?_ ?_ _ | refine Below.drew ?_)); all_goals (first | exact Nat.le_refl _ | omega | (simp; done) | (simp; omega))))).mono ?_
      rintro e w1 ⟨rfl, hs⟩
      have HS := hide (MStep.behind (show Below w.heap.size w (w.alloc _) from (by (repeat' (first | exact Below.refl _ _ | refine Below.alloc ?_ ?_ _ | refine Below.setCell ?_ ?_ _ | refine Below.drew ?_)); all_goals (first | exact Nat.le_refl _ | omega | (simp; done) | (simp; omega)))) hs)
      clear hs
      go_wp2
      go_ret
      exact ⟨congrArg (fun q => Ending.returned (Value.string q)) (unhide HT2), (unhide HS).ahead (below_alloc (Below.refl _ _) _)⟩
  · have HT2 := hide (show RunM.bs (RunM.name E) = RunM.bs T by rw [unhide HT, if_pos hE0])
    have CE := hide (fun W => fname_any E W be.1 be.2)
    rw [unhide HT2] at CE
    have hE1 : (E == 0) = false := beq_eq_false_iff_ne.2 hE0
    clear HT HB ka be
    go_enter Tryz.func20, Tryz.ntmps20
    go_wp2_with fail
    refine (unhide C _ (show Below w.heap.size w (w.alloc _) from (by (repeat' (first | exact Below.refl _ _ | refine Below.alloc ?_ ?_ _ | refine Below.setCell ?_ ?_ _ | refine Below.drew ?_)); all_goals (first | exact Nat.le_refl _ | omega | (simp; done) | (simp; omega))))).mono ?_
    rintro e w1 ⟨rfl, hs⟩
    have HS := hide (MStep.behind (show Below w.heap.size w (w.alloc _) from (by (repeat' (first | exact Below.refl _ _ | refine Below.alloc ?_ ?_ _ | refine Below.setCell ?_ ?_ _ | refine Below.drew ?_)); all_goals (first | exact Nat.le_refl _ | omega | (simp; done) | (simp; omega)))) hs)
    clear hs
    go_wp2_with fail
    refine (unhide CE _).mono ?_
    rintro e w2 ⟨rfl, hb2⟩
    have HB2 := hide (bel3 (Below.refl _ _) (below_alloc (Below.refl _ _) _) hb2)
    clear hb2
    go_wp2
    go_ret
    exact ⟨rfl, (unhide HS).ahead (unhide HB2)⟩
end Go.Proofs.YthaicpepgianpakGreatDoor
namespace Go.Proofs.YthaicpepgianpakGreatDoor
open Go.RowKit
set_option linter.unusedVariables false

theorem MStep.kept9 {B : Nat} {w w' : World} {m : Nat} {o : Option Nat} {R : List Nat} {x : ServM.St} (h : MStep B w w' m o R x) : Kept (m :: o.toList) w w' := by
  obtain ⟨_, _, _, _, _, h4⟩ := h
  exact h4
namespace RunM
theorem pieces_short {x : ServM.St} {p : List UInt8} {r : List (List UInt8)} {M : Nat} (hw : wants p = some M) (h : ¬ r.length = M) : pieces x p r = (x, tBad) := by
  unfold pieces
  rw [if_neg]
  rw [hw]
  exact fun e => h (Option.some.inj e).symm
theorem pieces_none {x : ServM.St} {p : List UInt8} {r : List (List UInt8)} (h : nums r = none) : pieces x p r = (x, tBad) := by
  unfold pieces
  split
  · rw [h]
  · rfl
theorem pieces_yes {x : ServM.St} {p : List UInt8} {r : List (List UInt8)} {ns : List Nat} {M : Nat} (hw : wants p = some M) (h : r.length = M) (hn : nums r = some ns) : pieces x p r = act x p ns := by
  unfold pieces
  rw [if_pos (by rw [hw, h]), hn]
theorem pieces_no {x : ServM.St} {p : List UInt8} {r : List (List UInt8)} (hw : wants p = none) : pieces x p r = (x, tBad) := by
  unfold pieces
  rw [if_neg]
  rw [hw]
  exact fun e => by cases e
end RunM
theorem line_cut {l : ByteArray} {p : List UInt8} {r : List (List UInt8)} {M : Nat} (w : World) (S : ByteArray) (hS : RunM.bs p = S) (hs : l.size ≤ 3000) (hc : RunM.cut 32 l.data.toList = p :: r) (hM : r.length = M) :
    Calls Tryz.prog 7 #[.string l, .int .u8 32] w fun e w' => ∃ g cap, e = .returned (.slice (some ⟨g, 0, none⟩) (M + 1) cap) ∧ M + 1 ≤ cap ∧ w.heap.size ≤ g ∧ g < w'.heap.size ∧ w'.cell? ⟨g, 0, none⟩ = some (.string S) ∧ (∀ j q, r[j]? = some q → w'.cell? ⟨g, j + 1, none⟩ = some (.string (RunM.bs q))) ∧ Below w.heap.size w w' := by
  have h := rcut_any l 32 w (by omega)
  rw [hc] at h
  refine Calls.mono (show Calls Tryz.prog 7 #[.string l, .int .u8 32] w _ from h) ?_
  rintro e w' ⟨g, cap, rfl, h1, h2, h3, h4, h5⟩
  subst hM
  exact ⟨g, cap, rfl, h1, h2, h3, by rw [← hS]; exact h4 0 p rfl, fun j q hj => h4 (j + 1) q hj, h5⟩
theorem piece_small {l : ByteArray} {p : List UInt8} {r : List (List UInt8)} (hs : l.size ≤ 3000) (hc : RunM.cut 32 l.data.toList = p :: r) : (∀ q ∈ r, q.length ≤ 3000) ∧ r.length ≤ 3000 := by
  refine ⟨fun q hq => ?_, ?_⟩
  · have := piece_len 32 l.data.toList q (by rw [hc]; exact List.mem_cons_of_mem _ hq)
    rw [← Go.Lib.size_eq] at this
    exact Nat.le_trans this hs
  · have := cut_len 32 l.data.toList
    rw [hc, ← Go.Lib.size_eq, List.length_cons] at this
    omega

set_option maxHeartbeats 12800000 in
set_option maxRecDepth 8000 in
theorem fline_hello {B m : Nat} {o : Option Nat} {R : List Nat} {x : ServM.St} {l : ByteArray} {r : List (List UInt8)} (w : World) (g : ServM.Good x) (h0 : MAt B w m o R x) (hs : l.size ≤ 3000) (hc : RunM.cut 32 l.data.toList = RunM.wHello :: r) :
    Calls Tryz.prog 9 #[.pointer (some ⟨m, 0, none⟩), .string l] w fun e w' => e = .returned (.string (RunM.bs (RunM.pieces x RunM.wHello r).2)) ∧ MStep B w w' m o R (RunM.pieces x RunM.wHello r).1 := by
  obtain ⟨hrl, hrn⟩ := piece_small hs hc
  by_cases hlen : r.length = 2
  · have CC := hide (fun W => line_cut W (⟨#[104, 101, 108, 108, 111]⟩ : ByteArray) rfl hs hc hlen)
    have HR := hide hrl
    have HLEN := hide hlen
    have H0 := hide h0
    have HG := hide g
    clear hrl hlen h0 g hc hs
    go_enter Tryz.func9, Tryz.ntmps9
    go_wp2_with fail
    refine (unhide CC _).mono ?_
    rintro e w2 ⟨gb, cap, rfl, hcap, hgb, hgl, cw0, hck, hb2⟩
    have HCK := hide hck
    have HB2 := hide hb2
    clear hck hb2
    obtain ⟨i0, hi0, hz0, hz1, hz2⟩ := info_parts infoInt5
    go_wp2
    go_loopw [7, 8] (fun v i wr => ∃ (k : Nat) (sb : Option Addr) (sc : Nat) (ks : List Nat), k ≤ 2 ∧ v = .slice sb k sc ∧ i = .int .i64 ((k : Int) + 1) ∧ Hid (RunM.nums (r.take k) = some ks) ∧ Hid (wr.ownsRow w2.heap.size 3 1 (.slice sb k sc) k ((ks.map Int.ofNat).map (Value.int .i64))) ∧ Hid (Below w2.heap.size w2 wr)) (fun _ i _ => 2 + 1 - (intOf i).toNat)
    case atStart => exact ⟨0, none, 0, [], by omega, rfl, rfl, hide rfl, hide (World.ownsRow_nil _ _ _ _), hide (Below.refl _ _)⟩
    case round =>
      obtain ⟨k, sb, sc, ks, hk, rfl, rfl, HN, HO, HB⟩ := hrel
      have HBW := hide ((unhide HB2).trans ((unhide HB).mono (unhide HB2).size))
      have cwr := cell_later (unhide HB) cw0
      have hz4 := (unhide HB).size
      clear cw0
      by_cases hlt : k < 2
      · obtain ⟨q, hq⟩ : ∃ q, r[k]? = some q := ⟨_, List.getElem?_eq_getElem (by rw [unhide HLEN]; exact hlt)⟩
        have c1 : wr.cell? ⟨gb, k + 1, none⟩ = some (.string (RunM.bs q)) := cell_later (unhide HB) (unhide HCK k q hq)
        have hqs := unhide HR q (List.mem_of_getElem? hq)
        obtain ⟨t1, t2⟩ := nums_take hq (unhide HN)
        have hlt' : (k : Int) + 1 < 2 + 1 := by omega
        cases hnum : RunM.num q with
        | none =>
          have HNO := hide (t2 hnum)
          have CN : Hid (∀ W : World, Calls Tryz.prog 19 #[.string (RunM.bs q)] W fun e w' => e = .returned (.tuple #[.int .i64 0, .bool false]) ∧ w' = W) := hide (fun W => by have z := fnumber_any q W hqs; rw [hnum] at z; exact z)
          generalize RunM.bs q = qb at c1 CN
          clear t1 t2 hnum hqs hq
          go_wp2_with fail
          refine (unhide CN _).mono ?_
          rintro e w3 ⟨rfl, rfl⟩
          go_wp2
          go_ret
          rw [RunM.pieces_none (unhide HNO)]
          exact ⟨rfl, MStep.same (unhide H0) (unhide HBW)⟩
        | some n =>
          have HN1 := hide (t1 n hnum)
          have CN : Hid (∀ W : World, Calls Tryz.prog 19 #[.string (RunM.bs q)] W fun e w' => e = .returned (.tuple #[.int .i64 (n : Int), .bool true]) ∧ w' = W) := hide (fun W => by have z := fnumber_any q W hqs; rw [hnum] at z; exact z)
          generalize RunM.bs q = qb at c1 CN
          clear t1 t2 hnum hqs hq
          go_wp2_with fail
          refine (unhide CN _).mono ?_
          rintro e w3 ⟨rfl, rfl⟩
          clear c1 cwr
          go_wp2_with (at_builtin; refine wpList_append_lies _ rfl _ _ 54 rfl w2.heap.size 3 i0 (.int .i64 0) 1 8 Tryz.underlying54 hi0 hz0 hz1 hz2 rfl (by decide) (.slice sb k sc) k ((ks.map Int.ofNat).map (Value.int .i64)) rfl ((unhide HO).alloc _) ⟨w3.heap.size, 0, none⟩ 1 1 [.int .i64 n] rfl rfl ?c1 ?c2 (by omega) ?c3 ?c4 ?c5 (w3.heap.size + 1) ?c6 ?_)
          case c1 => exact World.news_of_block (cs := #[.int .i64 n]) (t := 3) (fr := (0, 0)) (heap_alloc_new w3 _)
          case c2 => simp [Value.oneCell']
          case c3 => unfold maxLen; omega
          case c4 => omega
          case c5 => simp; omega
          case c6 => simp
          intro gg cp w4 hown4 hgrow hat hlt4
          have HO4 := hide (show w4.ownsRow w2.heap.size 3 1 (.slice (some ⟨gg, 0, none⟩) (k + 1) cp) (k + 1) (((ks ++ [n]).map Int.ofNat).map (Value.int .i64)) by
            rw [List.map_append, List.map_append, List.map_map]; exact hown4)
          have HB4 := hide (((unhide HB).alloc (by omega) _).grown hgrow (by simp; omega) (fun q hq => ((unhide HO).lt q hq).1))
          clear hown4 hgrow hat hlt4
          go_wp2
          go_roundw
          case rel => exact ⟨k + 1, some ⟨gg, 0, none⟩, cp, ks ++ [n], by omega, rfl, by go_num, HN1, HO4, HB4⟩
          case measure => simp [intOf]; omega
      · obtain rfl : k = 2 := by omega
        have hN := unhide HN
        rw [List.take_of_length_le (by rw [unhide HLEN]; exact Nat.le_refl _)] at hN
        have HN2 := hide hN
        have H1 := hide ((unhide H0).later (unhide HBW))
        obtain ⟨hl, hi, hnr⟩ := own_numbers (unhide HO) (by omega)
        have hlt6 := RunM.nums_lt hN
        clear hN
        obtain ⟨n0, n1, rfl⟩ := RunM.two hl
        obtain ⟨bb, off, rfl, hcs⟩ := hi.row (by simp)
        have hbF : bb ∉ m :: o.toList := (unhide H0).out bb (by have q1 := hnr bb off rfl; have q2 := (unhide HB2).size; omega)
        have c0 : wr.cell? ⟨bb, off, none⟩ = some (.int .i64 (n0 : Int)) := hcs 0 (by simp)
        have b0 := hlt6 n0 (by simp)
        have c1 : wr.cell? ⟨bb, off + 1, none⟩ = some (.int .i64 (n1 : Int)) := hcs 1 (by simp)
        have b1 := hlt6 n1 (by simp)
        clear hcs
        have HA := hide (show RunM.pieces x RunM.wHello r = (ServM.next x (RunM.hi n0 0 0 0 0) n1, RunM.greet x (RunM.hi n0 0 0 0 0) n1) from (RunM.pieces_yes rfl (unhide HLEN) (unhide HN2)).trans rfl)
        have CH := hide (fun (W : World) (hW : Below wr.heap.size wr W) => fgreet_any (RunM.hi n0 0 0 0 0) (n1 : Int) W (unhide HG) ((unhide H1).later hW) ⟨by simp [RunM.hi], by simp [RunM.hi]; omega⟩ ⟨by omega, by omega⟩)
        clear hl hi hnr hlt6
        go_wp2
        have RS : Hid (∀ W : World, Kept (m :: o.toList) wr W → Hid (Kept (m :: o.toList) wr W) ∧ W.cell? ⟨bb, off, none⟩ = some (.int .i64 (n0 : Int)) ∧ W.cell? ⟨bb, off + 1, none⟩ = some (.int .i64 (n1 : Int))) := hide (fun W hk => ⟨hide hk, (hk.cell (World.block_lt_of_cell? _ _ c0) hbF).trans c0, (hk.cell (World.block_lt_of_cell? _ _ c1) hbF).trans c1⟩)
        have hR0 : Hid (Kept (m :: o.toList) wr wr.drew) ∧ wr.drew.cell? ⟨bb, off, none⟩ = some (.int .i64 (n0 : Int)) ∧ wr.drew.cell? ⟨bb, off + 1, none⟩ = some (.int .i64 (n1 : Int)) := unhide RS _ (Kept.refl _ _).drew
        go_region_held3 (fun w' => Hid (Kept (m :: o.toList) wr w') ∧ w'.cell? ⟨bb, off, none⟩ = some (.int .i64 (n0 : Int)) ∧ w'.cell? ⟨bb, off + 1, none⟩ = some (.int .i64 (n1 : Int))) (with_reducible assumption)
          (first | (go_at_call 20; refine (unhide CH _ (below_drew (Below.refl _ _))).mono ?_; rintro e w' ⟨rfl, hs⟩; have hS3 : Hid (Kept (m :: o.toList) wr w') ∧ w'.cell? ⟨bb, off, none⟩ = some (.int .i64 (n0 : Int)) ∧ w'.cell? ⟨bb, off + 1, none⟩ = some (.int .i64 (n1 : Int)) := unhide RS w' (Kept.trans (Kept.refl _ _).drew hs.kept9)))
        go_wp2
        go_ret
        rw [unhide HA]
        exact ⟨rfl, MStep.behind (unhide HBW) (MStep.behind (below_drew (Below.refl _ _)) hs)⟩
  · rw [RunM.pieces_short (M := 2) rfl hlen]
    obtain ⟨ml, hml⟩ : ∃ ml, r.length = ml := ⟨_, rfl⟩
    have CC := hide (fun W => line_cut W (⟨#[104, 101, 108, 108, 111]⟩ : ByteArray) rfl hs hc hml)
    rw [hml] at hlen hrn
    have H0 := hide h0
    have e1 : ¬ (ml : Int) = 2 := by omega
    have e2 : ((ml : Int) == 2) = false := beq_eq_false_iff_ne.2 e1
    have q1 : (1 : Int) ≤ (ml : Int) + 1 := by omega
    clear h0 hc hs hml hrl g
    go_enter Tryz.func9, Tryz.ntmps9
    go_wp2_with fail
    refine (unhide CC _).mono ?_
    rintro e w2 ⟨gb, cap, rfl, hcap, hgb, hgl, cw0, hck, hb2⟩
    have HCK := hide hck
    have HB2 := hide hb2
    clear hck hb2
    go_wp2
    go_ret
    exact ⟨rfl, MStep.same (unhide H0) (unhide HB2)⟩
set_option maxHeartbeats 12800000 in
set_option maxRecDepth 8000 in
theorem fline_again {B m : Nat} {o : Option Nat} {R : List Nat} {x : ServM.St} {l : ByteArray} {r : List (List UInt8)} (w : World) (g : ServM.Good x) (h0 : MAt B w m o R x) (hs : l.size ≤ 3000) (hc : RunM.cut 32 l.data.toList = RunM.wAgain :: r) :
    Calls Tryz.prog 9 #[.pointer (some ⟨m, 0, none⟩), .string l] w fun e w' => e = .returned (.string (RunM.bs (RunM.pieces x RunM.wAgain r).2)) ∧ MStep B w w' m o R (RunM.pieces x RunM.wAgain r).1 := by
  obtain ⟨hrl, hrn⟩ := piece_small hs hc
  by_cases hlen : r.length = 6
  · have CC := hide (fun W => line_cut W (⟨#[97, 103, 97, 105, 110]⟩ : ByteArray) rfl hs hc hlen)
    have HR := hide hrl
    have HLEN := hide hlen
    have H0 := hide h0
    have HG := hide g
    clear hrl hlen h0 g hc hs
    go_enter Tryz.func9, Tryz.ntmps9
    go_wp2_with fail
    refine (unhide CC _).mono ?_
    rintro e w2 ⟨gb, cap, rfl, hcap, hgb, hgl, cw0, hck, hb2⟩
    have HCK := hide hck
    have HB2 := hide hb2
    clear hck hb2
    obtain ⟨i0, hi0, hz0, hz1, hz2⟩ := info_parts infoInt5
    go_wp2
    go_loopw [7, 8] (fun v i wr => ∃ (k : Nat) (sb : Option Addr) (sc : Nat) (ks : List Nat), k ≤ 6 ∧ v = .slice sb k sc ∧ i = .int .i64 ((k : Int) + 1) ∧ Hid (RunM.nums (r.take k) = some ks) ∧ Hid (wr.ownsRow w2.heap.size 3 1 (.slice sb k sc) k ((ks.map Int.ofNat).map (Value.int .i64))) ∧ Hid (Below w2.heap.size w2 wr)) (fun _ i _ => 6 + 1 - (intOf i).toNat)
    case atStart => exact ⟨0, none, 0, [], by omega, rfl, rfl, hide rfl, hide (World.ownsRow_nil _ _ _ _), hide (Below.refl _ _)⟩
    case round =>
      obtain ⟨k, sb, sc, ks, hk, rfl, rfl, HN, HO, HB⟩ := hrel
      have HBW := hide ((unhide HB2).trans ((unhide HB).mono (unhide HB2).size))
      have cwr := cell_later (unhide HB) cw0
      have hz4 := (unhide HB).size
      clear cw0
      by_cases hlt : k < 6
      · obtain ⟨q, hq⟩ : ∃ q, r[k]? = some q := ⟨_, List.getElem?_eq_getElem (by rw [unhide HLEN]; exact hlt)⟩
        have c1 : wr.cell? ⟨gb, k + 1, none⟩ = some (.string (RunM.bs q)) := cell_later (unhide HB) (unhide HCK k q hq)
        have hqs := unhide HR q (List.mem_of_getElem? hq)
        obtain ⟨t1, t2⟩ := nums_take hq (unhide HN)
        have hlt' : (k : Int) + 1 < 6 + 1 := by omega
        cases hnum : RunM.num q with
        | none =>
          have HNO := hide (t2 hnum)
          have CN : Hid (∀ W : World, Calls Tryz.prog 19 #[.string (RunM.bs q)] W fun e w' => e = .returned (.tuple #[.int .i64 0, .bool false]) ∧ w' = W) := hide (fun W => by have z := fnumber_any q W hqs; rw [hnum] at z; exact z)
          generalize RunM.bs q = qb at c1 CN
          clear t1 t2 hnum hqs hq
          go_wp2_with fail
          refine (unhide CN _).mono ?_
          rintro e w3 ⟨rfl, rfl⟩
          go_wp2
          go_ret
          rw [RunM.pieces_none (unhide HNO)]
          exact ⟨rfl, MStep.same (unhide H0) (unhide HBW)⟩
        | some n =>
          have HN1 := hide (t1 n hnum)
          have CN : Hid (∀ W : World, Calls Tryz.prog 19 #[.string (RunM.bs q)] W fun e w' => e = .returned (.tuple #[.int .i64 (n : Int), .bool true]) ∧ w' = W) := hide (fun W => by have z := fnumber_any q W hqs; rw [hnum] at z; exact z)
          generalize RunM.bs q = qb at c1 CN
          clear t1 t2 hnum hqs hq
          go_wp2_with fail
          refine (unhide CN _).mono ?_
          rintro e w3 ⟨rfl, rfl⟩
          clear c1 cwr
          go_wp2_with (at_builtin; refine wpList_append_lies _ rfl _ _ 54 rfl w2.heap.size 3 i0 (.int .i64 0) 1 8 Tryz.underlying54 hi0 hz0 hz1 hz2 rfl (by decide) (.slice sb k sc) k ((ks.map Int.ofNat).map (Value.int .i64)) rfl ((unhide HO).alloc _) ⟨w3.heap.size, 0, none⟩ 1 1 [.int .i64 n] rfl rfl ?c1 ?c2 (by omega) ?c3 ?c4 ?c5 (w3.heap.size + 1) ?c6 ?_)
          case c1 => exact World.news_of_block (cs := #[.int .i64 n]) (t := 3) (fr := (0, 0)) (heap_alloc_new w3 _)
          case c2 => simp [Value.oneCell']
          case c3 => unfold maxLen; omega
          case c4 => omega
          case c5 => simp; omega
          case c6 => simp
          intro gg cp w4 hown4 hgrow hat hlt4
          have HO4 := hide (show w4.ownsRow w2.heap.size 3 1 (.slice (some ⟨gg, 0, none⟩) (k + 1) cp) (k + 1) (((ks ++ [n]).map Int.ofNat).map (Value.int .i64)) by
            rw [List.map_append, List.map_append, List.map_map]; exact hown4)
          have HB4 := hide (((unhide HB).alloc (by omega) _).grown hgrow (by simp; omega) (fun q hq => ((unhide HO).lt q hq).1))
          clear hown4 hgrow hat hlt4
          go_wp2
          go_roundw
          case rel => exact ⟨k + 1, some ⟨gg, 0, none⟩, cp, ks ++ [n], by omega, rfl, by go_num, HN1, HO4, HB4⟩
          case measure => simp [intOf]; omega
      · obtain rfl : k = 6 := by omega
        have hN := unhide HN
        rw [List.take_of_length_le (by rw [unhide HLEN]; exact Nat.le_refl _)] at hN
        have HN2 := hide hN
        have H1 := hide ((unhide H0).later (unhide HBW))
        obtain ⟨hl, hi, hnr⟩ := own_numbers (unhide HO) (by omega)
        have hlt6 := RunM.nums_lt hN
        clear hN
        obtain ⟨n0, n1, n2, n3, n4, n5, rfl⟩ := RunM.six hl
        obtain ⟨bb, off, rfl, hcs⟩ := hi.row (by simp)
        have hbF : bb ∉ m :: o.toList := (unhide H0).out bb (by have q1 := hnr bb off rfl; have q2 := (unhide HB2).size; omega)
        have c0 : wr.cell? ⟨bb, off, none⟩ = some (.int .i64 (n0 : Int)) := hcs 0 (by simp)
        have b0 := hlt6 n0 (by simp)
        have c1 : wr.cell? ⟨bb, off + 1, none⟩ = some (.int .i64 (n1 : Int)) := hcs 1 (by simp)
        have b1 := hlt6 n1 (by simp)
        have c2 : wr.cell? ⟨bb, off + 2, none⟩ = some (.int .i64 (n2 : Int)) := hcs 2 (by simp)
        have b2 := hlt6 n2 (by simp)
        have c3 : wr.cell? ⟨bb, off + 3, none⟩ = some (.int .i64 (n3 : Int)) := hcs 3 (by simp)
        have b3 := hlt6 n3 (by simp)
        have c4 : wr.cell? ⟨bb, off + 4, none⟩ = some (.int .i64 (n4 : Int)) := hcs 4 (by simp)
        have b4 := hlt6 n4 (by simp)
        have c5 : wr.cell? ⟨bb, off + 5, none⟩ = some (.int .i64 (n5 : Int)) := hcs 5 (by simp)
        have b5 := hlt6 n5 (by simp)
        clear hcs
        have HA := hide (show RunM.pieces x RunM.wAgain r = (ServM.next x (RunM.hi n0 n1 n2 n3 n4) n5, RunM.greet x (RunM.hi n0 n1 n2 n3 n4) n5) from (RunM.pieces_yes rfl (unhide HLEN) (unhide HN2)).trans rfl)
        have CH := hide (fun (W : World) (hW : Below wr.heap.size wr W) => fgreet_any (RunM.hi n0 n1 n2 n3 n4) (n5 : Int) W (unhide HG) ((unhide H1).later hW) ⟨by simp [RunM.hi], by simp [RunM.hi]; omega⟩ ⟨by omega, by omega⟩)
        clear hl hi hnr hlt6
        go_wp2
        have RS : Hid (∀ W : World, Kept (m :: o.toList) wr W → Hid (Kept (m :: o.toList) wr W) ∧ W.cell? ⟨bb, off, none⟩ = some (.int .i64 (n0 : Int)) ∧ W.cell? ⟨bb, off + 1, none⟩ = some (.int .i64 (n1 : Int)) ∧ W.cell? ⟨bb, off + 2, none⟩ = some (.int .i64 (n2 : Int)) ∧ W.cell? ⟨bb, off + 3, none⟩ = some (.int .i64 (n3 : Int)) ∧ W.cell? ⟨bb, off + 4, none⟩ = some (.int .i64 (n4 : Int)) ∧ W.cell? ⟨bb, off + 5, none⟩ = some (.int .i64 (n5 : Int))) := hide (fun W hk => ⟨hide hk, (hk.cell (World.block_lt_of_cell? _ _ c0) hbF).trans c0, (hk.cell (World.block_lt_of_cell? _ _ c1) hbF).trans c1, (hk.cell (World.block_lt_of_cell? _ _ c2) hbF).trans c2, (hk.cell (World.block_lt_of_cell? _ _ c3) hbF).trans c3, (hk.cell (World.block_lt_of_cell? _ _ c4) hbF).trans c4, (hk.cell (World.block_lt_of_cell? _ _ c5) hbF).trans c5⟩)
        have hR0 : Hid (Kept (m :: o.toList) wr wr.drew) ∧ wr.drew.cell? ⟨bb, off, none⟩ = some (.int .i64 (n0 : Int)) ∧ wr.drew.cell? ⟨bb, off + 1, none⟩ = some (.int .i64 (n1 : Int)) ∧ wr.drew.cell? ⟨bb, off + 2, none⟩ = some (.int .i64 (n2 : Int)) ∧ wr.drew.cell? ⟨bb, off + 3, none⟩ = some (.int .i64 (n3 : Int)) ∧ wr.drew.cell? ⟨bb, off + 4, none⟩ = some (.int .i64 (n4 : Int)) ∧ wr.drew.cell? ⟨bb, off + 5, none⟩ = some (.int .i64 (n5 : Int)) := unhide RS _ (Kept.refl _ _).drew
        go_region_held3 (fun w' => Hid (Kept (m :: o.toList) wr w') ∧ w'.cell? ⟨bb, off, none⟩ = some (.int .i64 (n0 : Int)) ∧ w'.cell? ⟨bb, off + 1, none⟩ = some (.int .i64 (n1 : Int)) ∧ w'.cell? ⟨bb, off + 2, none⟩ = some (.int .i64 (n2 : Int)) ∧ w'.cell? ⟨bb, off + 3, none⟩ = some (.int .i64 (n3 : Int)) ∧ w'.cell? ⟨bb, off + 4, none⟩ = some (.int .i64 (n4 : Int)) ∧ w'.cell? ⟨bb, off + 5, none⟩ = some (.int .i64 (n5 : Int))) (with_reducible assumption)
          (first | (go_at_call 20; refine (unhide CH _ (below_drew (Below.refl _ _))).mono ?_; rintro e w' ⟨rfl, hs⟩; have hS3 : Hid (Kept (m :: o.toList) wr w') ∧ w'.cell? ⟨bb, off, none⟩ = some (.int .i64 (n0 : Int)) ∧ w'.cell? ⟨bb, off + 1, none⟩ = some (.int .i64 (n1 : Int)) ∧ w'.cell? ⟨bb, off + 2, none⟩ = some (.int .i64 (n2 : Int)) ∧ w'.cell? ⟨bb, off + 3, none⟩ = some (.int .i64 (n3 : Int)) ∧ w'.cell? ⟨bb, off + 4, none⟩ = some (.int .i64 (n4 : Int)) ∧ w'.cell? ⟨bb, off + 5, none⟩ = some (.int .i64 (n5 : Int)) := unhide RS w' (Kept.trans (Kept.refl _ _).drew hs.kept9)))
        go_wp2
        go_ret
        rw [unhide HA]
        exact ⟨rfl, MStep.behind (unhide HBW) (MStep.behind (below_drew (Below.refl _ _)) hs)⟩
  · rw [RunM.pieces_short (M := 6) rfl hlen]
    obtain ⟨ml, hml⟩ : ∃ ml, r.length = ml := ⟨_, rfl⟩
    have CC := hide (fun W => line_cut W (⟨#[97, 103, 97, 105, 110]⟩ : ByteArray) rfl hs hc hml)
    rw [hml] at hlen hrn
    have H0 := hide h0
    have e1 : ¬ (ml : Int) = 6 := by omega
    have e2 : ((ml : Int) == 6) = false := beq_eq_false_iff_ne.2 e1
    have q1 : (1 : Int) ≤ (ml : Int) + 1 := by omega
    clear h0 hc hs hml hrl g
    go_enter Tryz.func9, Tryz.ntmps9
    go_wp2_with fail
    refine (unhide CC _).mono ?_
    rintro e w2 ⟨gb, cap, rfl, hcap, hgb, hgl, cw0, hck, hb2⟩
    have HCK := hide hck
    have HB2 := hide hb2
    clear hck hb2
    go_wp2
    go_ret
    exact ⟨rfl, MStep.same (unhide H0) (unhide HB2)⟩
set_option maxHeartbeats 12800000 in
set_option maxRecDepth 8000 in
theorem fline_ticket {B m : Nat} {o : Option Nat} {R : List Nat} {x : ServM.St} {l : ByteArray} {r : List (List UInt8)} (w : World) (g : ServM.Good x) (h0 : MAt B w m o R x) (hs : l.size ≤ 3000) (hc : RunM.cut 32 l.data.toList = RunM.wTicket :: r) :
    Calls Tryz.prog 9 #[.pointer (some ⟨m, 0, none⟩), .string l] w fun e w' => e = .returned (.string (RunM.bs (RunM.pieces x RunM.wTicket r).2)) ∧ MStep B w w' m o R (RunM.pieces x RunM.wTicket r).1 := by
  obtain ⟨hrl, hrn⟩ := piece_small hs hc
  by_cases hlen : r.length = 1
  · have CC := hide (fun W => line_cut W (⟨#[116, 105, 99, 107, 101, 116]⟩ : ByteArray) rfl hs hc hlen)
    have HR := hide hrl
    have HLEN := hide hlen
    have H0 := hide h0
    have HG := hide g
    clear hrl hlen h0 g hc hs
    go_enter Tryz.func9, Tryz.ntmps9
    go_wp2_with fail
    refine (unhide CC _).mono ?_
    rintro e w2 ⟨gb, cap, rfl, hcap, hgb, hgl, cw0, hck, hb2⟩
    have HCK := hide hck
    have HB2 := hide hb2
    clear hck hb2
    obtain ⟨i0, hi0, hz0, hz1, hz2⟩ := info_parts infoInt5
    go_wp2
    go_loopw [7, 8] (fun v i wr => ∃ (k : Nat) (sb : Option Addr) (sc : Nat) (ks : List Nat), k ≤ 1 ∧ v = .slice sb k sc ∧ i = .int .i64 ((k : Int) + 1) ∧ Hid (RunM.nums (r.take k) = some ks) ∧ Hid (wr.ownsRow w2.heap.size 3 1 (.slice sb k sc) k ((ks.map Int.ofNat).map (Value.int .i64))) ∧ Hid (Below w2.heap.size w2 wr)) (fun _ i _ => 1 + 1 - (intOf i).toNat)
    case atStart => exact ⟨0, none, 0, [], by omega, rfl, rfl, hide rfl, hide (World.ownsRow_nil _ _ _ _), hide (Below.refl _ _)⟩
    case round =>
      obtain ⟨k, sb, sc, ks, hk, rfl, rfl, HN, HO, HB⟩ := hrel
      have HBW := hide ((unhide HB2).trans ((unhide HB).mono (unhide HB2).size))
      have cwr := cell_later (unhide HB) cw0
      have hz4 := (unhide HB).size
      clear cw0
      by_cases hlt : k < 1
      · obtain ⟨q, hq⟩ : ∃ q, r[k]? = some q := ⟨_, List.getElem?_eq_getElem (by rw [unhide HLEN]; exact hlt)⟩
        have c1 : wr.cell? ⟨gb, k + 1, none⟩ = some (.string (RunM.bs q)) := cell_later (unhide HB) (unhide HCK k q hq)
        have hqs := unhide HR q (List.mem_of_getElem? hq)
        obtain ⟨t1, t2⟩ := nums_take hq (unhide HN)
        have hlt' : (k : Int) + 1 < 1 + 1 := by omega
        cases hnum : RunM.num q with
        | none =>
          have HNO := hide (t2 hnum)
          have CN : Hid (∀ W : World, Calls Tryz.prog 19 #[.string (RunM.bs q)] W fun e w' => e = .returned (.tuple #[.int .i64 0, .bool false]) ∧ w' = W) := hide (fun W => by have z := fnumber_any q W hqs; rw [hnum] at z; exact z)
          generalize RunM.bs q = qb at c1 CN
          clear t1 t2 hnum hqs hq
          go_wp2_with fail
          refine (unhide CN _).mono ?_
          rintro e w3 ⟨rfl, rfl⟩
          go_wp2
          go_ret
          rw [RunM.pieces_none (unhide HNO)]
          exact ⟨rfl, MStep.same (unhide H0) (unhide HBW)⟩
        | some n =>
          have HN1 := hide (t1 n hnum)
          have CN : Hid (∀ W : World, Calls Tryz.prog 19 #[.string (RunM.bs q)] W fun e w' => e = .returned (.tuple #[.int .i64 (n : Int), .bool true]) ∧ w' = W) := hide (fun W => by have z := fnumber_any q W hqs; rw [hnum] at z; exact z)
          generalize RunM.bs q = qb at c1 CN
          clear t1 t2 hnum hqs hq
          go_wp2_with fail
          refine (unhide CN _).mono ?_
          rintro e w3 ⟨rfl, rfl⟩
          clear c1 cwr
          go_wp2_with (at_builtin; refine wpList_append_lies _ rfl _ _ 54 rfl w2.heap.size 3 i0 (.int .i64 0) 1 8 Tryz.underlying54 hi0 hz0 hz1 hz2 rfl (by decide) (.slice sb k sc) k ((ks.map Int.ofNat).map (Value.int .i64)) rfl ((unhide HO).alloc _) ⟨w3.heap.size, 0, none⟩ 1 1 [.int .i64 n] rfl rfl ?c1 ?c2 (by omega) ?c3 ?c4 ?c5 (w3.heap.size + 1) ?c6 ?_)
          case c1 => exact World.news_of_block (cs := #[.int .i64 n]) (t := 3) (fr := (0, 0)) (heap_alloc_new w3 _)
          case c2 => simp [Value.oneCell']
          case c3 => unfold maxLen; omega
          case c4 => omega
          case c5 => simp; omega
          case c6 => simp
          intro gg cp w4 hown4 hgrow hat hlt4
          have HO4 := hide (show w4.ownsRow w2.heap.size 3 1 (.slice (some ⟨gg, 0, none⟩) (k + 1) cp) (k + 1) (((ks ++ [n]).map Int.ofNat).map (Value.int .i64)) by
            rw [List.map_append, List.map_append, List.map_map]; exact hown4)
          have HB4 := hide (((unhide HB).alloc (by omega) _).grown hgrow (by simp; omega) (fun q hq => ((unhide HO).lt q hq).1))
          clear hown4 hgrow hat hlt4
          go_wp2
          go_roundw
          case rel => exact ⟨k + 1, some ⟨gg, 0, none⟩, cp, ks ++ [n], by omega, rfl, by go_num, HN1, HO4, HB4⟩
          case measure => simp [intOf]; omega
      · obtain rfl : k = 1 := by omega
        have hN := unhide HN
        rw [List.take_of_length_le (by rw [unhide HLEN]; exact Nat.le_refl _)] at hN
        have HN2 := hide hN
        have H1 := hide ((unhide H0).later (unhide HBW))
        obtain ⟨hl, hi, hnr⟩ := own_numbers (unhide HO) (by omega)
        have hlt6 := RunM.nums_lt hN
        clear hN
        obtain ⟨n0, rfl⟩ := RunM.one hl
        obtain ⟨bb, off, rfl, hcs⟩ := hi.row (by simp)
        have hbF : bb ∉ m :: o.toList := (unhide H0).out bb (by have q1 := hnr bb off rfl; have q2 := (unhide HB2).size; omega)
        have c0 : wr.cell? ⟨bb, off, none⟩ = some (.int .i64 (n0 : Int)) := hcs 0 (by simp)
        have b0 := hlt6 n0 (by simp)
        clear hcs
        have HA := hide (show RunM.pieces x RunM.wTicket r = (ServM.tick x n0, RunM.ticket x n0) from (RunM.pieces_yes rfl (unhide HLEN) (unhide HN2)).trans rfl)
        have CT := hide (rticket_any (n0 : Int) wr (unhide HG) (unhide H1))
        obtain ⟨z1, z2, z3, z4⟩ := RunM.ticket_bds (unhide HG) (u := (n0 : Int)) ⟨by omega, by omega⟩
        have be := RunM.tErr_small x (n0 : Int)
        have HT : Hid (RunM.ticket x n0 = if ¬ ServM.tErr x n0 = 0 then RunM.name (ServM.tErr x n0) else RunM.row [(ServM.tEp x n0).toNat, (ServM.tNo x n0).toNat, (ServM.tUn x n0).toNat, (ServM.tTg x n0).toNat]) := hide rfl
        generalize RunM.ticket x n0 = T at HT HA
        generalize ServM.tErr x n0 = E at HT CT be
        generalize ServM.tEp x n0 = e1 at HT CT z1
        generalize ServM.tNo x n0 = e2 at HT CT z2
        generalize ServM.tUn x n0 = e3 at HT CT z3
        generalize ServM.tTg x n0 = e4 at HT CT z4
        clear hl hi hnr hlt6
        by_cases hE0 : E = 0
        · subst hE0
          have HT2 := hide (show RunM.bs (RunM.row [e1.toNat, e2.toNat, e3.toNat, e4.toNat]) = RunM.bs T by rw [unhide HT, if_neg (by simp)])
          have CR := hide (fun W V (hV : W.heap.size = V) => frow4 (W := W) (T := 3) hV z1 z2 z3 z4)
          rw [unhide HT2] at CR
          clear HT z1 z2 z3 z4 be
          go_wp2_with fail
          refine (unhide CT).mono ?_
          rintro e w3 ⟨rfl, hs⟩
          have HS := hide (MStep.behind (unhide HBW) hs)
          clear hs c0
          go_wp2_with fail
          refine (unhide CR _ _ (by simp)).mono ?_
          rintro e w4 ⟨rfl, hb4⟩
          have HB4 := hide (bel3 (Below.refl _ _) (below_alloc (Below.refl _ _) _) hb4)
          clear hb4
          go_wp2
          go_ret
          rw [unhide HA]
          exact ⟨rfl, (unhide HS).ahead (unhide HB4)⟩
        · have HT2 := hide (show RunM.bs (RunM.name E) = RunM.bs T by rw [unhide HT, if_pos hE0])
          have CE := hide (fun W => fname_any E W be.1 be.2)
          rw [unhide HT2] at CE
          have hE1 : (E == 0) = false := beq_eq_false_iff_ne.2 hE0
          clear HT z1 z2 z3 z4 be
          go_wp2_with fail
          refine (unhide CT).mono ?_
          rintro e w3 ⟨rfl, hs⟩
          have HS := hide (MStep.behind (unhide HBW) hs)
          clear hs c0
          go_wp2_with fail
          refine (unhide CE _).mono ?_
          rintro e w4 ⟨rfl, hb4⟩
          have HB4 := hide (bel3 (Below.refl _ _) (below_alloc (Below.refl _ _) _) hb4)
          clear hb4
          go_wp2
          go_ret
          rw [unhide HA]
          exact ⟨rfl, (unhide HS).ahead (unhide HB4)⟩
  · rw [RunM.pieces_short (M := 1) rfl hlen]
    obtain ⟨ml, hml⟩ : ∃ ml, r.length = ml := ⟨_, rfl⟩
    have CC := hide (fun W => line_cut W (⟨#[116, 105, 99, 107, 101, 116]⟩ : ByteArray) rfl hs hc hml)
    rw [hml] at hlen hrn
    have H0 := hide h0
    have e1 : ¬ (ml : Int) = 1 := by omega
    have e2 : ((ml : Int) == 1) = false := beq_eq_false_iff_ne.2 e1
    have q1 : (1 : Int) ≤ (ml : Int) + 1 := by omega
    clear h0 hc hs hml hrl g
    go_enter Tryz.func9, Tryz.ntmps9
    go_wp2_with fail
    refine (unhide CC _).mono ?_
    rintro e w2 ⟨gb, cap, rfl, hcap, hgb, hgl, cw0, hck, hb2⟩
    have HCK := hide hck
    have HB2 := hide hb2
    clear hck hb2
    go_wp2
    go_ret
    exact ⟨rfl, MStep.same (unhide H0) (unhide HB2)⟩
set_option maxHeartbeats 12800000 in
set_option maxRecDepth 8000 in
theorem fline_pull {B m : Nat} {o : Option Nat} {R : List Nat} {x : ServM.St} {l : ByteArray} {r : List (List UInt8)} (w : World) (g : ServM.Good x) (h0 : MAt B w m o R x) (hs : l.size ≤ 3000) (hc : RunM.cut 32 l.data.toList = RunM.wPull :: r) :
    Calls Tryz.prog 9 #[.pointer (some ⟨m, 0, none⟩), .string l] w fun e w' => e = .returned (.string (RunM.bs (RunM.pieces x RunM.wPull r).2)) ∧ MStep B w w' m o R (RunM.pieces x RunM.wPull r).1 := by
  obtain ⟨hrl, hrn⟩ := piece_small hs hc
  by_cases hlen : r.length = 0
  · have CC := hide (fun W => line_cut W (⟨#[112, 117, 108, 108]⟩ : ByteArray) rfl hs hc hlen)
    have HR := hide hrl
    have HLEN := hide hlen
    have H0 := hide h0
    have HG := hide g
    clear hrl hlen h0 g hc hs
    go_enter Tryz.func9, Tryz.ntmps9
    go_wp2_with fail
    refine (unhide CC _).mono ?_
    rintro e w2 ⟨gb, cap, rfl, hcap, hgb, hgl, cw0, hck, hb2⟩
    have HCK := hide hck
    have HB2 := hide hb2
    clear hck hb2
    obtain ⟨i0, hi0, hz0, hz1, hz2⟩ := info_parts infoInt5
    go_wp2
    go_loopw [7, 8] (fun v i wr => ∃ (k : Nat) (sb : Option Addr) (sc : Nat) (ks : List Nat), k ≤ 0 ∧ v = .slice sb k sc ∧ i = .int .i64 ((k : Int) + 1) ∧ Hid (RunM.nums (r.take k) = some ks) ∧ Hid (wr.ownsRow w2.heap.size 3 1 (.slice sb k sc) k ((ks.map Int.ofNat).map (Value.int .i64))) ∧ Hid (Below w2.heap.size w2 wr)) (fun _ i _ => 0 + 1 - (intOf i).toNat)
    case atStart => exact ⟨0, none, 0, [], by omega, rfl, rfl, hide rfl, hide (World.ownsRow_nil _ _ _ _), hide (Below.refl _ _)⟩
    case round =>
      obtain ⟨k, sb, sc, ks, hk, rfl, rfl, HN, HO, HB⟩ := hrel
      have HBW := hide ((unhide HB2).trans ((unhide HB).mono (unhide HB2).size))
      have cwr := cell_later (unhide HB) cw0
      have hz4 := (unhide HB).size
      clear cw0
      obtain rfl : k = 0 := by omega
      have hN := unhide HN
      rw [List.take_of_length_le (by rw [unhide HLEN]; exact Nat.le_refl _)] at hN
      have HN2 := hide hN
      have H1 := hide ((unhide H0).later (unhide HBW))
      obtain ⟨hl, hi, hnr⟩ := own_numbers (unhide HO) (by omega)
      have hlt6 := RunM.nums_lt hN
      clear hN
      obtain rfl : ks = [] := List.length_eq_zero_iff.1 hl
      have HA := hide (show RunM.pieces x RunM.wPull r = (ServM.pull x, RunM.pull x) from (RunM.pieces_yes rfl (unhide HLEN) (unhide HN2)).trans rfl)
      obtain ⟨wa, wc, wq, wp⟩ := (unhide H1).wait
      have wl := (unhide H1).lt
      clear hl hi hnr hlt6
      by_cases hL : x.L = []
      · have HP := hide (show ServM.pull x = x ∧ RunM.pull x = RunM.name 5 from ⟨pull_nil hL, by unfold RunM.pull; rw [hL]⟩)
        have CE := hide (fun W => fname_any 5 W (by omega) (by omega))
        rw [hL] at wq
        simp only [List.length_nil] at wq
        clear wp hL
        go_wp2_with fail
        refine (unhide CE _).mono ?_
        rintro e w4 ⟨rfl, hb4⟩
        have HB4 := hide hb4
        clear hb4
        go_wp2
        go_ret
        rw [unhide HA, (unhide HP).1, (unhide HP).2]
        exact ⟨rfl, MStep.behind (unhide HBW) (MStep.same (unhide H1) (unhide HB4))⟩
      · obtain ⟨mm, t, e, m0, m1, hr, hp⟩ := pull_some (unhide HG) hL
        have hk1 := (unhide HG).k1
        have HT := hide (show RunM.pull x = RunM.digits (ConnM.turn mm).toNat by unfold RunM.pull; rw [e]; simp)
        have HY := hide (show { x with L := x.L.eraseIdx 0 } = ServM.pull x by unfold ServM.pull; rw [e]; rfl)
        have CO := hide (fun W (h : MAt B W m o R x) => rout_in (i := 0) W h (by rw [e]; simp) (unhide HG).len)
        rw [unhide HY] at CO
        have CN := hide (fun W => rnumber_any (s := 0) (m := mm) W (by omega) (by omega) m0 (by omega))
        have CD := hide (fun W => fdig_turn W m0 (by omega : mm ≤ 65535))
        rw [show 4096 * 0 + mm = mm from by omega] at CN
        rw [← unhide HT] at CD
        rw [e] at wq wp
        obtain ⟨gq, goff, rfl, c0, c1⟩ := wp.2.2 0 (by simp)
        simp only [List.length_cons, List.getD_cons_zero, Nat.zero_mul, Nat.add_zero] at c0 c1 wq
        generalize ConnM.turn mm = tc at CN CD
        clear wp hp hL e hr hk1 m0 m1 HT
        generalize t.length = tn at wq
        go_wp2_with fail
        have hH := Held.fresh (w := wr) [.int .i64 0, .int .i64 mm] 78 rfl
        refine (unhide CO _ ((unhide H1).later (below_alloc (Below.refl _ _) _))).mono ?_
        rintro e w3 ⟨rfl, hs⟩
        have HH3 := hide (hs.kept9.held hH ((unhide H0).out _ (by have q1 := (unhide HBW).size; omega)))
        have HS := hide (MStep.behind (unhide HBW) (MStep.behind (below_alloc (Below.refl _ _) _) hs))
        obtain ⟨d0, d1⟩ := (unhide HH3).c2.1
        clear hs hH c0 c1 wq
        go_wp2_with fail
        refine (unhide CN _).mono ?_
        rintro e w4 ⟨rfl, hb4⟩
        have HB4 := hide hb4
        clear hb4
        go_wp2_with fail
        refine (unhide CD _).mono ?_
        rintro e w5 ⟨rfl, rfl⟩
        go_wp2
        go_ret
        rw [unhide HA]
        exact ⟨rfl, (unhide HS).ahead (unhide HB4)⟩
  · rw [RunM.pieces_short (M := 0) rfl hlen]
    obtain ⟨ml, hml⟩ : ∃ ml, r.length = ml := ⟨_, rfl⟩
    have CC := hide (fun W => line_cut W (⟨#[112, 117, 108, 108]⟩ : ByteArray) rfl hs hc hml)
    rw [hml] at hlen hrn
    have H0 := hide h0
    have e1 : ¬ (ml : Int) = 0 := by omega
    have e2 : ((ml : Int) == 0) = false := beq_eq_false_iff_ne.2 e1
    have q1 : (1 : Int) ≤ (ml : Int) + 1 := by omega
    clear h0 hc hs hml hrl g
    go_enter Tryz.func9, Tryz.ntmps9
    go_wp2_with fail
    refine (unhide CC _).mono ?_
    rintro e w2 ⟨gb, cap, rfl, hcap, hgb, hgl, cw0, hck, hb2⟩
    have HCK := hide hck
    have HB2 := hide hb2
    clear hck hb2
    go_wp2
    go_ret
    exact ⟨rfl, MStep.same (unhide H0) (unhide HB2)⟩
set_option maxHeartbeats 12800000 in
set_option maxRecDepth 8000 in
theorem fline_turn {B m : Nat} {o : Option Nat} {R : List Nat} {x : ServM.St} {l : ByteArray} {r : List (List UInt8)} (w : World) (g : ServM.Good x) (h0 : MAt B w m o R x) (hs : l.size ≤ 3000) (hc : RunM.cut 32 l.data.toList = RunM.wTurn :: r) :
    Calls Tryz.prog 9 #[.pointer (some ⟨m, 0, none⟩), .string l] w fun e w' => e = .returned (.string (RunM.bs (RunM.pieces x RunM.wTurn r).2)) ∧ MStep B w w' m o R (RunM.pieces x RunM.wTurn r).1 := by
  obtain ⟨hrl, hrn⟩ := piece_small hs hc
  by_cases hlen : r.length = 0
  · have CC := hide (fun W => line_cut W (⟨#[116, 117, 114, 110]⟩ : ByteArray) rfl hs hc hlen)
    have HR := hide hrl
    have HLEN := hide hlen
    have H0 := hide h0
    have HG := hide g
    clear hrl hlen h0 g hc hs
    go_enter Tryz.func9, Tryz.ntmps9
    go_wp2_with fail
    refine (unhide CC _).mono ?_
    rintro e w2 ⟨gb, cap, rfl, hcap, hgb, hgl, cw0, hck, hb2⟩
    have HCK := hide hck
    have HB2 := hide hb2
    clear hck hb2
    obtain ⟨i0, hi0, hz0, hz1, hz2⟩ := info_parts infoInt5
    go_wp2
    go_loopw [7, 8] (fun v i wr => ∃ (k : Nat) (sb : Option Addr) (sc : Nat) (ks : List Nat), k ≤ 0 ∧ v = .slice sb k sc ∧ i = .int .i64 ((k : Int) + 1) ∧ Hid (RunM.nums (r.take k) = some ks) ∧ Hid (wr.ownsRow w2.heap.size 3 1 (.slice sb k sc) k ((ks.map Int.ofNat).map (Value.int .i64))) ∧ Hid (Below w2.heap.size w2 wr)) (fun _ i _ => 0 + 1 - (intOf i).toNat)
    case atStart => exact ⟨0, none, 0, [], by omega, rfl, rfl, hide rfl, hide (World.ownsRow_nil _ _ _ _), hide (Below.refl _ _)⟩
    case round =>
      obtain ⟨k, sb, sc, ks, hk, rfl, rfl, HN, HO, HB⟩ := hrel
      have HBW := hide ((unhide HB2).trans ((unhide HB).mono (unhide HB2).size))
      have cwr := cell_later (unhide HB) cw0
      have hz4 := (unhide HB).size
      clear cw0
      obtain rfl : k = 0 := by omega
      have hN := unhide HN
      rw [List.take_of_length_le (by rw [unhide HLEN]; exact Nat.le_refl _)] at hN
      have HN2 := hide hN
      have H1 := hide ((unhide H0).later (unhide HBW))
      obtain ⟨hl, hi, hnr⟩ := own_numbers (unhide HO) (by omega)
      have hlt6 := RunM.nums_lt hN
      clear hN
      obtain rfl : ks = [] := List.length_eq_zero_iff.1 hl
      have HA := hide (show RunM.pieces x RunM.wTurn r = (ServM.turn x, RunM.turned x) from (RunM.pieces_yes rfl (unhide HLEN) (unhide HN2)).trans rfl)
      obtain ⟨m0, m1, m2, -, -, -, ml⟩ := (unhide H1).nums
      clear hl hi hnr hlt6
      by_cases hE : RingM.turnErr x.ep x.key x.old = 0
      · have hh1 := RingM.turn_zero.1 hE
        have HT := hide (show RunM.turned x = RunM.tOk from if_pos hE)
        have HY := hide (show ServM.turn x = { x with ep := x.ep + 1, key := TagM.tag x.key [x.ep + 1], old := x.key } from if_pos hE)
        have CM := hide (fun V => ref_turn_any (ep := x.ep) (key := x.key) (old := x.old) (unhide HG).ring (fun _ => ⟨rfl, rfl, rfl⟩) (fun q => absurd hE q) V)
        rw [hE] at CM
        clear hE hh1
        generalize hg : TagM.tag x.key [x.ep + 1] = g at CM HY
        go_wp2_with fail
        refine (unhide CM _).mono ?_
        rintro e w3 ⟨rfl, hb3⟩
        have H3 := hide ((unhide H1).later hb3)
        have HB3 := hide hb3
        obtain ⟨q0, q1, q2, -, -, qf, ql⟩ := (unhide H3).nums
        have qf0 := qf 0
        have qf1 := qf 1
        have qf2 := qf 2
        clear hb3 m0 m1 m2 qf
        go_wp2
        go_ret
        rw [unhide HA, unhide HY, unhide HT]
        have k4 := (((unhide H3).set (i := 0) (u := .int .i64 (x.ep + 1)) (y := { x with ep := x.ep + 1 }) (fun _ _ _ _ _ _ _ => rfl) rfl rfl rfl).set (i := 1) (u := .int .i64 g) (y := { x with ep := x.ep + 1, key := g }) (fun _ _ _ _ _ _ _ => rfl) rfl rfl rfl).set (i := 2) (u := .int .i64 x.key) (y := { x with ep := x.ep + 1, key := g, old := x.key }) (fun _ _ _ _ _ _ _ => rfl) rfl rfl rfl
        have s4 : MStep B w3 _ m o R { x with ep := x.ep + 1, key := g, old := x.key } := ⟨o, R, k4, fun _ hk => .inl hk, fun _ hg => .inl hg, (((Kept.refl (m :: o.toList) w3).setCell (.inl (List.mem_cons_self ..)) _).setCell (.inl (List.mem_cons_self ..)) _).setCell (.inl (List.mem_cons_self ..)) _⟩
        exact ⟨rfl, MStep.behind (unhide HBW) (MStep.behind (unhide HB3) (s4.ahead (below_alloc (Below.refl _ _) _)))⟩
      · have HT := hide (show RunM.turned x = RunM.name (RingM.turnErr x.ep x.key x.old) from if_neg hE)
        have HY := hide (show ServM.turn x = x from if_neg hE)
        have CM := hide (fun V => ref_turn_any (ep := x.ep) (key := x.key) (old := x.old) (unhide HG).ring (fun q => absurd q hE) (fun _ => ⟨rfl, rfl, rfl⟩) V)
        have be := RunM.turnErr_small x.ep x.key x.old
        generalize RingM.turnErr x.ep x.key x.old = E at CM hE HT be
        have CE := hide (fun W => fname_any E W be.1 be.2)
        have hE1 : (E == 0) = false := beq_eq_false_iff_ne.2 hE
        clear be
        go_wp2_with fail
        refine (unhide CM _).mono ?_
        rintro e w3 ⟨rfl, hb3⟩
        have HB3 := hide hb3
        clear hb3 m0 m1 m2
        go_wp2_with fail
        refine (unhide CE _).mono ?_
        rintro e w4 ⟨rfl, hb4⟩
        have HB4 := hide (bel3 (unhide HB3) (below_alloc (Below.refl _ _) _) hb4)
        clear hb4
        go_wp2
        go_ret
        rw [unhide HA, unhide HY, unhide HT]
        exact ⟨rfl, MStep.behind (unhide HBW) (MStep.same (unhide H1) (unhide HB4))⟩
  · rw [RunM.pieces_short (M := 0) rfl hlen]
    obtain ⟨ml, hml⟩ : ∃ ml, r.length = ml := ⟨_, rfl⟩
    have CC := hide (fun W => line_cut W (⟨#[116, 117, 114, 110]⟩ : ByteArray) rfl hs hc hml)
    rw [hml] at hlen hrn
    have H0 := hide h0
    have e1 : ¬ (ml : Int) = 0 := by omega
    have e2 : ((ml : Int) == 0) = false := beq_eq_false_iff_ne.2 e1
    have q1 : (1 : Int) ≤ (ml : Int) + 1 := by omega
    clear h0 hc hs hml hrl g
    go_enter Tryz.func9, Tryz.ntmps9
    go_wp2_with fail
    refine (unhide CC _).mono ?_
    rintro e w2 ⟨gb, cap, rfl, hcap, hgb, hgl, cw0, hck, hb2⟩
    have HCK := hide hck
    have HB2 := hide hb2
    clear hck hb2
    go_wp2
    go_ret
    exact ⟨rfl, MStep.same (unhide H0) (unhide HB2)⟩
set_option maxHeartbeats 12800000 in
set_option maxRecDepth 8000 in
theorem fline_crash {B m : Nat} {o : Option Nat} {R : List Nat} {x : ServM.St} {l : ByteArray} {r : List (List UInt8)} (w : World) (g : ServM.Good x) (h0 : MAt B w m o R x) (hs : l.size ≤ 3000) (hc : RunM.cut 32 l.data.toList = RunM.wCrash :: r) :
    Calls Tryz.prog 9 #[.pointer (some ⟨m, 0, none⟩), .string l] w fun e w' => e = .returned (.string (RunM.bs (RunM.pieces x RunM.wCrash r).2)) ∧ MStep B w w' m o R (RunM.pieces x RunM.wCrash r).1 := by
  obtain ⟨hrl, hrn⟩ := piece_small hs hc
  by_cases hlen : r.length = 0
  · have CC := hide (fun W => line_cut W (⟨#[99, 114, 97, 115, 104]⟩ : ByteArray) rfl hs hc hlen)
    have HR := hide hrl
    have HLEN := hide hlen
    have H0 := hide h0
    have HG := hide g
    clear hrl hlen h0 g hc hs
    go_enter Tryz.func9, Tryz.ntmps9
    go_wp2_with fail
    refine (unhide CC _).mono ?_
    rintro e w2 ⟨gb, cap, rfl, hcap, hgb, hgl, cw0, hck, hb2⟩
    have HCK := hide hck
    have HB2 := hide hb2
    clear hck hb2
    obtain ⟨i0, hi0, hz0, hz1, hz2⟩ := info_parts infoInt5
    go_wp2
    go_loopw [7, 8] (fun v i wr => ∃ (k : Nat) (sb : Option Addr) (sc : Nat) (ks : List Nat), k ≤ 0 ∧ v = .slice sb k sc ∧ i = .int .i64 ((k : Int) + 1) ∧ Hid (RunM.nums (r.take k) = some ks) ∧ Hid (wr.ownsRow w2.heap.size 3 1 (.slice sb k sc) k ((ks.map Int.ofNat).map (Value.int .i64))) ∧ Hid (Below w2.heap.size w2 wr)) (fun _ i _ => 0 + 1 - (intOf i).toNat)
    case atStart => exact ⟨0, none, 0, [], by omega, rfl, rfl, hide rfl, hide (World.ownsRow_nil _ _ _ _), hide (Below.refl _ _)⟩
    case round =>
      obtain ⟨k, sb, sc, ks, hk, rfl, rfl, HN, HO, HB⟩ := hrel
      have HBW := hide ((unhide HB2).trans ((unhide HB).mono (unhide HB2).size))
      have cwr := cell_later (unhide HB) cw0
      have hz4 := (unhide HB).size
      clear cw0
      obtain rfl : k = 0 := by omega
      have hN := unhide HN
      rw [List.take_of_length_le (by rw [unhide HLEN]; exact Nat.le_refl _)] at hN
      have HN2 := hide hN
      have H1 := hide ((unhide H0).later (unhide HBW))
      obtain ⟨hl, hi, hnr⟩ := own_numbers (unhide HO) (by omega)
      have hlt6 := RunM.nums_lt hN
      clear hN
      obtain rfl : ks = [] := List.length_eq_zero_iff.1 hl
      have HA := hide (show RunM.pieces x RunM.wCrash r = (ServM.crash x, RunM.tOk) from (RunM.pieces_yes rfl (unhide HLEN) (unhide HN2)).trans rfl)
      have CH := hide (mcrash_any wr (unhide H1))
      clear hl hi hnr hlt6
      go_wp2_with fail
      refine (unhide CH).mono ?_
      rintro e w3 ⟨rfl, hs⟩
      have HS := hide hs
      clear hs
      go_wp2
      go_ret
      rw [unhide HA]
      exact ⟨rfl, MStep.behind (unhide HBW) (unhide HS)⟩
  · rw [RunM.pieces_short (M := 0) rfl hlen]
    obtain ⟨ml, hml⟩ : ∃ ml, r.length = ml := ⟨_, rfl⟩
    have CC := hide (fun W => line_cut W (⟨#[99, 114, 97, 115, 104]⟩ : ByteArray) rfl hs hc hml)
    rw [hml] at hlen hrn
    have H0 := hide h0
    have e1 : ¬ (ml : Int) = 0 := by omega
    have e2 : ((ml : Int) == 0) = false := beq_eq_false_iff_ne.2 e1
    have q1 : (1 : Int) ≤ (ml : Int) + 1 := by omega
    clear h0 hc hs hml hrl g
    go_enter Tryz.func9, Tryz.ntmps9
    go_wp2_with fail
    refine (unhide CC _).mono ?_
    rintro e w2 ⟨gb, cap, rfl, hcap, hgb, hgl, cw0, hck, hb2⟩
    have HCK := hide hck
    have HB2 := hide hb2
    clear hck hb2
    go_wp2
    go_ret
    exact ⟨rfl, MStep.same (unhide H0) (unhide HB2)⟩
set_option maxHeartbeats 12800000 in
set_option maxRecDepth 8000 in
theorem fline_waiting {B m : Nat} {o : Option Nat} {R : List Nat} {x : ServM.St} {l : ByteArray} {r : List (List UInt8)} (w : World) (g : ServM.Good x) (h0 : MAt B w m o R x) (hs : l.size ≤ 3000) (hc : RunM.cut 32 l.data.toList = RunM.wWaiting :: r) :
    Calls Tryz.prog 9 #[.pointer (some ⟨m, 0, none⟩), .string l] w fun e w' => e = .returned (.string (RunM.bs (RunM.pieces x RunM.wWaiting r).2)) ∧ MStep B w w' m o R (RunM.pieces x RunM.wWaiting r).1 := by
  obtain ⟨hrl, hrn⟩ := piece_small hs hc
  by_cases hlen : r.length = 0
  · have CC := hide (fun W => line_cut W (⟨#[119, 97, 105, 116, 105, 110, 103]⟩ : ByteArray) rfl hs hc hlen)
    have HR := hide hrl
    have HLEN := hide hlen
    have H0 := hide h0
    have HG := hide g
    clear hrl hlen h0 g hc hs
    go_enter Tryz.func9, Tryz.ntmps9
    go_wp2_with fail
    refine (unhide CC _).mono ?_
    rintro e w2 ⟨gb, cap, rfl, hcap, hgb, hgl, cw0, hck, hb2⟩
    have HCK := hide hck
    have HB2 := hide hb2
    clear hck hb2
    obtain ⟨i0, hi0, hz0, hz1, hz2⟩ := info_parts infoInt5
    go_wp2
    go_loopw [7, 8] (fun v i wr => ∃ (k : Nat) (sb : Option Addr) (sc : Nat) (ks : List Nat), k ≤ 0 ∧ v = .slice sb k sc ∧ i = .int .i64 ((k : Int) + 1) ∧ Hid (RunM.nums (r.take k) = some ks) ∧ Hid (wr.ownsRow w2.heap.size 3 1 (.slice sb k sc) k ((ks.map Int.ofNat).map (Value.int .i64))) ∧ Hid (Below w2.heap.size w2 wr)) (fun _ i _ => 0 + 1 - (intOf i).toNat)
    case atStart => exact ⟨0, none, 0, [], by omega, rfl, rfl, hide rfl, hide (World.ownsRow_nil _ _ _ _), hide (Below.refl _ _)⟩
    case round =>
      obtain ⟨k, sb, sc, ks, hk, rfl, rfl, HN, HO, HB⟩ := hrel
      have HBW := hide ((unhide HB2).trans ((unhide HB).mono (unhide HB2).size))
      have cwr := cell_later (unhide HB) cw0
      have hz4 := (unhide HB).size
      clear cw0
      obtain rfl : k = 0 := by omega
      have hN := unhide HN
      rw [List.take_of_length_le (by rw [unhide HLEN]; exact Nat.le_refl _)] at hN
      have HN2 := hide hN
      have H1 := hide ((unhide H0).later (unhide HBW))
      obtain ⟨hl, hi, hnr⟩ := own_numbers (unhide HO) (by omega)
      have hlt6 := RunM.nums_lt hN
      clear hN
      obtain rfl : ks = [] := List.length_eq_zero_iff.1 hl
      have HA := hide (show RunM.pieces x RunM.wWaiting r = (x, RunM.digits x.L.length) from (RunM.pieces_yes rfl (unhide HLEN) (unhide HN2)).trans rfl)
      obtain ⟨wa, wc, wq, wp⟩ := (unhide H1).wait
      have wl := (unhide H1).lt
      have h8 := (unhide HG).len
      have CD := hide (fun W => rdigits_any x.L.length (by omega) W)
      clear hl hi hnr hlt6 wp h8
      go_wp2_with fail
      refine (unhide CD _).mono ?_
      rintro e w3 ⟨rfl, rfl⟩
      go_wp2
      go_ret
      rw [unhide HA]
      exact ⟨rfl, MStep.same (unhide H0) (unhide HBW)⟩
  · rw [RunM.pieces_short (M := 0) rfl hlen]
    obtain ⟨ml, hml⟩ : ∃ ml, r.length = ml := ⟨_, rfl⟩
    have CC := hide (fun W => line_cut W (⟨#[119, 97, 105, 116, 105, 110, 103]⟩ : ByteArray) rfl hs hc hml)
    rw [hml] at hlen hrn
    have H0 := hide h0
    have e1 : ¬ (ml : Int) = 0 := by omega
    have e2 : ((ml : Int) == 0) = false := beq_eq_false_iff_ne.2 e1
    have q1 : (1 : Int) ≤ (ml : Int) + 1 := by omega
    clear h0 hc hs hml hrl g
    go_enter Tryz.func9, Tryz.ntmps9
    go_wp2_with fail
    refine (unhide CC _).mono ?_
    rintro e w2 ⟨gb, cap, rfl, hcap, hgb, hgl, cw0, hck, hb2⟩
    have HCK := hide hck
    have HB2 := hide hb2
    clear hck hb2
    go_wp2
    go_ret
    exact ⟨rfl, MStep.same (unhide H0) (unhide HB2)⟩
set_option maxHeartbeats 12800000 in
set_option maxRecDepth 8000 in
theorem fline_none {B m : Nat} {o : Option Nat} {R : List Nat} {x : ServM.St} {l : ByteArray} {r : List (List UInt8)} (w : World) (g : ServM.Good x) (h0 : MAt B w m o R x) (hs : l.size ≤ 3000) {p : List UInt8} (h1 : ¬ p = RunM.wHello) (h2 : ¬ p = RunM.wAgain) (h3 : ¬ p = RunM.wTicket) (h4 : ¬ p = RunM.wPull) (h5 : ¬ p = RunM.wTurn) (h6 : ¬ p = RunM.wCrash) (h7 : ¬ p = RunM.wWaiting) (hc : RunM.cut 32 l.data.toList = p :: r) :
    Calls Tryz.prog 9 #[.pointer (some ⟨m, 0, none⟩), .string l] w fun e w' => e = .returned (.string (RunM.bs (RunM.pieces x p r).2)) ∧ MStep B w w' m o R (RunM.pieces x p r).1 := by
  obtain ⟨hrl, hrn⟩ := piece_small hs hc
  rw [RunM.pieces_no (RunM.wants_none h1 h2 h3 h4 h5 h6 h7)]
  obtain ⟨ml, hml⟩ : ∃ ml, r.length = ml := ⟨_, rfl⟩
  have CC := hide (fun W => line_cut W (RunM.bs p) rfl hs hc hml)
  rw [hml] at hrn
  have H0 := hide h0
  have k1 : ((RunM.bs p).toList == [104, 101, 108, 108, 111]) = false := (word_eq p _).trans (decide_eq_false h1)
  have k2 : ((RunM.bs p).toList == [97, 103, 97, 105, 110]) = false := (word_eq p _).trans (decide_eq_false h2)
  have k3 : ((RunM.bs p).toList == [116, 105, 99, 107, 101, 116]) = false := (word_eq p _).trans (decide_eq_false h3)
  have k4 : ((RunM.bs p).toList == [112, 117, 108, 108]) = false := (word_eq p _).trans (decide_eq_false h4)
  have k5 : ((RunM.bs p).toList == [116, 117, 114, 110]) = false := (word_eq p _).trans (decide_eq_false h5)
  have k6 : ((RunM.bs p).toList == [99, 114, 97, 115, 104]) = false := (word_eq p _).trans (decide_eq_false h6)
  have k7 : ((RunM.bs p).toList == [119, 97, 105, 116, 105, 110, 103]) = false := (word_eq p _).trans (decide_eq_false h7)
  have e1 : ¬ (ml : Int) = -1 := by omega
  have e2 : ((ml : Int) == -1) = false := beq_eq_false_iff_ne.2 e1
  have q1 : (1 : Int) ≤ (ml : Int) + 1 := by omega
  clear h0 hc hs hml hrl g h1 h2 h3 h4 h5 h6 h7
  generalize RunM.bs p = pb at *
  go_enter Tryz.func9, Tryz.ntmps9
  go_wp2_with fail
  refine (unhide CC _).mono ?_
  rintro e w2 ⟨gb, cap, rfl, hcap, hgb, hgl, cw0, hck, hb2⟩
  have HCK := hide hck
  have HB2 := hide hb2
  clear hck hb2
  go_wp2
  go_ret
  exact ⟨rfl, MStep.same (unhide H0) (unhide HB2)⟩
theorem fline_any {B m : Nat} {o : Option Nat} {R : List Nat} {x : ServM.St} {l : ByteArray} (w : World) (g : ServM.Good x) (h0 : MAt B w m o R x) (hs : l.size ≤ 3000) :
    Calls Tryz.prog 9 #[.pointer (some ⟨m, 0, none⟩), .string l] w fun e w' => e = .returned (.string (RunM.bs (RunM.line x l.data.toList).2)) ∧ MStep B w w' m o R (RunM.line x l.data.toList).1 := by
  obtain ⟨p, r, hc⟩ : ∃ p r, RunM.cut 32 l.data.toList = p :: r := by
    cases hq : RunM.cut 32 l.data.toList with
    | nil => exact absurd hq (RunM.cut_ne _ _)
    | cons p r => exact ⟨p, r, rfl⟩
  have e : RunM.line x l.data.toList = RunM.pieces x p r := by unfold RunM.line; rw [hc]
  rw [e]
  by_cases h1 : p = RunM.wHello
  · subst h1; exact fline_hello w g h0 hs hc
  by_cases h2 : p = RunM.wAgain
  · subst h2; exact fline_again w g h0 hs hc
  by_cases h3 : p = RunM.wTicket
  · subst h3; exact fline_ticket w g h0 hs hc
  by_cases h4 : p = RunM.wPull
  · subst h4; exact fline_pull w g h0 hs hc
  by_cases h5 : p = RunM.wTurn
  · subst h5; exact fline_turn w g h0 hs hc
  by_cases h6 : p = RunM.wCrash
  · subst h6; exact fline_crash w g h0 hs hc
  by_cases h7 : p = RunM.wWaiting
  · subst h7; exact fline_waiting w g h0 hs hc
  exact fline_none w g h0 hs h1 h2 h3 h4 h5 h6 h7 hc
end Go.Proofs.YthaicpepgianpakGreatDoor
