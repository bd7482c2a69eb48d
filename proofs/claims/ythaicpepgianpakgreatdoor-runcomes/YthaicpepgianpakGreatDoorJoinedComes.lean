/-
  Texts joined: RefText RunComesMath.
-/
import Derived.Test.YthaicpepgianpakGreatDoorJoinedRunLaid
import Derived.Test.YthaicpepgianpakGreatDoorServerLaw
namespace Go.Proofs.YthaicpepgianpakGreatDoor
open Go.RowKit Go.PlainAid
set_option linter.unusedVariables false

namespace RunM
def CutAt (c : UInt8) (s : List UInt8) (D : List (List UInt8)) (f i : Nat) : Prop := f ≤ i ∧ D ++ go c ((s.take i).drop f) (s.drop i) = cut c s
theorem CutAt.start (c : UInt8) (s : List UInt8) : CutAt c s [] 0 0 := ⟨Nat.le_refl _, by simp [go_start]⟩
theorem CutAt.hit {c : UInt8} {s : List UInt8} {D : List (List UInt8)} {f i : Nat} (h : CutAt c s D f i) (hc : s[i]? = some c) : CutAt c s (D ++ [(s.take i).drop f]) (i + 1) (i + 1) := by
  obtain ⟨hf, h⟩ := h
  have hlt := (List.getElem?_eq_some_iff.1 hc).1
  have hd : s.drop i = c :: s.drop (i + 1) := by
    rw [List.drop_eq_getElem_cons hlt, (List.getElem?_eq_some_iff.1 hc).2]
  refine ⟨Nat.le_refl _, ?_⟩
  rw [hd, go_cut] at h
  rw [← h, List.append_assoc]
  have h0 : (s.take (i + 1)).drop (i + 1) = [] := List.drop_eq_nil_of_le (by rw [List.length_take]; omega)
  rw [h0, go_start]
  rfl
theorem CutAt.miss {c x : UInt8} {s : List UInt8} {D : List (List UInt8)} {f i : Nat} (h : CutAt c s D f i) (hc : s[i]? = some x) (hx : ¬ x = c) : CutAt c s D f (i + 1) := by
  obtain ⟨hf, h⟩ := h
  have hlt := (List.getElem?_eq_some_iff.1 hc).1
  have hd : s.drop i = x :: s.drop (i + 1) := by
    rw [List.drop_eq_getElem_cons hlt, (List.getElem?_eq_some_iff.1 hc).2]
  refine ⟨Nat.le_succ_of_le hf, ?_⟩
  rw [hd, go_on hx] at h
  rw [← h, List.take_add_one, hc, List.drop_append_of_le_length (by rw [List.length_take]; omega)]
  rfl
theorem CutAt.done {c : UInt8} {s : List UInt8} {D : List (List UInt8)} {f : Nat} (h : CutAt c s D f s.length) : cut c s = D ++ [s.drop f] := by
  rw [← h.2, List.drop_length, go_end, List.take_length]
end RunM
theorem mid_data (t : ByteArray) (a b : Nat) (h : b ≤ t.size) : (t.extract a b).data.toList = (t.data.toList.take b).drop a := by
  rw [ByteArray.data_extract, Array.toList_extract, List.drop_take]
theorem mid_bs (t : ByteArray) (a b : Nat) (h : b ≤ t.size) : t.extract a b = RunM.bs ((t.data.toList.take b).drop a) := by
  rw [← mid_data t a b h]; exact (RunM.bs_data _).symm

theorem ten_cut : ∀ n, n < 10 → (⟨#[48, 49, 50, 51, 52, 53, 54, 55, 56, 57]⟩ : ByteArray).extract n (n + 1) = RunM.bs [RunM.dig n] := by
  intro n hn
  have h : n = 0 ∨ n = 1 ∨ n = 2 ∨ n = 3 ∨ n = 4 ∨ n = 5 ∨ n = 6 ∨ n = 7 ∨ n = 8 ∨ n = 9 := by omega
  rcases h with rfl | rfl | rfl | rfl | rfl | rfl | rfl | rfl | rfl | rfl <;> rfl
theorem ten_size : (⟨#[48, 49, 50, 51, 52, 53, 54, 55, 56, 57]⟩ : ByteArray).size = 10 := rfl
set_option maxRecDepth 8000 in
theorem rdigits_any (n : Nat) : n < 1000000 → ∀ w : World, Calls Tryz.prog 10 #[.int .i64 n] w fun e w' => e = .returned (.string (RunM.bs (RunM.digits n))) ∧ w' = w := by
  induction n using Nat.strongRecOn with
  | ind n ih =>
    intro hn w
    by_cases h : n < 10
    · rw [RunM.digits_small h]
      have hx := ten_cut n h
      have hz := ten_size
      have h' : (n : Int) < 10 := by omega
      go_enter Tryz.func10, Tryz.ntmps10
      go_wp2
      go_ret
      exact ⟨rfl, rfl⟩
    · have hd := RunM.digits_step h (by have : (10 : Nat) ^ 19 = 10000000000000000000 := rfl; omega)
      have C := hide (ih (n / 10) (by omega) (by omega))
      obtain ⟨r, hr⟩ : ∃ r : Nat, n % 10 = r := ⟨_, rfl⟩
      have hr' : (n : Int) % 10 = (r : Int) := by omega
      have hr10 : r < 10 := by omega
      have hx := ten_cut r hr10
      have hz := ten_size
      have HD := hide (show RunM.bs (RunM.digits (n / 10)) ++ RunM.bs [RunM.dig r] = RunM.bs (RunM.digits n) by rw [hd, RunM.bs_append, hr])
      have hs1 : (RunM.bs (RunM.digits (n / 10))).size ≤ 6 := by rw [RunM.bs_size]; exact RunM.digits_len (by omega)
      have hs2 : (RunM.bs [RunM.dig r]).size = 1 := rfl
      rw [show (((n / 10 : Nat)) : Int) = (n : Int) / 10 from by omega] at C
      generalize RunM.bs (RunM.digits (n / 10)) = A at *
      generalize RunM.bs [RunM.dig r] = E at *
      have h' : ¬ (n : Int) < 10 := by omega
      clear hd ih hr
      go_enter Tryz.func10, Tryz.ntmps10
      go_wp2_with fail
      refine (unhide C _).mono ?_
      rintro e w' ⟨rfl, rfl⟩
      go_wp2
      go_ret
      exact ⟨congrArg (fun q => Ending.returned (Value.string q)) (unhide HD), rfl⟩

theorem CutAt_at {c : UInt8} {s : ByteArray} {k : Nat} (h : k < s.size) : s.data.toList[k]? = some (s[k]'h) := by
  have h2 : k < s.data.toList.length := by rw [← Go.Lib.size_eq]; exact h
  rw [List.getElem?_eq_getElem h2]
  simp [ByteArray.getElem_eq_getElem_data]
/-- Strings in a row. -/
def strs (D : List (List UInt8)) : List Value := D.map fun p => Value.string (RunM.bs p)
theorem own_strs {w : World} {base : Nat} {v : Value} {D : List (List UInt8)} (h : w.ownsRow base 9 1 v D.length (strs D)) (hn : 0 < D.length) :
    ∃ g cap, v = .slice (some ⟨g, 0, none⟩) D.length cap ∧ D.length ≤ cap ∧ base ≤ g ∧ g < w.heap.size ∧ ∀ j p, D[j]? = some p → w.cell? ⟨g, j, none⟩ = some (.string (RunM.bs p)) := by
  rcases h.2 with ⟨rfl, h0⟩ | ⟨g, cap, cur, rfl, hb, hg, hc, _⟩
  · omega
  · refine ⟨g, cap, rfl, hc, hb, (Array.getElem?_eq_some_iff.1 hg).1, fun j n hj => ?_⟩
    have hlt : j < D.length := (List.getElem?_eq_some_iff.1 hj).1
    rw [h.cellAt j (by omega)]
    unfold strs
    rw [List.getElem?_map, hj]
    rfl
theorem u8_eq {a b : UInt8} (h : (a.toNat : Int) = (b.toNat : Int)) : a = b := UInt8.toNat_inj.1 (by omega)
set_option maxHeartbeats 3200000 in
set_option maxRecDepth 8000 in
theorem rcut_any (s : ByteArray) (c : UInt8) (w : World) (hs : s.size ≤ 1000000) :
    Calls Tryz.prog 7 #[.string s, .int .u8 (c.toNat : Int)] w fun e w' => ∃ g cap, e = .returned (.slice (some ⟨g, 0, none⟩) (RunM.cut c s.data.toList).length cap) ∧ (RunM.cut c s.data.toList).length ≤ cap ∧ w.heap.size ≤ g ∧ g < w'.heap.size ∧ (∀ j p, (RunM.cut c s.data.toList)[j]? = some p → w'.cell? ⟨g, j, none⟩ = some (.string (RunM.bs p))) ∧ Below w.heap.size w w' := by
  have hbt := get_bt s
  have hz := Go.Lib.size_eq s
  obtain ⟨i0, hi0, hz0, hz1, hz2⟩ := info_parts infoStr
  obtain ⟨cv, hcv⟩ : ∃ cv : Int, (c.toNat : Int) = cv := ⟨_, rfl⟩
  have HC := hide hcv
  rw [hcv]
  clear hcv
  have hls := hide hz
  clear hz
  go_enter Tryz.func7, Tryz.ntmps7
  go_wp2
  go_loopw [5, 6, 7] (fun v fv i wr => ∃ (k f dl : Nat) (D : List (List UInt8)) (sa : Option Addr) (sc : Nat), k ≤ s.size ∧ f ≤ k ∧ dl ≤ k ∧ v = .slice sa dl sc ∧ fv = .int .i64 f ∧ i = .int .i64 k ∧ Hid (D.length = dl) ∧ Hid (RunM.CutAt c s.data.toList D f k) ∧ Hid (wr.ownsRow w.heap.size 9 1 (.slice sa dl sc) dl (strs D)) ∧ Hid (Below w.heap.size w wr)) (fun _ _ i _ => s.size - (intOf i).toNat)
  case atStart => exact ⟨0, 0, 0, [], none, 0, Nat.zero_le _, Nat.le_refl _, Nat.le_refl _, rfl, rfl, rfl, hide rfl, hide (RunM.CutAt.start _ _), hide (World.ownsRow_nil _ _ _ _), hide (Below.refl _ _)⟩
  case round =>
    obtain ⟨k, f, dl, D, sa, sc, hk, hf, hD, rfl, rfl, rfl, HDL, HK, HO, HB⟩ := hrel
    have hzz := (unhide HB).size
    by_cases hlt : k < s.size
    · by_cases hb : bt s k = cv
      · have HX := hide (mid_bs s f k hk)
        have hhit : s.data.toList[k]? = some c := by
          rw [CutAt_at (c := c) hlt]
          exact congrArg some (u8_eq (by rw [get_bt s k hlt, hb]; exact (unhide HC).symm))
        have HK2 := hide ((unhide HK).hit hhit)
        have hzx : (s.extract f k).size = k - f := by rw [ByteArray.size_extract]; omega
        obtain ⟨X, hX⟩ : ∃ X, s.extract f k = X := ⟨_, rfl⟩
        rw [hX] at HX hzx
        clear hhit
        go_wp2_with (at_builtin; refine wpList_append_lies _ rfl _ _ 23 rfl w.heap.size 9 i0 (.string ByteArray.empty) 1 16 Tryz.underlying23 hi0 hz0 hz1 hz2 rfl (by decide) (.slice sa dl sc) dl (strs D) rfl ((unhide HO).alloc _) ⟨wr.heap.size, 0, none⟩ 1 1 [.string X] rfl rfl ?c1 ?c2 (by omega) ?c3 ?c4 ?c5 (wr.heap.size + 1) ?c6 ?_)
        case c1 => exact World.news_of_block (cs := #[.string X]) (t := 9) (fr := (0, 0)) (heap_alloc_new wr _)
        case c2 => simp [Value.oneCell']
        case c3 => unfold maxLen; omega
        case c4 => omega
        case c5 => simp; omega
        case c6 => simp
        intro gg cp w2 hown2 hgrow hat hlt2
        have HO4 := hide (show w2.ownsRow w.heap.size 9 1 (.slice (some ⟨gg, 0, none⟩) (dl + 1) cp) (dl + 1) (strs (D ++ [(s.data.toList.take k).drop f])) by
          unfold strs at hown2 ⊢
          rw [List.map_append, List.map_cons, List.map_nil, ← unhide HX]; exact hown2)
        have HB4 := hide (((unhide HB).alloc (by omega) _).grown hgrow (by simp; omega) (fun q hq => ((unhide HO).lt q hq).1))
        have HDL2 := hide (show (D ++ [(s.data.toList.take k).drop f]).length = dl + 1 by rw [List.length_append, unhide HDL]; rfl)
        clear hown2 hgrow hat hlt2
        go_wp2
        go_roundw
        case rel => exact ⟨k + 1, k + 1, dl + 1, _, some ⟨gg, 0, none⟩, cp, by omega, by omega, by omega, rfl, by go_num, by go_num, HDL2, HK2, HO4, HB4⟩
        case measure => simp [intOf]; omega
      · have HK2 := hide ((unhide HK).miss (CutAt_at (c := c) hlt) (fun e => hb (by rw [← get_bt s k hlt, e]; exact unhide HC)))
        go_wp2
        go_roundw
        case rel => exact ⟨k + 1, f, dl, D, sa, sc, by omega, by omega, by omega, rfl, rfl, by go_num, HDL, HK2, HO, HB⟩
        case measure => simp [intOf]; omega
    · obtain rfl : k = s.size := by omega
      have hz := unhide hls
      have HX := hide (mid_bs s f s.size hk)
      have HK2 := hide (show RunM.cut c s.data.toList = D ++ [s.data.toList.drop f] by have q := unhide HK; rw [hz] at q; exact q.done)
      have hzx : (s.extract f s.size).size = s.size - f := by rw [ByteArray.size_extract]; omega
      obtain ⟨X, hX⟩ : ∃ X, s.extract f s.size = X := ⟨_, rfl⟩
      rw [hX] at HX hzx
      have HX2 := hide (show X = RunM.bs (s.data.toList.drop f) by rw [unhide HX, hz, List.take_length])
      clear hz
      go_wp2_with (at_builtin; refine wpList_append_lies _ rfl _ _ 23 rfl w.heap.size 9 i0 (.string ByteArray.empty) 1 16 Tryz.underlying23 hi0 hz0 hz1 hz2 rfl (by decide) (.slice sa dl sc) dl (strs D) rfl ((unhide HO).alloc _) ⟨wr.heap.size, 0, none⟩ 1 1 [.string X] rfl rfl ?c1 ?c2 (by omega) ?c3 ?c4 ?c5 (wr.heap.size + 1) ?c6 ?_)
      case c1 => exact World.news_of_block (cs := #[.string X]) (t := 9) (fr := (0, 0)) (heap_alloc_new wr _)
      case c2 => simp [Value.oneCell']
      case c3 => unfold maxLen; omega
      case c4 => omega
      case c5 => simp; omega
      case c6 => simp
      intro gg cp w2 hown2 hgrow hat hlt2
      have HDL2 := hide (show (RunM.cut c s.data.toList).length = dl + 1 by rw [unhide HK2, List.length_append, unhide HDL]; rfl)
      have HO4 := hide (own_strs (show w2.ownsRow w.heap.size 9 1 (.slice (some ⟨gg, 0, none⟩) (dl + 1) cp) (RunM.cut c s.data.toList).length (strs (RunM.cut c s.data.toList)) by
        rw [unhide HDL2, unhide HK2]
        unfold strs at hown2 ⊢
        rw [List.map_append, List.map_cons, List.map_nil, ← unhide HX2]; exact hown2) (by rw [unhide HDL2]; omega))
      have HB4 := hide (((unhide HB).alloc (by omega) _).grown hgrow (by simp; omega) (fun q hq => ((unhide HO).lt q hq).1))
      clear hown2 hgrow hat hlt2
      obtain ⟨g', cap', he, h1, h2, h3, h4⟩ := unhide HO4
      obtain ⟨e1, -, e3⟩ := Value.slice.inj he
      have e1 : gg = g' := congrArg Addr.block (Option.some.inj e1)
      subst e1
      subst e3
      have HE := hide (And.intro h1 (And.intro h2 (And.intro h3 h4)))
      clear he h1 h2 h3 h4 HO4
      go_wp2
      go_ret
      obtain ⟨h1, h2, h3, h4⟩ := unhide HE
      exact ⟨gg, cp, by rw [unhide HDL2]; rfl, h1, h2, h3, h4, unhide HB4⟩
theorem rcut10 (s : ByteArray) (w : World) (hs : s.size ≤ 1000000) :
    Calls Tryz.prog 7 #[.string s, .int .u8 10] w fun e w' => ∃ g cap, e = .returned (.slice (some ⟨g, 0, none⟩) (RunM.cut 10 s.data.toList).length cap) ∧ (RunM.cut 10 s.data.toList).length ≤ cap ∧ w.heap.size ≤ g ∧ g < w'.heap.size ∧ (∀ j p, (RunM.cut 10 s.data.toList)[j]? = some p → w'.cell? ⟨g, j, none⟩ = some (.string (RunM.bs p))) ∧ Below w.heap.size w w' := rcut_any s 10 w hs
end Go.Proofs.YthaicpepgianpakGreatDoor
namespace Go.Proofs.YthaicpepgianpakGreatDoor.RunM
open ServM (St Hi)
set_option linter.unusedVariables false

theorem big20 {n : Nat} (h : n < 1000000) : n < 10 ^ 20 := by have : (10 : Nat) ^ 20 = 100000000000000000000 := rfl; omega
theorem digits_not {n : Nat} (h : n < 1000000) {c : UInt8} (hc : isDig c = false) : c ∉ digits n := fun hm => by
  have h2 := List.all_eq_true.1 (digitsF_val 20 n (big20 h)).2.1 c hm
  rw [hc] at h2; cases h2
theorem digits_some {n : Nat} (h : n < 1000000) : digits n ≠ [] := (digitsF_val 20 n (big20 h)).2.2.1 (by omega)
theorem cut_two {c : UInt8} {a b : List UInt8} (h : c ∉ a) : cut c (a ++ c :: b) = a :: cut c b := by rw [cut_append, (cut_none c a h).1]; rfl
theorem line_one {l : List UInt8} (h : (10 : UInt8) ∉ l) : lines (l ++ [10]) = [l] := by
  unfold lines
  rw [cut_two h]
  rfl
theorem lines_cons {l r : List UInt8} (h : (10 : UInt8) ∉ l) : lines (l ++ 10 :: r) = l :: lines r := by
  have e : l ++ 10 :: r = (l ++ [10]) ++ r := by simp
  rw [e, lines_glue _ _ (.inr ⟨l, rfl⟩), line_one h]; rfl
/-- A first hello; one that comes again. -/
def hLine (a b : Nat) : List UInt8 := wHello ++ 32 :: (digits a ++ 32 :: digits b)
def four (a b c d : Nat) : List UInt8 := digits a ++ 32 :: (digits b ++ 32 :: (digits c ++ 32 :: digits d))
def aLine (a te ta tt tg b : Nat) : List UInt8 := wAgain ++ 32 :: (digits a ++ 32 :: (four te ta tt tg ++ 32 :: digits b))
theorem four_row (a b c d : Nat) : row [a, b, c, d] = four a b c d := rfl
theorem hLine_do (x : St) {a b : Nat} (ha : a < 1000000) (hb : b < 1000000) : line x (hLine a b) = (ServM.next x (hi a 0 0 0 0) b, greet x (hi a 0 0 0 0) b) := by
  have hc : cut 32 (hLine a b) = [wHello, digits a, digits b] := by
    unfold hLine
    rw [cut_two (by decide), cut_two (digits_not ha (by decide)), (cut_none 32 _ (digits_not hb (by decide))).1]
  have hn : nums [digits a, digits b] = some [a, b] := by simp [nums, num_digits ha, num_digits hb]
  unfold line
  rw [hc]
  show pieces x wHello [digits a, digits b] = _
  unfold pieces
  rw [if_pos (by rfl), hn]
  show act x wHello [a, b] = _
  unfold act
  rw [if_pos rfl]
  rfl
theorem aLine_do (x : St) {a te ta tt tg b : Nat} (h1 : a < 1000000) (h2 : te < 1000000) (h3 : ta < 1000000) (h4 : tt < 1000000) (h5 : tg < 1000000) (h6 : b < 1000000) :
    line x (aLine a te ta tt tg b) = (ServM.next x (hi a te ta tt tg) b, greet x (hi a te ta tt tg) b) := by
  have hc : cut 32 (aLine a te ta tt tg b) = [wAgain, digits a, digits te, digits ta, digits tt, digits tg, digits b] := by
    unfold aLine four
    simp only [List.append_assoc, List.cons_append]
    rw [cut_two (by decide), cut_two (digits_not h1 (by decide)), cut_two (digits_not h2 (by decide)), cut_two (digits_not h3 (by decide)), cut_two (digits_not h4 (by decide)), cut_two (digits_not h5 (by decide)), (cut_none 32 _ (digits_not h6 (by decide))).1]
  have hn : nums [digits a, digits te, digits ta, digits tt, digits tg, digits b] = some [a, te, ta, tt, tg, b] := by simp [nums, num_digits h1, num_digits h2, num_digits h3, num_digits h4, num_digits h5, num_digits h6]
  unfold line
  rw [hc]
  show pieces x wAgain [digits a, digits te, digits ta, digits tt, digits tg, digits b] = _
  unfold pieces
  rw [if_pos (by rfl), hn]
  show act x wAgain [a, te, ta, tt, tg, b] = _
  unfold act
  rw [if_neg (by decide), if_pos rfl]
  rfl
theorem hLine_no {a b : Nat} (ha : a < 1000000) (hb : b < 1000000) : (10 : UInt8) ∉ hLine a b := by
  unfold hLine
  simp only [List.mem_append, List.mem_cons, not_or]
  exact ⟨by decide, by decide, digits_not ha (by decide), by decide, digits_not hb (by decide)⟩
theorem four_no {a b c d : Nat} (h1 : a < 1000000) (h2 : b < 1000000) (h3 : c < 1000000) (h4 : d < 1000000) : (10 : UInt8) ∉ four a b c d := by
  unfold four
  simp only [List.mem_append, List.mem_cons, not_or]
  exact ⟨digits_not h1 (by decide), by decide, digits_not h2 (by decide), by decide, digits_not h3 (by decide), by decide, digits_not h4 (by decide)⟩
theorem aLine_no {a te ta tt tg b : Nat} (h1 : a < 1000000) (h2 : te < 1000000) (h3 : ta < 1000000) (h4 : tt < 1000000) (h5 : tg < 1000000) (h6 : b < 1000000) : (10 : UInt8) ∉ aLine a te ta tt tg b := by
  unfold aLine
  simp only [List.mem_append, List.mem_cons, not_or]
  exact ⟨by decide, by decide, digits_not h1 (by decide), by decide, four_no h2 h3 h4 h5, by decide, digits_not h6 (by decide)⟩
/-- The server where so many wait. -/
def wait (k : Nat) : St := { new with L := QueueM.upto k, k := k }
theorem wait_zero : wait 0 = new := rfl
theorem wait_good {k : Nat} (h : k ≤ 8) : ServM.Good (wait k) := by
  have g := new_good
  refine ⟨g.ring, g.life, by simp [wait, QueueM.upto_length]; omega, fun c hc => ?_, g.n0, g.nm, g.m1, g.m8, g.now, g.kept, by simp [wait], by simp [wait]; omega⟩
  simp only [wait, QueueM.upto, List.mem_map, List.mem_range] at hc ⊢
  obtain ⟨j, hj, rfl⟩ := hc
  simp; omega
theorem hi_may (x : St) (a te ta tt tg : Nat) (now : Int) : ServM.may x (hi a te ta tt tg) now = false := by
  unfold ServM.may JudgeM.may JudgeM.rightB
  have : JudgeM.noneB (hi a te ta tt tg).ke (hi a te ta tt tg).kn (hi a te ta tt tg).ku (hi a te ta tt tg).kg = true := by rfl
  rw [this]
  simp
theorem wait_ask {k a b : Nat} {te ta tt tg : Nat} (hk : k ≤ 8) (ha : a ≤ 900000) (hb : b ≤ 100000) : ServM.ask (wait k) (hi a te ta tt tg) b = 0 := by
  have g := new_good
  unfold ServM.ask
  refine JudgeM.ans_zero.2 ⟨g.ring, (TagM.inB_iff _).2 (by simp [hi]; omega), (TokenM.timeB_iff _).2 (by omega), g.life, LoadM.err_good (by omega) ?_⟩
  simp [wait, QueueM.upto_length]; omega
theorem wait_in {k a b : Nat} {te ta tt tg : Nat} (hk : k < 8) (ha : a ≤ 900000) (hb : b ≤ 100000) (h1 : ServM.kind (wait k) (hi a te ta tt tg) b = 1) :
    ServM.next (wait k) (hi a te ta tt tg) b = wait (k + 1) ∧ greet (wait k) (hi a te ta tt tg) b = tWelcome ++ digits (ConnM.turn k).toNat := by
  obtain ⟨e1, e2, -, -, -, -, e7, -, e9⟩ := ServM.w_in0 (wait_ask (te := te) (ta := ta) (tt := tt) (tg := tg) (Nat.le_of_lt hk) ha hb) h1 (by simp [wait]; omega) (hi_may _ a te ta tt tg _)
  refine ⟨?_, ?_⟩
  · rw [e9]
    simp [wait, QueueM.upto_succ]
  · unfold greet
    rw [if_neg (by rw [e1]; simp), if_neg (by rw [e2]; decide), if_neg (by rw [e2]; decide), e7]
    rfl
theorem turn_small {k : Nat} (hk : k < 8) : (ConnM.turn (k : Int)).toNat < 1000000 := by
  have := ConnM.turn_hi (x := (k : Int)) (by omega)
  omega
theorem hello_four {k b : Nat} (hk : k < 4) (hb : b ≤ 90000) : line (wait k) (hLine 1 b) = (wait (k + 1), tWelcome ++ digits (ConnM.turn k).toNat) := by
  rw [hLine_do _ (by omega) (by omega)]
  have h1 : ServM.kind (wait k) (hi 1 0 0 0 0) b = 1 := ServM.kind_calm (wait_ask (a := 1) (te := 0) (ta := 0) (tt := 0) (tg := 0) (by omega) (by omega) (by omega)) (by simp [wait, QueueM.upto_length]; omega)
  obtain ⟨e1, e2⟩ := wait_in (a := 1) (te := 0) (ta := 0) (tt := 0) (tg := 0) (by omega) (by omega) (by omega) h1
  exact Prod.ext e1 e2
/-- The key's tag. -/
def tg (a b : Nat) : Nat := (TagM.tag new.key [1, (a : Int), (b : Int)]).toNat
theorem tg_eq (a b : Nat) : (tg a b : Int) = TagM.tag new.key [1, (a : Int), (b : Int)] := by
  have := TagM.tag_bd new.key [1, (a : Int), (b : Int)]
  unfold tg; omega
theorem tg_lt (a b : Nat) : tg a b < 1000000 := by
  have := TagM.tag_bd new.key [1, (a : Int), (b : Int)]
  unfold tg; omega
theorem tg_zero : ¬ (TagM.tag new.key [1, 0, 0]) = 0 := by decide
set_option maxRecDepth 20000 in
theorem hello_five {a b : Nat} (ha : a ≤ 900000) (hb : b ≤ 90000) : line (wait 4) (hLine a b) = (wait 4, tRetry ++ four 0 a b (tg a b)) := by
  rw [hLine_do _ (by omega) (by omega)]
  have hq := wait_ask (k := 4) (a := a) (b := b) (te := 0) (ta := 0) (tt := 0) (tg := 0) (by omega) ha (by omega)
  have h0 : ServM.kind (wait 4) (hi a 0 0 0 0) b = 0 := by
    have hq' := hq
    unfold ServM.ask at hq'
    unfold ServM.kind
    rw [JudgeM.kind_yes hq']
    have e1 : JudgeM.shownB (wait 4).ep (wait 4).key (wait 4).old (hi a 0 0 0 0).te (hi a 0 0 0 0).ta (hi a 0 0 0 0).tt (hi a 0 0 0 0).tg (hi a 0 0 0 0).a b (wait 4).life = false := by
      unfold JudgeM.shownB
      rw [show JudgeM.noneB (hi a 0 0 0 0).te (hi a 0 0 0 0).ta (hi a 0 0 0 0).tt (hi a 0 0 0 0).tg = true from rfl]; rfl
    have e2 : JudgeM.rightB (wait 4).ep (wait 4).key (wait 4).old (hi a 0 0 0 0).ke (hi a 0 0 0 0).kn (hi a 0 0 0 0).ku (hi a 0 0 0 0).kg b = false := by
      unfold JudgeM.rightB
      rw [show JudgeM.noneB (hi a 0 0 0 0).ke (hi a 0 0 0 0).kn (hi a 0 0 0 0).ku (hi a 0 0 0 0).kg = true from rfl]; rfl
    rw [e1, e2]
    exact LoadM.kind_bare (by decide) (by decide)
  obtain ⟨e1, e2, e3, e4, e5, e6, -, -, e9⟩ := ServM.w_retry hq h0
  have hg : greet (wait 4) (hi a 0 0 0 0) b = tRetry ++ four 0 a b (tg a b) := by
    have k0 : (wait 4).ep.toNat = 0 := by decide
    have k1 : (hi a 0 0 0 0).a.toNat = a := Int.toNat_natCast a
    have k2 : (TagM.tag (wait 4).key [1, (hi a 0 0 0 0).a, (b : Int)]).toNat = tg a b := by unfold tg; congr 1
    unfold greet
    rw [if_neg (by rw [e1]; simp), if_pos e2, e3, e4, e5, e6, k0, k1, k2, Int.toNat_natCast, four_row]
  rw [e9, hg]
set_option maxRecDepth 20000 in
theorem again_six {a b c : Nat} (ha : a ≤ 900000) (hb : b ≤ 90000) (hc : c ≤ 50) : line (wait 4) (aLine a 0 a b (tg a b) (b + c)) = (wait 5, tWelcome ++ digits (ConnM.turn 4).toNat) := by
  rw [aLine_do _ (by omega) (by omega) (by omega) (by omega) (tg_lt a b) (by omega)]
  have hq := wait_ask (k := 4) (a := a) (b := b + c) (te := 0) (ta := a) (tt := b) (tg := tg a b) (by omega) ha (by omega)
  have h1 : ServM.kind (wait 4) (hi a 0 a b (tg a b)) ((b + c : Nat) : Int) = 1 := by
    have hq' := hq
    unfold ServM.ask at hq'
    unfold ServM.kind
    rw [JudgeM.kind_yes hq']
    have e1 : JudgeM.shownB (wait 4).ep (wait 4).key (wait 4).old (hi a 0 a b (tg a b)).te (hi a 0 a b (tg a b)).ta (hi a 0 a b (tg a b)).tt (hi a 0 a b (tg a b)).tg (hi a 0 a b (tg a b)).a ((b + c : Nat) : Int) (wait 4).life = true := by
      unfold JudgeM.shownB
      have n1 : JudgeM.noneB (hi a 0 a b (tg a b)).te (hi a 0 a b (tg a b)).ta (hi a 0 a b (tg a b)).tt (hi a 0 a b (tg a b)).tg = false := by
        cases hn : JudgeM.noneB (hi a 0 a b (tg a b)).te (hi a 0 a b (tg a b)).ta (hi a 0 a b (tg a b)).tt (hi a 0 a b (tg a b)).tg with
        | false => rfl
        | true =>
          obtain ⟨-, q1, q2, q3⟩ := JudgeM.noneB_iff.1 hn
          have q1 : (a : Int) = 0 := q1
          have q2 : (b : Int) = 0 := q2
          have q3 : (tg a b : Int) = 0 := q3
          rw [tg_eq, q1, q2] at q3
          exact absurd q3 tg_zero
      have hg := new_good
      have n2 : TokenM.checkErr (wait 4).ep (wait 4).key (wait 4).old (hi a 0 a b (tg a b)).te (hi a 0 a b (tg a b)).ta (hi a 0 a b (tg a b)).tt (hi a 0 a b (tg a b)).tg (hi a 0 a b (tg a b)).a ((b + c : Nat) : Int) (wait 4).life = 0 := by
        show TokenM.checkErr new.ep new.key new.old new.ep (a : Int) (b : Int) (tg a b : Int) (a : Int) ((b + c : Nat) : Int) 50 = 0
        rw [tg_eq, TokenM.check_made (TokenM.make_zero.2 ⟨hg.ring, (TagM.inB_iff _).2 (by omega), (TokenM.timeB_iff _).2 (by omega)⟩) ((TagM.inB_iff _).2 (by omega)) ((TokenM.timeB_iff _).2 (by omega)) ((TokenM.timeB_iff _).2 (by omega)), if_pos rfl, if_neg (by omega), if_neg (by omega)]
      rw [n1, n2]
      rfl
    rw [e1]
    exact LoadM.kind_shown (by decide) (by decide) (.inl rfl)
  obtain ⟨e1, e2⟩ := wait_in (a := a) (te := 0) (ta := a) (tt := b) (tg := tg a b) (by omega) ha (by omega) h1
  have e5 : ServM.next (wait 4) (hi a 0 a b (tg a b)) ((b + c : Nat) : Int) = wait 5 := e1
  rw [e5, e2]
  rfl
/-- The session, as far as who is told to come again; its lines; what is answered. -/
def sess (a b : Nat) : List UInt8 := hLine 1 b ++ 10 :: (hLine 1 b ++ 10 :: (hLine 1 b ++ 10 :: (hLine 1 b ++ 10 :: (hLine a b ++ [10]))))
theorem sess_lines {a b : Nat} (ha : a ≤ 900000) (hb : b ≤ 90000) : lines (sess a b) = [hLine 1 b, hLine 1 b, hLine 1 b, hLine 1 b, hLine a b] := by
  have h1 := hLine_no (a := 1) (b := b) (by omega) (by omega)
  have h2 := hLine_no (a := a) (b := b) (by omega) (by omega)
  unfold sess
  rw [lines_cons h1, lines_cons h1, lines_cons h1, lines_cons h1, line_one h2]
theorem more_lines {a b c : Nat} (ha : a ≤ 900000) (hb : b ≤ 90000) (hc : c ≤ 50) : lines (sess a b ++ (aLine a 0 a b (tg a b) (b + c) ++ [10])) = [hLine 1 b, hLine 1 b, hLine 1 b, hLine 1 b, hLine a b, aLine a 0 a b (tg a b) (b + c)] := by
  have h1 := hLine_no (a := 1) (b := b) (by omega) (by omega)
  have h2 := hLine_no (a := a) (b := b) (by omega) (by omega)
  have h3 := aLine_no (a := a) (te := 0) (ta := a) (tt := b) (tg := tg a b) (b := b + c) (by omega) (by omega) (by omega) (by omega) (tg_lt a b) (by omega)
  unfold sess
  simp only [List.append_assoc, List.cons_append, List.nil_append]
  rw [lines_cons h1, lines_cons h1, lines_cons h1, lines_cons h1, lines_cons h2, line_one h3]
def wel (k : Nat) : List UInt8 := tWelcome ++ digits (ConnM.turn (k : Int)).toNat
theorem wel_no {k : Nat} (hk : k < 8) : (10 : UInt8) ∉ wel k := by
  unfold wel
  simp only [List.mem_append, not_or]
  exact ⟨by decide, digits_not (turn_small hk) (by decide)⟩
def ret (a b : Nat) : List UInt8 := tRetry ++ four 0 a b (tg a b)
theorem ret_no {a b : Nat} (ha : a ≤ 900000) (hb : b ≤ 90000) : (10 : UInt8) ∉ ret a b := by
  unfold ret
  simp only [List.mem_append, not_or]
  exact ⟨by decide, four_no (by omega) (by omega) (by omega) (tg_lt a b)⟩
theorem hLine_len {a b : Nat} (ha : a < 1000000) (hb : b < 1000000) : (hLine a b).length ≤ 19 := by
  have h1 := digits_len ha
  have h2 := digits_len hb
  simp [hLine, wHello]; omega
theorem four_len {a b c d : Nat} (h1 : a < 1000000) (h2 : b < 1000000) (h3 : c < 1000000) (h4 : d < 1000000) : (four a b c d).length ≤ 27 := by
  have := digits_len h1
  have := digits_len h2
  have := digits_len h3
  have := digits_len h4
  simp [four]; omega
theorem sess_len {a b : Nat} (ha : a ≤ 900000) (hb : b ≤ 90000) : (sess a b).length ≤ 100 := by
  have h1 := hLine_len (a := 1) (b := b) (by omega) (by omega)
  have h2 := hLine_len (a := a) (b := b) (by omega) (by omega)
  simp [sess]; omega
theorem aLine_len {a b c : Nat} (ha : a ≤ 900000) (hb : b ≤ 90000) (hc : c ≤ 50) : (aLine a 0 a b (tg a b) (b + c)).length ≤ 60 := by
  have h1 := digits_len (n := a) (by omega)
  have h2 := digits_len (n := b + c) (by omega)
  have h3 := four_len (a := 0) (b := a) (c := b) (d := tg a b) (by omega) (by omega) (by omega) (tg_lt a b)
  simp [aLine, wAgain]; omega
theorem comes_first {a b : Nat} (ha : a ≤ 900000) (hb : b ≤ 90000) : cut 10 (run (sess a b)) = [wel 0, wel 1, wel 2, wel 3, ret a b, []] := by
  have hl := sess_len ha hb
  unfold run
  rw [if_neg (by omega), sess_lines ha hb]
  have e : out new [hLine 1 b, hLine 1 b, hLine 1 b, hLine 1 b, hLine a b] = wel 0 ++ 10 :: (wel 1 ++ 10 :: (wel 2 ++ 10 :: (wel 3 ++ 10 :: (ret a b ++ [10])))) := by
    rw [← wait_zero]
    simp only [out, hello_four (k := 0) (by omega) hb, hello_four (k := 1) (by omega) hb, hello_four (k := 2) (by omega) hb, hello_four (k := 3) (by omega) hb, hello_five ha hb]
    rfl
  rw [e, cut_two (wel_no (by omega)), cut_two (wel_no (by omega)), cut_two (wel_no (by omega)), cut_two (wel_no (by omega)), cut_two (ret_no ha hb)]
  rfl
theorem comes_again {a b c : Nat} (ha : a ≤ 900000) (hb : b ≤ 90000) (hc : c ≤ 50) : cut 10 (run (sess a b ++ (aLine a 0 a b (tg a b) (b + c) ++ [10]))) = [wel 0, wel 1, wel 2, wel 3, ret a b, wel 4, []] := by
  have hl := sess_len ha hb
  have hl2 := aLine_len ha hb hc
  unfold run
  rw [if_neg (by simp; omega), more_lines ha hb hc]
  have e : out new [hLine 1 b, hLine 1 b, hLine 1 b, hLine 1 b, hLine a b, aLine a 0 a b (tg a b) (b + c)] = wel 0 ++ 10 :: (wel 1 ++ 10 :: (wel 2 ++ 10 :: (wel 3 ++ 10 :: (ret a b ++ 10 :: (wel 4 ++ [10]))))) := by
    rw [← wait_zero]
    simp only [out, hello_four (k := 0) (by omega) hb, hello_four (k := 1) (by omega) hb, hello_four (k := 2) (by omega) hb, hello_four (k := 3) (by omega) hb, hello_five ha hb, again_six ha hb hc]
    rfl
  rw [e, cut_two (wel_no (by omega)), cut_two (wel_no (by omega)), cut_two (wel_no (by omega)), cut_two (wel_no (by omega)), cut_two (ret_no ha hb), cut_two (wel_no (by omega))]
  rfl
/-- So many first hellos. -/
def pre (b : Nat) : Nat → List UInt8
  | 0 => []
  | k + 1 => pre b k ++ (hLine 1 b ++ [10])
theorem pre_bs (b k : Nat) : bs (pre b k) ++ (⟨#[104, 101, 108, 108, 111, 32, 49, 32]⟩ : ByteArray) ++ bs (digits b) ++ (⟨#[10]⟩ : ByteArray) = bs (pre b (k + 1)) := by
  show bs (pre b k) ++ bs [104, 101, 108, 108, 111, 32, 49, 32] ++ bs (digits b) ++ bs [10] = _
  rw [bs_append, bs_append, bs_append]
  congr 1
  simp only [pre, hLine, List.append_assoc]
  rfl
theorem sess_bs (a b : Nat) : bs (pre b 4) ++ (⟨#[104, 101, 108, 108, 111, 32]⟩ : ByteArray) ++ bs (digits a) ++ (⟨#[32]⟩ : ByteArray) ++ bs (digits b) ++ (⟨#[10]⟩ : ByteArray) = bs (sess a b) := by
  show bs (pre b 4) ++ bs [104, 101, 108, 108, 111, 32] ++ bs (digits a) ++ bs [32] ++ bs (digits b) ++ bs [10] = _
  simp only [bs_append]
  congr 1
  have e : ([104, 101, 108, 108, 111, 32] : List UInt8) = wHello ++ [32] := rfl
  rw [e]
  simp [pre, sess, hLine]
theorem again_bs (a b c : Nat) : bs (sess a b) ++ (⟨#[97, 103, 97, 105, 110, 32]⟩ : ByteArray) ++ bs (digits a) ++ (⟨#[32]⟩ : ByteArray) ++ bs (four 0 a b (tg a b)) ++ (⟨#[32]⟩ : ByteArray) ++ bs (digits (b + c)) ++ (⟨#[10]⟩ : ByteArray) = bs (sess a b ++ (aLine a 0 a b (tg a b) (b + c) ++ [10])) := by
  show bs (sess a b) ++ bs [97, 103, 97, 105, 110, 32] ++ bs (digits a) ++ bs [32] ++ bs (four 0 a b (tg a b)) ++ bs [32] ++ bs (digits (b + c)) ++ bs [10] = _
  simp only [bs_append]
  congr 1
  have e : ([97, 103, 97, 105, 110, 32] : List UInt8) = wAgain ++ [32] := rfl
  rw [e]
  simp [aLine]
end Go.Proofs.YthaicpepgianpakGreatDoor.RunM
