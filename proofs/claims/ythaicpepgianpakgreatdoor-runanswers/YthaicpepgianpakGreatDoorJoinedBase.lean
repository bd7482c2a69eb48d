/-
  Texts joined: Base TagWalks.
-/
import Derived.Test.YthaicpepgianpakGreatDoorRows
import Derived.WalkKit
import Derived.WalkSpells
import Derived.WalkLawsBesides
import Derived.OpenShut
import Derived.Test.YthaicpepgianpakGreatDoorJoinedRunMath
namespace Go.Proofs.YthaicpepgianpakGreatDoor
open Go.RowKit

theorem hide {p : Prop} (h : p) : Hid p := h
theorem unhide {p : Prop} (h : Hid p) : p := h
theorem ret_int {k : IntKind} {a b : Int} (h : a = b) : Ending.returned (.int k a) = .returned (.int k b) := by rw [h]
theorem ret_pair {a b : Int} {v : Value} (h : a = b) : Ending.returned (.tuple #[.int .i64 a, v]) = .returned (.tuple #[.int .i64 b, v]) := by rw [h]

/-- What lay below reads as before: two rules that a walk uses by itself. -/
theorem lies {W w1 : World} (hb : Below W.heap.size W w1) : (∀ b o, b < W.heap.size → w1.cell? ⟨b, o, none⟩ = W.cell? ⟨b, o, none⟩) ∧ (∀ b o, b < W.heap.size → w1.frozen? ⟨b, o, none⟩ = W.frozen? ⟨b, o, none⟩) ∧ W.heap.size ≤ w1.heap.size :=
  ⟨fun b o h => hb.cell (p := ⟨b, o, none⟩) h, fun b o h => hb.frozen (p := ⟨b, o, none⟩) h, hb.size⟩

theorem bel3 {w wr W1 w1 : World} (h : Below w.heap.size w wr) (ha : Below wr.heap.size wr W1) (hb : Below W1.heap.size W1 w1) : Below w.heap.size w w1 := h.trans ((ha.trans (hb.mono ha.size)).mono h.size)

/-- A slice of ints that reads as 'zs' (its elements up to its length). -/
def Ints (w : World) (a : Option Addr) (zs : List Int) : Prop :=
  zs.length ≤ 9223372036854775807 ∧ ∀ k, k < zs.length → ∃ b off, a = some ⟨b, off, none⟩ ∧ w.cell? ⟨b, off + k, none⟩ = some (.int .i64 (zs.getD k 0))

theorem Ints.row {w : World} {a : Option Addr} {zs : List Int} (h : Ints w a zs) (hz : 0 < zs.length) :
    ∃ b off, a = some ⟨b, off, none⟩ ∧ ∀ k, k < zs.length → w.cell? ⟨b, off + k, none⟩ = some (.int .i64 (zs.getD k 0)) := by
  obtain ⟨b, off, rfl, _⟩ := h.2 0 hz
  refine ⟨b, off, rfl, fun k hk => ?_⟩
  obtain ⟨b', off', he, hc⟩ := h.2 k hk
  simp only [Option.some.injEq, Addr.mk.injEq] at he
  obtain ⟨rfl, rfl, _⟩ := he
  exact hc

theorem Ints.later {w w' : World} {a : Option Addr} {zs : List Int} (h : Ints w a zs) (hb : Below w.heap.size w w') : Ints w' a zs :=
  ⟨h.1, fun k hk => by obtain ⟨b, off, e, hc⟩ := h.2 k hk; exact ⟨b, off, e, cell_later hb hc⟩⟩

theorem nil_ints (w : World) : Ints w none [] := ⟨by simp, fun k hk => by simp at hk⟩

theorem own_ints {w : World} {base g n cap : Nat} {e : TypeId} {zs : List Int} (h : w.ownsRow base e 1 (.slice (some ⟨g, 0, none⟩) n cap) n (zs.map (Value.int .i64))) (hn : n ≤ maxLen) :
    zs.length = n ∧ Ints w (some ⟨g, 0, none⟩) zs := by
  have hl : zs.length = n := by have := h.1; simpa using this
  refine ⟨hl, by unfold maxLen at hn; omega, fun k hk => ⟨g, 0, rfl, ?_⟩⟩
  rw [Nat.zero_add, h.cellAt k (by omega)]
  simp [hk, List.getD]

theorem Ints.cells {w : World} {b off : Nat} {zs : List Int} (h : Ints w (some ⟨b, off, none⟩) zs) : ∀ j u, (zs.map (Value.int .i64))[j]? = some u → w.cell? ((⟨b, off, none⟩ : Addr).add j) = some u := by
  intro j u hu
  rw [List.getElem?_map] at hu
  cases hz : zs[j]? with
  | none => rw [hz] at hu; simp at hu
  | some z =>
    rw [hz] at hu
    have hj : j < zs.length := (List.getElem?_eq_some_iff.1 hz).1
    obtain ⟨b', off', he, hc⟩ := h.2 j hj
    simp only [Option.some.injEq, Addr.mk.injEq] at he
    obtain ⟨rfl, rfl, _⟩ := he
    rw [Go.WideShapes.add_plain, hc]
    rw [← hu]
    simp [List.getD, hz]

theorem ints_one (zs : List Int) : ∀ u ∈ zs.map (Value.int .i64), u.oneCell' = true := by
  intro u hu
  obtain ⟨_, _, rfl⟩ := List.mem_map.1 hu
  rfl

theorem own_shape {w : World} {base n : Nat} {e : TypeId} {size : Nat} {v : Value} {xs : List Value} (h : w.ownsRow base e size v n xs) (hn : 0 < n) :
    ∃ g cap, v = .slice (some ⟨g, 0, none⟩) n cap ∧ base ≤ g ∧ n ≤ maxLen := by
  rcases h.2 with ⟨_, h0⟩ | ⟨g, cap, cur, rfl, hb, _, h1, h2, _⟩
  · omega
  · exact ⟨g, cap, rfl, hb, by omega⟩

/-- The frame's own word for a slice of ints that came in, as a list. -/
theorem row_ints {k : IntKind} {w : World} {a : Option Addr} {len cap : Nat} {zs : List Int} (hk : k = .i64)
    (h : (a = none ∧ len = 0 ∧ cap = 0 ∧ zs = []) ∨ ∃ x, a = some x ∧ len ≤ cap ∧ cap ≤ maxLen ∧ zs.length = cap ∧ (∀ i, i < zs.length → w.cell? (x.add i) = some (.int k (zs.getD i 0))) ∧ ∀ n ∈ zs, (Lit.int k n).wf = true) :
    ∃ l, l.length = len ∧ Ints w a l ∧ (∀ n ∈ l, (Lit.int .i64 n).wf = true) ∧ (0 < len → ∃ x, a = some x) := by
  subst hk
  rcases h with ⟨rfl, rfl, rfl, rfl⟩ | ⟨x, rfl, hl, hm, hz, hc, hw⟩
  · exact ⟨[], rfl, nil_ints w, by simp, by simp⟩
  · refine ⟨zs.take len, by simp; omega, ⟨by unfold maxLen at hm; simp; omega, fun j hj => ?_⟩, fun n hn => hw n (List.mem_of_mem_take hn), fun _ => ⟨x, rfl⟩⟩
    have hj' : j < len ∧ j < zs.length := by simp at hj; omega
    obtain ⟨b, off, rfl, hc'⟩ := Go.ints_at hc (by omega)
    refine ⟨b, off, rfl, ?_⟩
    rw [hc' j hj'.2]
    simp [List.getD, hj'.1]

end Go.Proofs.YthaicpepgianpakGreatDoor
namespace Go.Proofs.YthaicpepgianpakGreatDoor
open Go.RowKit

set_option maxHeartbeats 400000 in
theorem fits_yes (n : Int) (w : World) (h0 : 0 ≤ n) (h1 : n < 999983) :
    Calls Tryz.prog 102 #[.int .i64 n] w fun e w' => e = .returned (.bool true) ∧ w' = w := by
  go_enter Tryz.func102, Tryz.ntmps102
  go_wp2
  go_ret
  exact ⟨rfl, rfl⟩

set_option maxHeartbeats 400000 in
theorem fits_no (n : Int) (w : World) (h : n < 0 ∨ 999983 ≤ n) :
    Calls Tryz.prog 102 #[.int .i64 n] w fun e w' => e = .returned (.bool false) ∧ w' = w := by
  by_cases h0 : 0 ≤ n
  · have h1 : ¬ n < 999983 := by omega
    go_enter Tryz.func102, Tryz.ntmps102
    go_wp2
    go_ret
    exact ⟨rfl, rfl⟩
  · go_enter Tryz.func102, Tryz.ntmps102
    go_wp2
    go_ret
    exact ⟨rfl, rfl⟩

set_option maxHeartbeats 400000 in
theorem fold_any (t n : Int) (w : World) (h0 : 0 ≤ t) (h1 : t < 999983) (h2 : 0 ≤ n) (h3 : n ≤ 999983) :
    Calls Tryz.prog 103 #[.int .i64 t, .int .i64 n] w fun e w' => e = .returned (.int .i64 (TagM.step t n)) ∧ w' = w := by
  go_enter Tryz.func103, Tryz.ntmps103
  go_wp2
  go_ret
  exact ⟨ret_int (by unfold TagM.step; rfl), rfl⟩

set_option maxHeartbeats 400000 in
theorem of_key (key : Int) (a : Option Addr) (len cap : Nat) (w : World) (h : key < 0 ∨ 999983 ≤ key) :
    Calls Tryz.prog 74 #[.int .i64 key, .slice a len cap] w fun e w' => e = .returned (.tuple #[.int .i64 0, .iface 85 (.int .i64 1)]) ∧ w' = w := by
  go_enter Tryz.func74, Tryz.ntmps74
  go_wp2_with (go_at_call 102; refine (fits_no _ _ h).mono ?_; rintro e w' ⟨rfl, rfl⟩)
  go_ret2
  exact ⟨rfl, rfl⟩

set_option maxHeartbeats 400000 in
theorem of_full (key : Int) (a : Option Addr) (len cap : Nat) (w : World) (h0 : 0 ≤ key) (h1 : key < 999983) (hl : 12 < len) :
    Calls Tryz.prog 74 #[.int .i64 key, .slice a len cap] w fun e w' => e = .returned (.tuple #[.int .i64 0, .iface 85 (.int .i64 4)]) ∧ w' = w := by
  go_enter Tryz.func74, Tryz.ntmps74
  go_wp2_with (go_at_call 102; refine (fits_yes _ _ h0 h1).mono ?_; rintro e w' ⟨rfl, rfl⟩)
  go_ret2
  exact ⟨rfl, rfl⟩


/-- No numbers: no round. -/
theorem of_none (key : Int) (a : Option Addr) (cap : Nat) (w : World) (h0 : 0 ≤ key) (h1 : key < 999983) :
    Calls Tryz.prog 74 #[.int .i64 key, .slice a 0 cap] w fun e w' => e = .returned (.tuple #[.int .i64 (TagM.tag key []), .nilIface]) ∧ w' = w := by
  go_enter Tryz.func74, Tryz.ntmps74
  go_wp2_with (go_at_call 102; refine (fits_yes _ _ h0 h1).mono ?_; rintro e w' ⟨rfl, rfl⟩)
  refine wp_loop_rounds 1 ?_
  rw [rounds_succ]
  go_wp2_with (go_at_call 103; refine (fold_any _ _ _ h0 h1 h0 (by omega)).mono ?_; rintro e w' ⟨rfl, rfl⟩)
  go_ret2
  exact ⟨rfl, rfl⟩

theorem take_snoc (zs : List Int) (k : Nat) (h : k < zs.length) : zs.take (k + 1) = zs.take k ++ [zs.getD k 0] := by
  rw [List.take_succ_eq_append_getElem h]; simp [List.getD, h]
theorem run_take (key : Int) (zs : List Int) (k : Nat) (h : k < zs.length) : TagM.run key (zs.take (k + 1)) = TagM.step (TagM.run key (zs.take k)) (zs.getD k 0 + 1) := by
  rw [take_snoc zs k h, TagM.run_snoc]
theorem all_getD {zs : List Int} (h : zs.all TagM.inB = true) (k : Nat) (hk : k < zs.length) : 0 ≤ zs.getD k 0 ∧ zs.getD k 0 < 999983 := by
  have := List.all_eq_true.1 h (zs.getD k 0) (by simp [List.getD, hk])
  exact (TagM.inB_iff _).1 this

set_option maxHeartbeats 800000 in
theorem of_ok (key : Int) (b off cap : Nat) (zs : List Int) (w : World) (h0 : 0 ≤ key) (h1 : key < 999983) (hl : zs.length ≤ 12) (hall : zs.all TagM.inB = true)
    (hc : ∀ k, k < zs.length → w.cell? ⟨b, off + k, none⟩ = some (.int .i64 (zs.getD k 0))) :
    Calls Tryz.prog 74 #[.int .i64 key, .slice (some ⟨b, off, none⟩) zs.length cap] w fun e w' => e = .returned (.tuple #[.int .i64 (TagM.tag key zs), .nilIface]) ∧ w' = w := by
  have H := hide hall
  clear hall
  generalize hlen : zs.length = len at hl hc ⊢
  have HL := hide hlen
  have HC := hide hc
  clear hlen hc
  go_enter Tryz.func74, Tryz.ntmps74
  go_wp2_with (go_at_call 102; refine (fits_yes _ _ h0 h1).mono ?_; rintro e w' ⟨rfl, rfl⟩)
  go_loop [6, 20] (fun t i => ∃ k : Nat, k ≤ len ∧ i = .int .i64 k ∧ t = .int .i64 (TagM.run key (zs.take k))) (fun _ i => len - (intOf i).toNat)
  case atStart => exact ⟨0, Nat.zero_le _, rfl, rfl⟩
  case round =>
    obtain ⟨k, hk, rfl, rfl⟩ := hrel
    have hb := TagM.run_bd key (zs.take k) ⟨h0, h1⟩
    obtain ⟨hb1, hb2⟩ := hb
    by_cases hlt : k < len
    · have hcell := unhide HC k hlt
      have hn := all_getD (unhide H) k (by rw [unhide HL]; exact hlt)
      have hr := hide (run_take key zs k (by rw [unhide HL]; exact hlt))
      generalize zs.getD k 0 = n at hcell hn hr
      obtain ⟨hn1, hn2⟩ := hn
      go_wp2_with fail
      refine (fits_yes _ _ hn1 hn2).mono ?_
      rintro e w' ⟨rfl, rfl⟩
      go_wp2_with fail
      refine (fold_any _ _ _ hb1 hb2 (by omega) (by omega)).mono ?_
      rintro e w' ⟨rfl, rfl⟩
      go_wp2
      go_round
      case rel => exact ⟨k + 1, by omega, by go_num, by rw [unhide hr]⟩
      case measure => simp [intOf]; omega
    · go_wp2_with (go_at_call 103; refine (fold_any _ _ _ hb1 hb2 h0 (by omega)).mono ?_; rintro e w' ⟨rfl, rfl⟩)
      go_ret2
      exact ⟨ret_pair (by rw [List.take_of_length_le (by rw [unhide HL]; omega)]; rfl), rfl⟩

theorem first_bad {zs : List Int} (h : ¬ zs.all TagM.inB = true) : ∃ j, j < zs.length ∧ (∀ i, i < j → 0 ≤ zs.getD i 0 ∧ zs.getD i 0 < 999983) ∧ (zs.getD j 0 < 0 ∨ 999983 ≤ zs.getD j 0) := by
  induction zs with
  | nil => simp at h
  | cons a l ih =>
    by_cases ha : TagM.inB a = true
    · have hl : ¬ l.all TagM.inB = true := by
        intro hl; apply h; simp only [List.all_cons, ha, hl, Bool.and_self]
      obtain ⟨j, h1, h2, h3⟩ := ih hl
      refine ⟨j + 1, by simp; omega, ?_, by simpa using h3⟩
      intro i hi
      cases i with
      | zero => simpa using (TagM.inB_iff _).1 ha
      | succ i => simpa using h2 i (by omega)
    · refine ⟨0, by simp, fun i hi => by omega, ?_⟩
      have : TagM.inB a = false := by simpa using ha
      simpa using (TagM.inB_not _).1 this

set_option maxHeartbeats 800000 in
theorem of_bad (key : Int) (b off cap : Nat) (zs : List Int) (w : World) (h0 : 0 ≤ key) (h1 : key < 999983) (hl : zs.length ≤ 12) (hall : ¬ zs.all TagM.inB = true)
    (hc : ∀ k, k < zs.length → w.cell? ⟨b, off + k, none⟩ = some (.int .i64 (zs.getD k 0))) :
    Calls Tryz.prog 74 #[.int .i64 key, .slice (some ⟨b, off, none⟩) zs.length cap] w fun e w' => e = .returned (.tuple #[.int .i64 0, .iface 85 (.int .i64 1)]) ∧ w' = w := by
  obtain ⟨j, hj, hgood, hbad⟩ := first_bad hall
  clear hall
  generalize zs.length = len at hl hc hj ⊢
  have HC := hide hc
  have HG := hide hgood
  have HB := hide hbad
  clear hc hgood hbad
  go_enter Tryz.func74, Tryz.ntmps74
  go_wp2_with (go_at_call 102; refine (fits_yes _ _ h0 h1).mono ?_; rintro e w' ⟨rfl, rfl⟩)
  go_loop [6, 20] (fun t i => ∃ (k : Nat) (x : Int), k ≤ j ∧ i = .int .i64 k ∧ t = .int .i64 x ∧ 0 ≤ x ∧ x < 999983) (fun _ i => len - (intOf i).toNat)
  case atStart => exact ⟨0, _, Nat.zero_le _, rfl, rfl, h0, h1⟩
  case round =>
    obtain ⟨k, x, hk, rfl, rfl, hb1, hb2⟩ := hrel
    have hlt : k < len := by omega
    by_cases hkj : k < j
    · have hcell := unhide HC k hlt
      have hn := unhide HG k hkj
      generalize zs.getD k 0 = n at hcell hn
      obtain ⟨hn1, hn2⟩ := hn
      go_wp2_with fail
      refine (fits_yes _ _ hn1 hn2).mono ?_
      rintro e w' ⟨rfl, rfl⟩
      go_wp2_with fail
      refine (fold_any _ _ _ hb1 hb2 (by omega) (by omega)).mono ?_
      rintro e w' ⟨rfl, rfl⟩
      have hs := TagM.step_bd x (n + 1)
      generalize TagM.step x (n + 1) = y at hs ⊢
      obtain ⟨hs1, hs2⟩ := hs
      go_wp2
      go_round
      case rel => exact ⟨k + 1, y, by omega, by go_num, rfl, hs1, hs2⟩
      case measure => simp [intOf]; omega
    · obtain rfl : k = j := by omega
      have hcell := unhide HC k hlt
      have hn := unhide HB
      generalize zs.getD k 0 = n at hcell hn
      have HN := hide hn
      clear hn
      go_wp2_with fail
      refine (fits_no _ _ (unhide HN)).mono ?_
      rintro e w' ⟨rfl, rfl⟩
      go_wp2
      go_ret2
      exact ⟨rfl, rfl⟩

/-- Of, where nothing is wrong. -/
theorem of_yes (key : Int) (a : Option Addr) (cap : Nat) (zs : List Int) (w : World) (hi : Ints w a zs) (he : TagM.err key zs = 0) :
    Calls Tryz.prog 74 #[.int .i64 key, .slice a zs.length cap] w fun e w' => e = .returned (.tuple #[.int .i64 (TagM.tag key zs), .nilIface]) ∧ w' = w := by
  obtain ⟨hk, hl, hall⟩ := TagM.err_zero.1 he
  obtain ⟨h0, h1⟩ := (TagM.inB_iff _).1 hk
  by_cases hz : 0 < zs.length
  · obtain ⟨b, off, rfl, hc⟩ := hi.row hz
    exact of_ok key b off cap zs w h0 h1 hl hall hc
  · have : zs = [] := List.length_eq_zero_iff.1 (by omega)
    subst this
    exact of_none key a cap w h0 h1

/-- Of, where something is wrong. -/
theorem of_no (key : Int) (a : Option Addr) (cap : Nat) (zs : List Int) (w : World) (hi : Ints w a zs) (he : ¬ TagM.err key zs = 0) :
    Calls Tryz.prog 74 #[.int .i64 key, .slice a zs.length cap] w fun e w' => e = .returned (.tuple #[.int .i64 0, .iface 85 (.int .i64 (TagM.err key zs))]) ∧ w' = w := by
  unfold TagM.err at he ⊢
  by_cases hk : TagM.inB key = false
  · rw [if_pos hk]
    exact of_key key a zs.length cap w ((TagM.inB_not _).1 hk)
  · have hk' : TagM.inB key = true := by simpa using hk
    obtain ⟨h0, h1⟩ := (TagM.inB_iff _).1 hk'
    rw [if_neg hk] at he ⊢
    by_cases hl : 12 < zs.length
    · rw [if_pos hl]
      exact of_full key a zs.length cap w h0 h1 hl
    · rw [if_neg hl] at he ⊢
      by_cases hall : zs.all TagM.inB = true
      · rw [if_pos hall] at he; exact absurd rfl he
      · rw [if_neg hall]
        have hz : 0 < zs.length := by
          cases zs with
          | nil => simp at hall
          | cons a l => simp
        obtain ⟨b, off, rfl, hc⟩ := hi.row hz
        exact of_bad key b off cap zs w h0 h1 (by omega) hall hc

end Go.Proofs.YthaicpepgianpakGreatDoor
