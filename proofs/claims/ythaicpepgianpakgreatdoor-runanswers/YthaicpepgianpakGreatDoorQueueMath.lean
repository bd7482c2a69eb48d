/-
  Lists of pairs that wait: where one stands, which fault is told, what is left.
-/
import Derived.Test.YthaicpepgianpakGreatDoorJoinedVaultMath
import Derived.Lib.SlicesDelete
namespace Go.Proofs.YthaicpepgianpakGreatDoor
open Go.RowKit

namespace QueueM
/-- Where one stands; -1: it is not there. -/
def place (l : List (Int × Int)) (c : Int × Int) : Int := if c ∈ l then (l.idxOf c : Int) else -1
/-- What is wrong with a conn. -/
def bad (c : Int × Int) : Bool := decide (c.1 < 0 ∨ 15 < c.1 ∨ c.2 < 0 ∨ 4095 < c.2)
theorem bad_prop {c : Int × Int} : bad c = true ↔ (c.1 < 0 ∨ 15 < c.1 ∨ c.2 < 0 ∨ 4095 < c.2) := by unfold bad; exact decide_eq_true_iff
def offerErr (l : List (Int × Int)) (c : Int × Int) : Int := if bad c then 1 else if c ∈ l then 7 else if 8 ≤ l.length then 4 else 0
def offered (l : List (Int × Int)) (c : Int × Int) : List (Int × Int) := if offerErr l c = 0 then l ++ [c] else l
def dropErr (l : List (Int × Int)) (c : Int × Int) : Int := if bad c then 1 else if c ∈ l then 0 else 5
def dropped (l : List (Int × Int)) (c : Int × Int) : List (Int × Int) := if dropErr l c = 0 then l.eraseIdx (l.idxOf c) else l

theorem place_no {l : List (Int × Int)} {c : Int × Int} (h : c ∉ l) : place l c = -1 := by unfold place; rw [if_neg h]
theorem place_yes {l : List (Int × Int)} {c : Int × Int} (h : c ∈ l) : place l c = (l.idxOf c : Int) := by unfold place; rw [if_pos h]
theorem getD_eq {l : List (Int × Int)} {k : Nat} (hk : k < l.length) : l.getD k (0, 0) = l[k] := by simp [List.getD, hk]
theorem take_succ {l : List (Int × Int)} {k : Nat} (hk : k < l.length) : l.take (k + 1) = l.take k ++ [l.getD k (0, 0)] := by
  rw [List.take_add_one, List.getElem?_eq_getElem hk, getD_eq hk]; rfl
theorem split_at {l : List (Int × Int)} {k : Nat} (hk : k < l.length) : l = l.take k ++ l.getD k (0, 0) :: l.drop (k + 1) := by
  rw [getD_eq hk]
  have h := List.take_append_drop k l
  rw [List.drop_eq_getElem_cons hk] at h
  exact h.symm
theorem place_at {l : List (Int × Int)} {k : Nat} {c : Int × Int} (hk : k < l.length) (hno : c ∉ l.take k) (he : l.getD k (0, 0) = c) : place l c = (k : Int) := by
  have hs := split_at hk
  rw [he] at hs
  have hm : c ∈ l := by rw [hs]; simp
  rw [place_yes hm]
  congr 1
  have ht : (l.take k).length = k := by simp; omega
  have h1 : (l.take k ++ c :: l.drop (k + 1)).idxOf c = k := by rw [List.idxOf_append, if_neg hno, List.idxOf_cons_self, ht]; omega
  rwa [← hs] at h1
theorem no_step {l : List (Int × Int)} {k : Nat} {c : Int × Int} (hk : k < l.length) (hno : c ∉ l.take k) (he : ¬ l.getD k (0, 0) = c) : c ∉ l.take (k + 1) := by
  rw [take_succ hk, List.mem_append, List.mem_singleton]
  rintro (h | h)
  · exact hno h
  · exact he h.symm
theorem no_all {l : List (Int × Int)} {k : Nat} {c : Int × Int} (hk : l.length ≤ k) (hno : c ∉ l.take k) : c ∉ l := by rwa [List.take_of_length_le hk] at hno
theorem idx_lt {l : List (Int × Int)} {c : Int × Int} (h : c ∈ l) : l.idxOf c < l.length := List.idxOf_lt_length_of_mem h
theorem erase_eq (l : List (Int × Int)) (i : Nat) : l.eraseIdx i = l.take i ++ l.drop (i + 1) := List.eraseIdx_eq_take_drop_succ ..
theorem offer_bad {l : List (Int × Int)} {c : Int × Int} (h : bad c) : offerErr l c = 1 := by unfold offerErr; rw [if_pos h]
theorem offer_there {l : List (Int × Int)} {c : Int × Int} (h : ¬ bad c) (h1 : c ∈ l) : offerErr l c = 7 := by unfold offerErr; rw [if_neg h, if_pos h1]
theorem offer_full {l : List (Int × Int)} {c : Int × Int} (h : ¬ bad c) (h1 : c ∉ l) (h2 : 8 ≤ l.length) : offerErr l c = 4 := by unfold offerErr; rw [if_neg h, if_neg h1, if_pos h2]
theorem offer_yes {l : List (Int × Int)} {c : Int × Int} (h : ¬ bad c) (h1 : c ∉ l) (h2 : l.length < 8) : offerErr l c = 0 := by unfold offerErr; rw [if_neg h, if_neg h1, if_neg (by omega)]
theorem offered_no {l : List (Int × Int)} {c : Int × Int} (h : offerErr l c ≠ 0) : offered l c = l := by unfold offered; rw [if_neg h]
theorem offered_yes {l : List (Int × Int)} {c : Int × Int} (h : offerErr l c = 0) : offered l c = l ++ [c] := by unfold offered; rw [if_pos h]
theorem offer_zero {l : List (Int × Int)} {c : Int × Int} (h : offerErr l c = 0) : ¬ bad c ∧ c ∉ l ∧ l.length < 8 := by
  unfold offerErr at h
  split at h
  · cases h
  · split at h
    · cases h
    · split at h
      · cases h
      · refine ⟨‹_›, ‹_›, by omega⟩
theorem offered_le {l : List (Int × Int)} {c : Int × Int} (h : l.length ≤ 8) : (offered l c).length ≤ 8 := by
  by_cases he : offerErr l c = 0
  · rw [offered_yes he]
    have := (offer_zero he).2.2
    simp; omega
  · rw [offered_no he]; exact h
theorem drop_bad {l : List (Int × Int)} {c : Int × Int} (h : bad c) : dropErr l c = 1 := by unfold dropErr; rw [if_pos h]
theorem drop_none {l : List (Int × Int)} {c : Int × Int} (h : ¬ bad c) (h1 : c ∉ l) : dropErr l c = 5 := by unfold dropErr; rw [if_neg h, if_neg h1]
theorem drop_yes {l : List (Int × Int)} {c : Int × Int} (h : ¬ bad c) (h1 : c ∈ l) : dropErr l c = 0 := by unfold dropErr; rw [if_neg h, if_pos h1]
theorem dropped_no {l : List (Int × Int)} {c : Int × Int} (h : dropErr l c ≠ 0) : dropped l c = l := by unfold dropped; rw [if_neg h]
theorem dropped_yes {l : List (Int × Int)} {c : Int × Int} (h : dropErr l c = 0) : dropped l c = l.eraseIdx (l.idxOf c) := by unfold dropped; rw [if_pos h]
theorem dropped_le {l : List (Int × Int)} {c : Int × Int} (h : l.length ≤ 8) : (dropped l c).length ≤ 8 := by
  unfold dropped
  split
  · have := List.length_eraseIdx_le l (l.idxOf c); omega
  · exact h
theorem unlike {l : List (Int × Int)} {i j : Nat} (h : l.Nodup) (hij : i < j) (hj : j < l.length) : ¬ l.getD i (0, 0) = l.getD j (0, 0) := by
  rw [getD_eq hj, getD_eq (show i < l.length by omega)]
  exact (List.pairwise_iff_getElem.1 h) i j (by omega) hj hij
theorem drop_at {l : List (Int × Int)} {k : Nat} (hk : k < l.length) : l.drop k = l.getD k (0, 0) :: l.drop (k + 1) := by
  rw [getD_eq hk]; exact List.drop_eq_getElem_cons hk
/-- The first so many conns of shard 0. -/
def upto (k : Nat) : List (Int × Int) := (List.range k).map (fun j : Nat => ((0 : Int), (j : Int)))
theorem upto_length (k : Nat) : (upto k).length = k := by simp [upto]
theorem upto_succ (k : Nat) : upto (k + 1) = upto k ++ [((0 : Int), (k : Int))] := by simp [upto, List.range_succ]
theorem upto_not {k n : Nat} (h : k ≤ n) : ((0 : Int), (n : Int)) ∉ upto k := by
  unfold upto
  intro hm
  obtain ⟨j, hj, e⟩ := List.mem_map.1 hm
  have := List.mem_range.1 hj
  have := congrArg Prod.snd e
  dsimp only at this
  omega
theorem upto_zero {k : Nat} (h : 0 < k) : ((0 : Int), (0 : Int)) ∈ upto k := by
  unfold upto
  exact List.mem_map.2 ⟨0, List.mem_range.2 h, rfl⟩
theorem upto_offer {k : Nat} (h : k < 8) : offerErr (upto k) (0, (k : Int)) = 0 := offer_yes (by rw [bad_prop]; dsimp only; omega) (upto_not (Nat.le_refl _)) (by rw [upto_length]; exact h)
theorem upto_offered {k : Nat} (h : k < 8) : offered (upto k) (0, (k : Int)) = upto (k + 1) := by rw [offered_yes (upto_offer h), upto_succ]
theorem upto_full {k : Nat} (h : 8 ≤ k) (h1 : k ≤ 4095) : offerErr (upto 8) (0, (k : Int)) = 4 := offer_full (by rw [bad_prop]; dsimp only; omega) (upto_not h) (by rw [upto_length]; omega)
theorem upto_drop {k : Nat} (h : 0 < k) : dropErr (upto k) (0, 0) = 0 := drop_yes (by rw [bad_prop]; dsimp only; omega) (upto_zero h)
theorem upto_last {k : Nat} (h : 0 < k) (h8 : k ≤ 8) : offerErr (dropped (upto k) (0, 0)) (0, 99) = 0 := by
  rw [dropped_yes (upto_drop h)]
  refine offer_yes (by rw [bad_prop]; dsimp only; omega) (fun hm => ?_) ?_
  · have := (List.eraseIdx_sublist (upto k) _).subset hm
    exact upto_not (k := k) (n := 99) (by omega) this
  · rw [List.length_eraseIdx, if_pos (idx_lt (upto_zero h)), upto_length]
    omega
end QueueM

theorem flat_take (l : List (Int × Int)) (k : Nat) : flat (l.take k) = (flat l).take (k * 2) := by
  induction l generalizing k with
  | nil => simp [flat]
  | cons s r ih =>
    cases k with
    | zero => simp [flat]
    | succ k => rw [show (k + 1) * 2 = k * 2 + 1 + 1 by omega]; simp [flat, ih]
theorem flat_drop (l : List (Int × Int)) (k : Nat) : flat (l.drop k) = (flat l).drop (k * 2) := by
  induction l generalizing k with
  | nil => simp [flat]
  | cons s r ih =>
    cases k with
    | zero => simp [flat]
    | succ k => rw [show (k + 1) * 2 = k * 2 + 1 + 1 by omega]; simp [flat, ih]

/-- What a row holds up to its new length, where the places from i up to j went out and what is behind was written over. -/
theorem row_cut {cur : Array Value} {l : List (Int × Int)} {n cap i j : Nat} {z : List Value} (hn : l.length = n) (hc : cur.size = cap * 2) (hnc : n ≤ cap) (hij : i ≤ j) (hj : j ≤ n)
    (ht : cur.toList.take (n * 2) = flat l) (hz : z.length = (j - i) * 2) :
    (Go.Lib.lay (Go.Lib.lay cur (i * 2) (flat (l.drop j))) ((i + (n - j)) * 2) z).toList.take ((i + (n - j)) * 2) = flat (l.take i ++ l.drop j) := by
  have l1 : (flat (l.drop j)).length = (n - j) * 2 := by rw [flat_length]; simp [hn]
  have l2 : (flat (l.take i)).length = i * 2 := by rw [flat_length]; simp [hn]; omega
  apply List.ext_getElem?
  intro t
  rw [List.getElem?_take, Array.getElem?_toList]
  by_cases ht' : t < (i + (n - j)) * 2
  · rw [if_pos ht', Go.Lib.lay_get? _ _ _ _ (by rw [Go.Lib.lay_size, hz]; omega), if_neg (by omega), Go.Lib.lay_get? _ _ _ _ (by rw [l1]; omega), flat_append]
    by_cases h : t < i * 2
    · rw [if_neg (by omega), List.getElem?_append_left (by omega), flat_take, List.getElem?_take, if_pos h, ← ht, List.getElem?_take, if_pos (by omega), Array.getElem?_toList]
    · rw [if_pos (by omega), List.getElem?_append_right (by omega), l2]
  · rw [if_neg ht', List.getElem?_eq_none]
    rw [flat_append, List.length_append, l1, l2]
    omega
end Go.Proofs.YthaicpepgianpakGreatDoor
