/-
  The plain mathematics of what was spent: what is wrong with some, which are left, what comes of one more. No Go here.
-/
import Derived.Test.YthaicpepgianpakGreatDoorJoinedTokenMath
namespace Go.Proofs.YthaicpepgianpakGreatDoor.SpentM

/-- Whether one may be: its number, and till when. -/
def fitB (s : Int × Int) : Bool := TagM.inB s.1 && TokenM.timeB s.2
/-- Whether one of them has that number. -/
def hasB (l : List (Int × Int)) (n : Int) : Bool := l.any fun s => s.1 == n
/-- What is wrong with the rest, by its number, where some were seen ahead. -/
def scan (seen : List (Int × Int)) : List (Int × Int) → Int
  | [] => 0
  | s :: r => if fitB s = true then (if hasB seen s.1 = true then 7 else scan (seen ++ [s]) r) else 1
def err (l : List (Int × Int)) : Int := if 16 < l.length then 4 else scan [] l
/-- Those that are not over. -/
def left (l : List (Int × Int)) (now : Int) : List (Int × Int) := l.filter fun s => decide (now ≤ s.2)
def hasErr (l : List (Int × Int)) (n : Int) : Int := if err l = 0 then (if TagM.inB n = true then 0 else 1) else err l
def dropErr (l : List (Int × Int)) (now : Int) : Int := if err l = 0 then (if TokenM.timeB now = true then 0 else 1) else err l
/-- Spend, behind Check. -/
def restErr (l : List (Int × Int)) (n till now : Int) : Int :=
  if TagM.inB n = true ∧ TokenM.timeB till = true ∧ TokenM.timeB now = true then
    (if till < now then 9 else if hasB (left l now) n = true then 7 else if (left l now).length = 16 then 4 else 0)
  else 1
def spendErr (l : List (Int × Int)) (n till now : Int) : Int := if err l = 0 then restErr l n till now else err l
/-- What is told beside an error: nothing. -/
def told (e : Int) (l : List (Int × Int)) : List (Int × Int) := if e = 0 then l else []
def spend (l : List (Int × Int)) (n till now : Int) : List (Int × Int) := told (spendErr l n till now) (left l now ++ [(n, till)])
def drop (l : List (Int × Int)) (now : Int) : List (Int × Int) := told (dropErr l now) (left l now)
def has (l : List (Int × Int)) (n : Int) : Bool := decide (hasErr l n = 0) && hasB l n

theorem fitB_iff {s : Int × Int} : fitB s = true ↔ TagM.inB s.1 = true ∧ TokenM.timeB s.2 = true := by simp [fitB]
theorem told_zero {e : Int} {l : List (Int × Int)} (h : e = 0) : told e l = l := if_pos h
theorem told_pos {e : Int} {l : List (Int × Int)} (h : ¬ e = 0) : told e l = [] := if_neg h

theorem take_snoc {l : List (Int × Int)} {k : Nat} (h : k < l.length) : l.take (k + 1) = l.take k ++ [l.getD k (0, 0)] := by
  rw [List.take_succ_eq_append_getElem h]; simp [List.getD, h]
theorem drop_cons {l : List (Int × Int)} {k : Nat} (h : k < l.length) : l.drop k = l.getD k (0, 0) :: l.drop (k + 1) := by
  rw [List.drop_eq_getElem_cons h]; simp [List.getD, h]
theorem scan_at {l : List (Int × Int)} {k : Nat} (h : k < l.length) : scan (l.take k) (l.drop k) =
    if fitB (l.getD k (0, 0)) = true then (if hasB (l.take k) (l.getD k (0, 0)).1 = true then 7 else scan (l.take (k + 1)) (l.drop (k + 1))) else 1 := by
  rw [drop_cons h, scan, ← take_snoc h]
theorem scan_end {l : List (Int × Int)} {k : Nat} (h : ¬ k < l.length) : scan (l.take k) (l.drop k) = 0 := by
  rw [List.drop_eq_nil_of_le (by omega), scan]
theorem hasB_at {l : List (Int × Int)} {k : Nat} {n : Int} (h : k < l.length) : hasB (l.take (k + 1)) n = (hasB (l.take k) n || (l.getD k (0, 0)).1 == n) := by
  rw [take_snoc h]; simp [hasB]
theorem hasB_mono {l : List (Int × Int)} {m k : Nat} {n : Int} (h : m ≤ k) (hh : hasB (l.take m) n = true) : hasB (l.take k) n = true := by
  have : l.take m = (l.take k).take m := by rw [List.take_take, Nat.min_eq_left h]
  rw [this] at hh
  obtain ⟨s, hs, he⟩ := List.any_eq_true.1 hh
  exact List.any_eq_true.2 ⟨s, List.mem_of_mem_take hs, he⟩
theorem left_at {l : List (Int × Int)} {k : Nat} {now : Int} (h : k < l.length) : left (l.take (k + 1)) now = left (l.take k) now ++ (if now ≤ (l.getD k (0, 0)).2 then [l.getD k (0, 0)] else []) := by
  rw [take_snoc h]
  unfold left
  rw [List.filter_append]
  by_cases hn : now ≤ (l.getD k (0, 0)).2
  · rw [if_pos hn, List.filter_cons_of_pos (by simpa using hn)]; rfl
  · rw [if_neg hn, List.filter_cons_of_neg (by simpa using hn)]; rfl
theorem left_le (l : List (Int × Int)) (now : Int) : (left l now).length ≤ l.length := List.length_filter_le _ _

/-- Nothing is wrong with them. -/
def Good (l : List (Int × Int)) : Prop := l.length ≤ 16 ∧ (∀ s ∈ l, fitB s = true) ∧ (l.map Prod.fst).Nodup
theorem hasB_iff {l : List (Int × Int)} {n : Int} : hasB l n = true ↔ n ∈ l.map Prod.fst := by
  simp [hasB]
theorem hasB_not {l : List (Int × Int)} {n : Int} : hasB l n = false ↔ n ∉ l.map Prod.fst := by
  rw [← hasB_iff]; simp
theorem scan_zero (l : List (Int × Int)) : ∀ seen, scan seen l = 0 ↔ (∀ s ∈ l, fitB s = true) ∧ (∀ s ∈ l, s.1 ∉ seen.map Prod.fst) ∧ (l.map Prod.fst).Nodup := by
  induction l with
  | nil => intro seen; simp [scan]
  | cons s r ih =>
    intro seen
    rw [scan]
    by_cases hf : fitB s = true
    · rw [if_pos hf]
      by_cases hh : hasB seen s.1 = true
      · rw [if_pos hh]
        constructor
        · intro h; omega
        · intro h; exact absurd (hasB_iff.1 hh) (h.2.1 s List.mem_cons_self)
      · rw [if_neg hh, ih]
        have hh' := mt hasB_iff.2 hh
        simp only [List.mem_cons, List.map_cons, List.nodup_cons, List.map_append, List.mem_append, forall_eq_or_imp]
        constructor
        · rintro ⟨h1, h2, h3⟩
          refine ⟨⟨hf, h1⟩, ⟨hh', fun t ht hm => h2 t ht (.inl hm)⟩, fun hm => ?_, h3⟩
          obtain ⟨t, ht, he⟩ := List.mem_map.1 hm
          exact h2 t ht (.inr (by rw [he]; simp))
        · rintro ⟨⟨_, h1⟩, ⟨_, h2⟩, h4, h3⟩
          refine ⟨h1, fun t ht hm => ?_, h3⟩
          rcases hm with hm | hm
          · exact h2 t ht hm
          · have : t.1 = s.1 := by simpa using hm
            exact h4 (List.mem_map.2 ⟨t, ht, this⟩)
    · rw [if_neg hf]
      constructor
      · intro h; omega
      · intro h; exact absurd (h.1 s List.mem_cons_self) hf
theorem err_zero {l : List (Int × Int)} : err l = 0 ↔ Good l := by
  unfold err Good
  by_cases h : 16 < l.length
  · rw [if_pos h]
    constructor
    · intro h; omega
    · intro h'; omega
  · rw [if_neg h, scan_zero]
    simp only [List.map_nil, List.not_mem_nil, not_false_eq_true, implies_true, true_and]
    constructor
    · intro h'; exact ⟨by omega, h'⟩
    · intro h'; exact h'.2
theorem Good.left {l : List (Int × Int)} (h : Good l) (now : Int) : Good (left l now) := by
  refine ⟨Nat.le_trans (left_le l now) h.1, fun s hs => h.2.1 s (List.mem_filter.1 hs).1, ?_⟩
  exact List.Sublist.nodup (List.Sublist.map _ List.filter_sublist) h.2.2
theorem Good.snoc {l : List (Int × Int)} {n till : Int} (h : Good l) (hl : ¬ l.length = 16) (hh : ¬ hasB l n = true) (hn : TagM.inB n = true) (ht : TokenM.timeB till = true) : Good (l ++ [(n, till)]) := by
  refine ⟨by have := h.1; simp; omega, fun s hs => ?_, ?_⟩
  · rcases List.mem_append.1 hs with hs | hs
    · exact h.2.1 s hs
    · obtain rfl : s = (n, till) := by simpa using hs
      exact fitB_iff.2 ⟨hn, ht⟩
  · rw [List.map_append, List.nodup_append]
    refine ⟨h.2.2, by simp, fun a ha b hb => ?_⟩
    obtain rfl : b = n := by simpa using hb
    rintro rfl
    exact hh (hasB_iff.2 ha)
theorem rest_zero {l : List (Int × Int)} {n till now : Int} : restErr l n till now = 0 ↔ (TagM.inB n = true ∧ TokenM.timeB till = true ∧ TokenM.timeB now = true) ∧ now ≤ till ∧ ¬ hasB (left l now) n = true ∧ ¬ (left l now).length = 16 := by
  unfold restErr
  by_cases h1 : TagM.inB n = true ∧ TokenM.timeB till = true ∧ TokenM.timeB now = true
  · rw [if_pos h1]
    by_cases h2 : till < now
    · rw [if_pos h2]
      constructor
      · intro h; omega
      · intro h; omega
    · rw [if_neg h2]
      by_cases h3 : hasB (left l now) n = true
      · rw [if_pos h3]
        constructor
        · intro h; omega
        · intro h; exact absurd h3 h.2.2.1
      · rw [if_neg h3]
        by_cases h4 : (left l now).length = 16
        · rw [if_pos h4]
          constructor
          · intro h; omega
          · intro h; exact absurd h4 h.2.2.2
        · rw [if_neg h4]
          exact ⟨fun _ => ⟨h1, by omega, h3, h4⟩, fun _ => rfl⟩
  · rw [if_neg h1]
    constructor
    · intro h; omega
    · intro h; exact absurd h.1 h1
theorem spend_zero {l : List (Int × Int)} {n till now : Int} : spendErr l n till now = 0 ↔ err l = 0 ∧ restErr l n till now = 0 := by
  unfold spendErr
  by_cases h : err l = 0
  · rw [if_pos h]; simp [h]
  · rw [if_neg h]; simp [h]
theorem spend_ok {l : List (Int × Int)} {n till now : Int} (h : spendErr l n till now = 0) : spend l n till now = left l now ++ [(n, till)] := told_zero h
theorem spend_no {l : List (Int × Int)} {n till now : Int} (h : ¬ spendErr l n till now = 0) : spend l n till now = [] := told_pos h
theorem spend_good {l : List (Int × Int)} {n till now : Int} (h : spendErr l n till now = 0) : Good (spend l n till now) := by
  obtain ⟨h0, h1⟩ := spend_zero.1 h
  obtain ⟨⟨hn, ht, _⟩, _, hh, hl⟩ := rest_zero.1 h1
  rw [spend_ok h]
  exact Good.snoc ((err_zero.1 h0).left now) hl hh hn ht
/-- What was spent is there, up to its time. -/
theorem spend_there {l : List (Int × Int)} {n till now : Int} (h : spendErr l n till now = 0) : (n, till) ∈ spend l n till now := by
  rw [spend_ok h]; simp
theorem spend_keeps {l : List (Int × Int)} {n till now : Int} {s : Int × Int} (h : spendErr l n till now = 0) (hs : s ∈ l) (ht : now ≤ s.2) : s ∈ spend l n till now := by
  rw [spend_ok h]
  exact List.mem_append_left _ (List.mem_filter.2 ⟨hs, by simpa using ht⟩)
theorem has_there {l : List (Int × Int)} {n till : Int} (h : Good l) (hs : (n, till) ∈ l) : hasErr l n = 0 ∧ has l n = true := by
  have hf := fitB_iff.1 (h.2.1 _ hs)
  have h0 : hasErr l n = 0 := by unfold hasErr; rw [if_pos (err_zero.2 h), if_pos hf.1]
  refine ⟨h0, ?_⟩
  unfold has
  rw [h0, hasB_iff.2 (List.mem_map.2 ⟨_, hs, rfl⟩)]
  rfl
theorem again_there {l : List (Int × Int)} {n till now : Int} (h : Good l) (hs : (n, till) ∈ l) (hn : TokenM.timeB now = true) (ht : now ≤ till) : spendErr l n till now = 7 := by
  have hf := fitB_iff.1 (h.2.1 _ hs)
  unfold spendErr restErr
  rw [if_pos (err_zero.2 h), if_pos ⟨hf.1, hf.2, hn⟩, if_neg (show ¬ till < now by omega), if_pos]
  exact hasB_iff.2 (List.mem_map.2 ⟨_, List.mem_filter.2 ⟨hs, by simpa using ht⟩, rfl⟩)
end Go.Proofs.YthaicpepgianpakGreatDoor.SpentM
