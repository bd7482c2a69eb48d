/-
  Texts joined: LoadMath JudgeMath IssueMath.
-/
import Derived.Test.YthaicpepgianpakGreatDoorRingWalks
import Derived.Test.YthaicpepgianpakGreatDoorJoinedTokenMath
namespace Go.Proofs.YthaicpepgianpakGreatDoor.LoadM

/-- The fault of so many that wait: 0 is none. -/
def err (n : Int) : Int := if n < 0 ∨ 8 < n then 1 else 0
/-- The level. -/
def level (n : Int) : Int := if n < 0 ∨ 8 < n then 0 else if n < 4 then 0 else if n < 8 then 1 else 2
/-- What is answered: 0 Retry, 1 Welcome, 2 Busy. -/
def kind (n : Int) (t o : Bool) : Int := if n < 0 ∨ 8 < n then 0 else if n = 8 then 2 else if 4 ≤ n ∧ t = false ∧ o = false then 0 else 1

theorem five (n : Int) : n < 0 ∨ 8 < n ∨ (0 ≤ n ∧ n < 4) ∨ (4 ≤ n ∧ n < 8) ∨ n = 8 := by omega
theorem err_bad {n : Int} (h : n < 0 ∨ 8 < n) : err n = 1 := if_pos h
theorem err_good {n : Int} (h0 : 0 ≤ n) (h1 : n ≤ 8) : err n = 0 := if_neg (by omega)
theorem level_bad {n : Int} (h : n < 0 ∨ 8 < n) : level n = 0 := if_pos h
theorem level_calm {n : Int} (h0 : 0 ≤ n) (h1 : n < 4) : level n = 0 := by
  unfold level; rw [if_neg (by omega), if_pos h1]
theorem level_pressed {n : Int} (h0 : 4 ≤ n) (h1 : n < 8) : level n = 1 := by
  unfold level; rw [if_neg (by omega), if_neg (by omega), if_pos h1]
theorem level_full : level 8 = 2 := by decide
theorem kind_bad {n : Int} (h : n < 0 ∨ 8 < n) (t o : Bool) : kind n t o = 0 := if_pos h
theorem kind_calm {n : Int} (h0 : 0 ≤ n) (h1 : n < 4) (t o : Bool) : kind n t o = 1 := by
  unfold kind; rw [if_neg (by omega), if_neg (by omega), if_neg (by omega)]
theorem kind_shown {n : Int} (h0 : 4 ≤ n) (h1 : n < 8) {t o : Bool} (h : t = true ∨ o = true) : kind n t o = 1 := by
  unfold kind; rw [if_neg (by omega), if_neg (by omega), if_neg]
  rintro ⟨_, rfl, rfl⟩
  simp at h
theorem kind_bare {n : Int} (h0 : 4 ≤ n) (h1 : n < 8) : kind n false false = 0 := by
  unfold kind; rw [if_neg (by omega), if_neg (by omega), if_pos ⟨h0, rfl, rfl⟩]
theorem kind_full (t o : Bool) : kind 8 t o = 2 := by cases t <;> cases o <;> decide
/-- With a token, or as one who is old, one is welcome wherever one was. -/
theorem kind_more {n : Int} {t o : Bool} (h : kind n t o = 1) : kind n true o = 1 ∧ kind n t true = 1 := by
  rcases five n with k | k | k | k | k
  · rw [kind_bad (.inl k)] at h; cases h
  · rw [kind_bad (.inr k)] at h; cases h
  · exact ⟨kind_calm k.1 k.2 _ _, kind_calm k.1 k.2 _ _⟩
  · exact ⟨kind_shown k.1 k.2 (.inl rfl), kind_shown k.1 k.2 (.inr rfl)⟩
  · subst k; rw [kind_full] at h; cases h
/-- The more wait, the less it is welcome. -/
theorem kind_less {n m : Int} {t o : Bool} (h0 : 0 ≤ n) (hm : n ≤ m) (h : kind m t o = 1) : kind n t o = 1 := by
  rcases five m with k | k | k | k | k
  · omega
  · rw [kind_bad (.inr k)] at h; cases h
  · exact kind_calm h0 (by omega) _ _
  · by_cases k4 : n < 4
    · exact kind_calm h0 k4 _ _
    · have h8 : n < 8 := by omega
      have hn : 4 ≤ n := by omega
      cases t
      · cases o
        · rw [kind_bare k.1 k.2] at h; cases h
        · exact kind_shown hn h8 (.inr rfl)
      · exact kind_shown hn h8 (.inl rfl)
  · subst k; rw [kind_full] at h; cases h

end Go.Proofs.YthaicpepgianpakGreatDoor.LoadM
namespace Go.Proofs.YthaicpepgianpakGreatDoor.JudgeM

/-- Whether these are noughts alone. -/
def noneB (a b c d : Int) : Bool := decide (a = 0 ∧ b = 0 ∧ c = 0 ∧ d = 0)
theorem noneB_iff {a b c d : Int} : noneB a b c d = true ↔ a = 0 ∧ b = 0 ∧ c = 0 ∧ d = 0 := by simp [noneB]
theorem some4 {a b c d : Int} (h : noneB a b c d = false) : ¬ a = 0 ∨ (a = 0 ∧ ¬ b = 0) ∨ (a = 0 ∧ b = 0 ∧ ¬ c = 0) ∨ (a = 0 ∧ b = 0 ∧ c = 0 ∧ ¬ d = 0) := by
  simp [noneB] at h; omega
/-- What is wrong with asking who is old: 0 is nothing. -/
def oldErr (ep key old now : Int) : Int := if RingM.err ep key old = 0 then (if TokenM.timeB now = true then 0 else 1) else RingM.err ep key old
theorem old_zero {ep key old now : Int} : oldErr ep key old now = 0 ↔ RingM.err ep key old = 0 ∧ TokenM.timeB now = true := by
  unfold oldErr
  by_cases h : RingM.err ep key old = 0
  · rw [if_pos h]; cases TokenM.timeB now <;> simp [h]
  · rw [if_neg h]; simp [h]
/-- Whether a ticket is old, where nothing is wrong with asking. -/
def rightB (ep key old te tn tu tg now : Int) : Bool := !(noneB te tn tu tg) && decide (TicketM.checkErr ep key old te tn tu tg now = 0)
/-- What Old tells. -/
def oldB (ep key old te tn tu tg now : Int) : Bool := decide (oldErr ep key old now = 0) && rightB ep key old te tn tu tg now
theorem oldB_no {ep key old te tn tu tg now : Int} (h : ¬ oldErr ep key old now = 0) : oldB ep key old te tn tu tg now = false := by simp [oldB, h]
theorem oldB_yes {ep key old te tn tu tg now : Int} (h : oldErr ep key old now = 0) : oldB ep key old te tn tu tg now = rightB ep key old te tn tu tg now := by simp [oldB, h]
/-- Whether there is a token that is right. -/
def shownB (ep key old te ta tt tg a now life : Int) : Bool := !(noneB te ta tt tg) && decide (TokenM.checkErr ep key old te ta tt tg a now life = 0)
/-- Whether so many early bytes may come. -/
def mayB (n : Nat) : Bool := decide (1 ≤ n ∧ n ≤ 40)
/-- What is wrong with a hello. -/
def ansErr (ep key old a n now life : Int) : Int :=
  if RingM.err ep key old = 0 then (if (TagM.inB a && TokenM.timeB now && TokenM.timeB life) = true then LoadM.err n else 1) else RingM.err ep key old
theorem ans_zero {ep key old a n now life : Int} : ansErr ep key old a n now life = 0 ↔ RingM.err ep key old = 0 ∧ TagM.inB a = true ∧ TokenM.timeB now = true ∧ TokenM.timeB life = true ∧ LoadM.err n = 0 := by
  unfold ansErr
  by_cases h : RingM.err ep key old = 0
  · rw [if_pos h]
    cases TagM.inB a <;> cases TokenM.timeB now <;> cases TokenM.timeB life <;> simp [h]
  · rw [if_neg h]; simp [h]
theorem ans_ring {ep key old a n now life : Int} (h : ¬ RingM.err ep key old = 0) : ansErr ep key old a n now life = RingM.err ep key old := if_neg h
theorem ans_range {ep key old a n now life : Int} (h : RingM.err ep key old = 0) (h1 : (TagM.inB a && TokenM.timeB now && TokenM.timeB life) = false) : ansErr ep key old a n now life = 1 := by
  unfold ansErr; rw [if_pos h, if_neg (by rw [h1]; simp)]
theorem ans_load {ep key old a n now life : Int} (h : RingM.err ep key old = 0) (h1 : (TagM.inB a && TokenM.timeB now && TokenM.timeB life) = true) : ansErr ep key old a n now life = LoadM.err n := by
  unfold ansErr; rw [if_pos h, if_pos h1]
/-- What is answered, and whether the early bytes may be taken: 0 and no beside a fault. -/
def kind (ep key old a te ta tt tg ke kn ku kg n now life : Int) : Int :=
  if ansErr ep key old a n now life = 0 then LoadM.kind n (shownB ep key old te ta tt tg a now life) (rightB ep key old ke kn ku kg now) else 0
def may (ep key old a te ta tt tg ke kn ku kg : Int) (z : Nat) (n now life : Int) : Bool :=
  decide (ansErr ep key old a n now life = 0) && (decide (kind ep key old a te ta tt tg ke kn ku kg n now life = 1) && rightB ep key old ke kn ku kg now && mayB z)
theorem kind_no {ep key old a te ta tt tg ke kn ku kg n now life : Int} (h : ¬ ansErr ep key old a n now life = 0) : kind ep key old a te ta tt tg ke kn ku kg n now life = 0 := if_neg h
theorem kind_yes {ep key old a te ta tt tg ke kn ku kg n now life : Int} (h : ansErr ep key old a n now life = 0) : kind ep key old a te ta tt tg ke kn ku kg n now life = LoadM.kind n (shownB ep key old te ta tt tg a now life) (rightB ep key old ke kn ku kg now) := if_pos h
theorem may_no {ep key old a te ta tt tg ke kn ku kg n now life : Int} {z : Nat} (h : ¬ ansErr ep key old a n now life = 0) : may ep key old a te ta tt tg ke kn ku kg z n now life = false := by simp [may, h]
theorem may_yes {ep key old a te ta tt tg ke kn ku kg n now life : Int} {z : Nat} (h : ansErr ep key old a n now life = 0) : may ep key old a te ta tt tg ke kn ku kg z n now life = (decide (LoadM.kind n (shownB ep key old te ta tt tg a now life) (rightB ep key old ke kn ku kg now) = 1) && rightB ep key old ke kn ku kg now && mayB z) := by
  simp [may, h, kind_yes h]
end Go.Proofs.YthaicpepgianpakGreatDoor.JudgeM
namespace Go.Proofs.YthaicpepgianpakGreatDoor
open Go.RowKit
/-- An error, and whether it is none: one of two. -/
theorem errV_two (n : Int) : ∃ (v : Value) (b : Bool), errV n = v ∧ decide (n = 0) = b ∧ ((v = .nilIface ∧ b = true) ∨ (v = .iface 85 (.int .i64 n) ∧ b = false)) := by
  by_cases h : n = 0
  · exact ⟨_, _, errV_zero h, decide_eq_true h, .inl ⟨rfl, rfl⟩⟩
  · exact ⟨_, _, errV_pos h, decide_eq_false h, .inr ⟨rfl, rfl⟩⟩
end Go.Proofs.YthaicpepgianpakGreatDoor
namespace Go.Proofs.YthaicpepgianpakGreatDoor.IssueM

/-- The bound behind the number n. -/
def up (n m : Int) : Int := if n = m then m + 8 else m
theorem up_same (m : Int) : up m m = m + 8 := if_pos rfl
theorem up_less {n m : Int} (h : ¬ n = m) : up n m = m := if_neg h
theorem up_bd {n m : Int} (h1 : n ≤ m) (h2 : m ≤ 1000) (h3 : m % 8 = 0) (h4 : ¬ n = 1000) : n + 1 ≤ up n m ∧ up n m ≤ 1000 ∧ up n m % 8 = 0 := by
  unfold up
  split <;> omega

/-- What is wrong with a call, by its number: 0 is nothing; n is the number that would be told. -/
def err (ep key old u n : Int) : Int :=
  if RingM.err ep key old = 0 then (if TokenM.timeB u = true then (if n = 1000 then 4 else 0) else 1) else RingM.err ep key old
theorem err_ring {ep key old u n : Int} (h : ¬ RingM.err ep key old = 0) : err ep key old u n = RingM.err ep key old := if_neg h
theorem err_time {ep key old u n : Int} (h : RingM.err ep key old = 0) (hu : TokenM.timeB u = false) : err ep key old u n = 1 := by
  unfold err; rw [if_pos h, if_neg (by simp [hu])]
theorem err_full {ep key old u : Int} (h : RingM.err ep key old = 0) (hu : TokenM.timeB u = true) : err ep key old u 1000 = 4 := by
  unfold err; rw [if_pos h, if_pos hu, if_pos rfl]
theorem err_zero {ep key old u n : Int} : err ep key old u n = 0 ↔ RingM.err ep key old = 0 ∧ TokenM.timeB u = true ∧ ¬ n = 1000 := by
  unfold err
  by_cases h : RingM.err ep key old = 0
  · rw [if_pos h]
    by_cases hn : n = 1000
    · cases TokenM.timeB u <;> simp [hn]
    · cases TokenM.timeB u <;> simp [h, hn]
  · rw [if_neg h]; simp [h]
end Go.Proofs.YthaicpepgianpakGreatDoor.IssueM
