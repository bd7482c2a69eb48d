/-
  The plain mathematics of an issuer: up to which number its blocks are kept behind a number that is told, and what is wrong with a call. No Go here.
-/
import Derived.Test.YtfhpfdlbgmgclakDoorTokenMath
namespace Go.Proofs.YtfhpfdlbgmgclakDoor.IssueM

/-- The bound behind the number n. -/
def up (n m : Int) : Int := if n = m then m + 8 else m
theorem up_same (m : Int) : up m m = m + 8 := if_pos rfl
theorem up_less {n m : Int} (h : ¬ n = m) : up n m = m := if_neg h
theorem up_bd {n m : Int} (h1 : n ≤ m) (h2 : m ≤ 1000) (h3 : m % 8 = 0) (h4 : ¬ n = 1000) : n + 1 ≤ up n m ∧ up n m ≤ 1000 ∧ up n m % 8 = 0 := by
  unfold up
  split <;> omega

/-- What is wrong with a call, by its number: 0 is nothing; n is the number that would be told. -/
def err (ep key old u n : Int) : Int :=
  if RingM.err ep key old = 0 then (if TokenM.timeB u = true then (if n = 1000 then 4 else 0) else 1) else RingM.err ep key old
theorem err_ring {ep key old u n : Int} (h : ¬ RingM.err ep key old = 0) : err ep key old u n = RingM.err ep key old := if_neg h
theorem err_time {ep key old u n : Int} (h : RingM.err ep key old = 0) (hu : TokenM.timeB u = false) : err ep key old u n = 1 := by
  unfold err; rw [if_pos h, if_neg (by simp [hu])]
theorem err_full {ep key old u : Int} (h : RingM.err ep key old = 0) (hu : TokenM.timeB u = true) : err ep key old u 1000 = 4 := by
  unfold err; rw [if_pos h, if_pos hu, if_pos rfl]
theorem err_zero {ep key old u n : Int} : err ep key old u n = 0 ↔ RingM.err ep key old = 0 ∧ TokenM.timeB u = true ∧ ¬ n = 1000 := by
  unfold err
  by_cases h : RingM.err ep key old = 0
  · rw [if_pos h]
    by_cases hn : n = 1000
    · cases TokenM.timeB u <;> simp [hn]
    · cases TokenM.timeB u <;> simp [h, hn]
  · rw [if_neg h]; simp [h]
end Go.Proofs.YtfhpfdlbgmgclakDoor.IssueM
