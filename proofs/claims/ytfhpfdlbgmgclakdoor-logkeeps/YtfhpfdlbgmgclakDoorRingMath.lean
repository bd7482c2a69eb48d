/-
  The plain mathematics of rings: what is wrong with one, what it is turned to, the key of an epoch. No Go here.
-/
import Derived.Test.YtfhpfdlbgmgclakDoorTagMath
namespace Go.Proofs.YtfhpfdlbgmgclakDoor.RingM

/-- What is wrong with a ring, by its number: 0 is nothing. -/
def err (ep key old : Int) : Int :=
  if ep < 0 ∨ 100 < ep then 1 else if TagM.inB key = false then 1 else if TagM.inB old = false then 1 else if ep = 0 ∧ ¬ old = 0 then 3 else 0
theorem err_zero {ep key old : Int} : err ep key old = 0 ↔ (0 ≤ ep ∧ ep ≤ 100) ∧ (0 ≤ key ∧ key < 999983) ∧ (0 ≤ old ∧ old < 999983) ∧ (ep = 0 → old = 0) := by
  rw [← TagM.inB_iff, ← TagM.inB_iff]
  unfold err
  by_cases h1 : ep < 0 ∨ 100 < ep
  · rw [if_pos h1]; constructor
    · intro h; omega
    · intro h; omega
  · rw [if_neg h1]
    cases h2 : TagM.inB key
    · simp
    · cases h3 : TagM.inB old
      · simp
      · by_cases h4 : ep = 0 ∧ ¬ old = 0
        · simp [h4]
        · simp [h4]; omega

/-- What is wrong with turning. -/
def turnErr (ep key old : Int) : Int := if err ep key old = 0 then (if ep = 100 then 4 else 0) else err ep key old
/-- What is wrong with an epoch's key. -/
def keyErr (ep key old n : Int) : Int := if err ep key old = 0 then (if n < 0 ∨ 100 < n then 1 else if n ≤ ep - 2 then 9 else if ep < n then 5 else 0) else err ep key old
theorem turn_zero {ep key old : Int} : turnErr ep key old = 0 ↔ err ep key old = 0 ∧ ep < 100 := by
  unfold turnErr
  by_cases h : err ep key old = 0
  · have h' := err_zero.1 h
    by_cases e : ep = 100
    · rw [if_pos h, if_pos e]; constructor <;> intro h2 <;> omega
    · rw [if_pos h, if_neg e]; constructor <;> intro h2 <;> omega
  · simp [h]
theorem key_zero {ep key old n : Int} : keyErr ep key old n = 0 ↔ err ep key old = 0 ∧ (0 ≤ n ∧ n ≤ 100) ∧ (n = ep ∨ n = ep - 1) := by
  unfold keyErr
  by_cases h : err ep key old = 0
  · simp only [h, if_true, true_and]
    by_cases h1 : n < 0 ∨ 100 < n
    · rw [if_pos h1]; constructor <;> intro h2 <;> omega
    · rw [if_neg h1]
      by_cases h2 : n ≤ ep - 2
      · rw [if_pos h2]; constructor <;> intro h2 <;> omega
      · rw [if_neg h2]
        by_cases h3 : ep < n
        · rw [if_pos h3]; constructor <;> intro h2 <;> omega
        · rw [if_neg h3]; simp; omega
  · simp [h]
end Go.Proofs.YtfhpfdlbgmgclakDoor.RingM
