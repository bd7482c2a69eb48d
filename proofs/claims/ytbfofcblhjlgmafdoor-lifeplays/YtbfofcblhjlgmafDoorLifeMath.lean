/-
  The plain mathematics of lives: what is wrong with a start, with a next, and what stands behind each. No Go here.
-/
import Derived.WalkKit
namespace Go.Proofs.YtbfofcblhjlgmafDoor
namespace LifeM

/-- The life that is, and how many numbers of it were told. -/
def Right (a n : Int) : Prop := 0 ≤ a ∧ a ≤ 100 ∧ 0 ≤ n ∧ n ≤ 30 ∧ (a = 0 → n = 0)
theorem right_first : Right 0 0 := by unfold Right; omega
def startErr (a : Int) : Int := if 100 ≤ a then 4 else 0
def nextErr (a n : Int) : Int := if a = 0 then 6 else if 30 ≤ n then 4 else 0
theorem start_zero {a : Int} (h : a < 100) : startErr a = 0 := if_neg (by omega)
theorem start_full {a : Int} (h : 100 ≤ a) : startErr a = 4 := if_pos h
theorem next_none {a : Int} (n : Int) (h : a = 0) : nextErr a n = 6 := if_pos h
theorem next_full {a n : Int} (h : ¬ a = 0) (hn : 30 ≤ n) : nextErr a n = 4 := by unfold nextErr; rw [if_neg h, if_pos hn]
theorem next_zero {a n : Int} (h : ¬ a = 0) (hn : n < 30) : nextErr a n = 0 := by unfold nextErr; rw [if_neg h, if_neg (by omega)]
theorem right_start {a n : Int} (h : Right a n) (ha : a < 100) : Right (a + 1) 0 := by unfold Right at h ⊢; omega
theorem right_next {a n : Int} (h : Right a n) (ha : ¬ a = 0) (hn : n < 30) : Right a (n + 1) := by unfold Right at h ⊢; omega
end LifeM
end Go.Proofs.YtbfofcblhjlgmafDoor
