/-
  The plain mathematics of judging: who is old, what is shown, what is answered. No Go here.
-/
import Derived.Test.YtimilfnbbimipajGreatDoorTicketMath
import Derived.Test.YtimilfnbbimipajGreatDoorLoadMath
namespace Go.Proofs.YtimilfnbbimipajGreatDoor.JudgeM

/-- Whether these are noughts alone. -/
def noneB (a b c d : Int) : Bool := decide (a = 0 ∧ b = 0 ∧ c = 0 ∧ d = 0)
theorem noneB_iff {a b c d : Int} : noneB a b c d = true ↔ a = 0 ∧ b = 0 ∧ c = 0 ∧ d = 0 := by simp [noneB]
theorem some4 {a b c d : Int} (h : noneB a b c d = false) : ¬ a = 0 ∨ (a = 0 ∧ ¬ b = 0) ∨ (a = 0 ∧ b = 0 ∧ ¬ c = 0) ∨ (a = 0 ∧ b = 0 ∧ c = 0 ∧ ¬ d = 0) := by
  simp [noneB] at h; omega
/-- What is wrong with asking who is old: 0 is nothing. -/
def oldErr (ep key old now : Int) : Int := if RingM.err ep key old = 0 then (if TokenM.timeB now = true then 0 else 1) else RingM.err ep key old
theorem old_zero {ep key old now : Int} : oldErr ep key old now = 0 ↔ RingM.err ep key old = 0 ∧ TokenM.timeB now = true := by
  unfold oldErr
  by_cases h : RingM.err ep key old = 0
  · rw [if_pos h]; cases TokenM.timeB now <;> simp [h]
  · rw [if_neg h]; simp [h]
/-- Whether a ticket is old, where nothing is wrong with asking. -/
def rightB (ep key old te tn tu tg now : Int) : Bool := !(noneB te tn tu tg) && decide (TicketM.checkErr ep key old te tn tu tg now = 0)
/-- What Old tells. -/
def oldB (ep key old te tn tu tg now : Int) : Bool := decide (oldErr ep key old now = 0) && rightB ep key old te tn tu tg now
theorem oldB_no {ep key old te tn tu tg now : Int} (h : ¬ oldErr ep key old now = 0) : oldB ep key old te tn tu tg now = false := by simp [oldB, h]
theorem oldB_yes {ep key old te tn tu tg now : Int} (h : oldErr ep key old now = 0) : oldB ep key old te tn tu tg now = rightB ep key old te tn tu tg now := by simp [oldB, h]
/-- Whether there is a token that is right. -/
def shownB (ep key old te ta tt tg a now life : Int) : Bool := !(noneB te ta tt tg) && decide (TokenM.checkErr ep key old te ta tt tg a now life = 0)
/-- Whether so many early bytes may come. -/
def mayB (n : Nat) : Bool := decide (1 ≤ n ∧ n ≤ 40)
/-- What is wrong with a hello. -/
def ansErr (ep key old a n now life : Int) : Int :=
  if RingM.err ep key old = 0 then (if (TagM.inB a && TokenM.timeB now && TokenM.timeB life) = true then LoadM.err n else 1) else RingM.err ep key old
theorem ans_zero {ep key old a n now life : Int} : ansErr ep key old a n now life = 0 ↔ RingM.err ep key old = 0 ∧ TagM.inB a = true ∧ TokenM.timeB now = true ∧ TokenM.timeB life = true ∧ LoadM.err n = 0 := by
  unfold ansErr
  by_cases h : RingM.err ep key old = 0
  · rw [if_pos h]
    cases TagM.inB a <;> cases TokenM.timeB now <;> cases TokenM.timeB life <;> simp [h]
  · rw [if_neg h]; simp [h]
theorem ans_ring {ep key old a n now life : Int} (h : ¬ RingM.err ep key old = 0) : ansErr ep key old a n now life = RingM.err ep key old := if_neg h
theorem ans_range {ep key old a n now life : Int} (h : RingM.err ep key old = 0) (h1 : (TagM.inB a && TokenM.timeB now && TokenM.timeB life) = false) : ansErr ep key old a n now life = 1 := by
  unfold ansErr; rw [if_pos h, if_neg (by rw [h1]; simp)]
theorem ans_load {ep key old a n now life : Int} (h : RingM.err ep key old = 0) (h1 : (TagM.inB a && TokenM.timeB now && TokenM.timeB life) = true) : ansErr ep key old a n now life = LoadM.err n := by
  unfold ansErr; rw [if_pos h, if_pos h1]
/-- What is answered, and whether the early bytes may be taken: 0 and no beside a fault. -/
def kind (ep key old a te ta tt tg ke kn ku kg n now life : Int) : Int :=
  if ansErr ep key old a n now life = 0 then LoadM.kind n (shownB ep key old te ta tt tg a now life) (rightB ep key old ke kn ku kg now) else 0
def may (ep key old a te ta tt tg ke kn ku kg : Int) (z : Nat) (n now life : Int) : Bool :=
  decide (ansErr ep key old a n now life = 0) && (decide (kind ep key old a te ta tt tg ke kn ku kg n now life = 1) && rightB ep key old ke kn ku kg now && mayB z)
theorem kind_no {ep key old a te ta tt tg ke kn ku kg n now life : Int} (h : ¬ ansErr ep key old a n now life = 0) : kind ep key old a te ta tt tg ke kn ku kg n now life = 0 := if_neg h
theorem kind_yes {ep key old a te ta tt tg ke kn ku kg n now life : Int} (h : ansErr ep key old a n now life = 0) : kind ep key old a te ta tt tg ke kn ku kg n now life = LoadM.kind n (shownB ep key old te ta tt tg a now life) (rightB ep key old ke kn ku kg now) := if_pos h
theorem may_no {ep key old a te ta tt tg ke kn ku kg n now life : Int} {z : Nat} (h : ¬ ansErr ep key old a n now life = 0) : may ep key old a te ta tt tg ke kn ku kg z n now life = false := by simp [may, h]
theorem may_yes {ep key old a te ta tt tg ke kn ku kg n now life : Int} {z : Nat} (h : ansErr ep key old a n now life = 0) : may ep key old a te ta tt tg ke kn ku kg z n now life = (decide (LoadM.kind n (shownB ep key old te ta tt tg a now life) (rightB ep key old ke kn ku kg now) = 1) && rightB ep key old ke kn ku kg now && mayB z) := by
  simp [may, h, kind_yes h]
end Go.Proofs.YtimilfnbbimipajGreatDoor.JudgeM
namespace Go.Proofs.YtimilfnbbimipajGreatDoor
open Go.RowKit
/-- An error, and whether it is none: one of two. -/
theorem errV_two (n : Int) : ∃ (v : Value) (b : Bool), errV n = v ∧ decide (n = 0) = b ∧ ((v = .nilIface ∧ b = true) ∨ (v = .iface 71 (.int .i64 n) ∧ b = false)) := by
  by_cases h : n = 0
  · exact ⟨_, _, errV_zero h, decide_eq_true h, .inl ⟨rfl, rfl⟩⟩
  · exact ⟨_, _, errV_pos h, decide_eq_false h, .inr ⟨rfl, rfl⟩⟩
end Go.Proofs.YtimilfnbbimipajGreatDoor
