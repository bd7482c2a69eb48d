/-
  The plain mathematics of buckets: what is wrong with one, what it has at a later time, what is left when some are taken. No Go here.
-/
import Derived.Test.YtbfofcblhjlgmafTokenMath
namespace Go.Proofs.Ytbfofcblhjlgmaf.BucketM

/-- Whether so many may come, or be taken, at a time. -/
def countB (n : Int) : Bool := decide (0 ≤ n ∧ n ≤ 100)
theorem countB_iff (n : Int) : countB n = true ↔ 0 ≤ n ∧ n ≤ 100 := by simp [countB]
theorem countB_not (n : Int) : countB n = false ↔ n < 0 ∨ 100 < n := by
  simp [countB]; omega

/-- A bucket that is right. -/
structure Right (s r h t : Int) : Prop where
  s0 : 1 ≤ s
  s1 : s ≤ 100
  r0 : 0 ≤ r
  r1 : r ≤ 100
  h0 : 0 ≤ h
  h1 : h ≤ s
  t0 : 0 ≤ t
  t1 : t ≤ 100000
/-- What is wrong with a bucket, by its number: 0 is nothing. -/
def fault (s r h t : Int) : Int :=
  if 1 ≤ s ∧ s ≤ 100 ∧ 0 ≤ r ∧ r ≤ 100 ∧ 0 ≤ h ∧ h ≤ s ∧ 0 ≤ t ∧ t ≤ 100000 then 0 else 1
theorem fault_zero {s r h t : Int} : fault s r h t = 0 ↔ Right s r h t := by
  unfold fault
  constructor
  · intro e
    split at e
    · rename_i q; exact ⟨q.1, q.2.1, q.2.2.1, q.2.2.2.1, q.2.2.2.2.1, q.2.2.2.2.2.1, q.2.2.2.2.2.2.1, q.2.2.2.2.2.2.2⟩
    · omega
  · intro q
    rw [if_pos ⟨q.s0, q.s1, q.r0, q.r1, q.h0, q.h1, q.t0, q.t1⟩]
theorem fault_one {s r h t : Int} (e : ¬ fault s r h t = 0) : fault s r h t = 1 := by
  unfold fault at e ⊢
  split at e
  · exact absurd rfl e
  · rename_i q; rw [if_neg q]
theorem fault_bad {s r h t : Int} (q : s < 1 ∨ 100 < s ∨ r < 0 ∨ 100 < r ∨ h < 0 ∨ s < h ∨ t < 0 ∨ 100000 < t) : fault s r h t = 1 := by
  unfold fault
  rw [if_neg (by omega)]

/-- What comes between two times. -/
theorem comes {s r h t x : Int} (q : Right s r h t) (h0 : t ≤ x) (h1 : x ≤ 100000) : 0 ≤ r * (x - t) ∧ r * (x - t) ≤ 10000000 := by
  have a := q.r0
  have b := q.r1
  have c := q.t0
  refine ⟨Int.mul_nonneg a (by omega), ?_⟩
  have e := Int.mul_le_mul b (show x - t ≤ 100000 by omega) (by omega) (by omega)
  omega
/-- What it has then. -/
def has (s r h t x : Int) : Int := if h + r * (x - t) < s then h + r * (x - t) else s
def atErr (s r h t x : Int) : Int :=
  if fault s r h t = 0 then (if x < 0 ∨ 100000 < x then 1 else if x < t then 9 else 0) else 1
theorem at_bad {s r h t : Int} (x : Int) (e : ¬ fault s r h t = 0) : atErr s r h t x = 1 := if_neg e
theorem at_range {s r h t x : Int} (e : fault s r h t = 0) (hx : x < 0 ∨ 100000 < x) : atErr s r h t x = 1 := by
  unfold atErr; rw [if_pos e, if_pos hx]
theorem at_late {s r h t x : Int} (e : fault s r h t = 0) (h0 : 0 ≤ x) (hx : x < t) : atErr s r h t x = 9 := by
  have := (fault_zero.1 e).t1
  unfold atErr; rw [if_pos e, if_neg (by omega), if_pos hx]
theorem at_good {s r h t x : Int} (e : fault s r h t = 0) (h0 : t ≤ x) (h1 : x ≤ 100000) : atErr s r h t x = 0 := by
  have := (fault_zero.1 e).t0
  unfold atErr; rw [if_pos e, if_neg (by omega), if_neg (by omega)]
theorem at_zero {s r h t x : Int} : atErr s r h t x = 0 ↔ fault s r h t = 0 ∧ t ≤ x ∧ x ≤ 100000 := by
  constructor
  · intro e
    unfold atErr at e
    split at e
    · rename_i q
      refine ⟨q, ?_⟩
      split at e
      · omega
      · split at e
        · omega
        · omega
    · omega
  · rintro ⟨e, h0, h1⟩; exact at_good e h0 h1
/-- At a later time it is right. -/
theorem at_right {s r h t x : Int} (e : atErr s r h t x = 0) : Right s r (has s r h t x) x := by
  obtain ⟨e, h0, h1⟩ := at_zero.1 e
  have q := fault_zero.1 e
  have := comes q h0 h1
  have := q.h0; have := q.s0; have := q.t0
  unfold has
  split
  · exact ⟨q.s0, q.s1, q.r0, q.r1, by omega, by omega, by omega, h1⟩
  · exact ⟨q.s0, q.s1, q.r0, q.r1, by omega, by omega, by omega, h1⟩
/-- At its own time nothing comes. -/
theorem still {s r h t : Int} (q : Right s r h t) : has s r h t t = h := by
  have := q.h1
  unfold has
  rw [Int.sub_self, Int.mul_zero, Int.add_zero]
  split <;> omega

/-- What is wrong with taking so many. -/
def takeErr (s r h t x n : Int) : Int :=
  if atErr s r h t x = 0 then (if n < 0 ∨ 100 < n then 1 else if has s r h t x < n then 4 else 0) else atErr s r h t x
theorem take_bad {s r h t x : Int} (n : Int) (e : ¬ atErr s r h t x = 0) : takeErr s r h t x n = atErr s r h t x := if_neg e
theorem take_range {s r h t x n : Int} (e : atErr s r h t x = 0) (hn : n < 0 ∨ 100 < n) : takeErr s r h t x n = 1 := by
  unfold takeErr; rw [if_pos e, if_pos hn]
theorem take_full {s r h t x n : Int} (e : atErr s r h t x = 0) (hn : ¬ (n < 0 ∨ 100 < n)) (hf : has s r h t x < n) : takeErr s r h t x n = 4 := by
  unfold takeErr; rw [if_pos e, if_neg hn, if_pos hf]
theorem take_good {s r h t x n : Int} (e : atErr s r h t x = 0) (hn : 0 ≤ n) (hf : n ≤ has s r h t x) : takeErr s r h t x n = 0 := by
  have q := at_right e
  have := q.h1; have := q.s1
  unfold takeErr; rw [if_pos e, if_neg (by omega), if_neg (by omega)]
theorem take_zero {s r h t x n : Int} : takeErr s r h t x n = 0 ↔ atErr s r h t x = 0 ∧ 0 ≤ n ∧ n ≤ has s r h t x := by
  constructor
  · intro e
    unfold takeErr at e
    split at e
    · rename_i q
      refine ⟨q, ?_⟩
      split at e
      · omega
      · split at e
        · omega
        · omega
    · rename_i q; exact absurd e q
  · rintro ⟨e, h0, h1⟩; exact take_good e h0 h1
theorem take_right {s r h t x n : Int} (e : takeErr s r h t x n = 0) : Right s r (has s r h t x - n) x := by
  obtain ⟨e, h0, h1⟩ := take_zero.1 e
  have q := at_right e
  have := q.h1
  exact ⟨q.s0, q.s1, q.r0, q.r1, by omega, by omega, q.t0, q.t1⟩
/-- The value that goes beside an error. -/
def told (e v : Int) : Int := if e = 0 then v else 0
theorem told_zero {e v : Int} (h : e = 0) : told e v = v := if_pos h
theorem told_pos {e v : Int} (h : ¬ e = 0) : told e v = 0 := if_neg h

/-- What was taken, and what is still there, is no more than there was, and what came. -/
theorem bound {S r H T h t x took : Int} (n : Int) (inv : took + h ≤ H + r * (t - T)) : (took + n) + (has S r h t x - n) ≤ H + r * (x - T) := by
  have q : has S r h t x ≤ h + r * (x - t) := by
    unfold has
    split <;> omega
  have e1 : r * (x - T) = r * (x - t) + r * (t - T) := by rw [← Int.mul_add]; congr 1; omega
  omega
theorem first : takeErr 5 2 1 0 3 5 = 0 ∧ has 5 2 1 0 3 = 5 := by decide
end Go.Proofs.Ytbfofcblhjlgmaf.BucketM
