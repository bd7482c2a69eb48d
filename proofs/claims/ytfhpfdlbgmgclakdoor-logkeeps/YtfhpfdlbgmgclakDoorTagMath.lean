/-
  The plain mathematics of tags: a tag's steps, and that a factor which can be undone keeps unlike numbers unlike. No Go here.
-/
import Derived.WalkKit
namespace Go.Proofs.YtfhpfdlbgmgclakDoor.TagM

/-- Whether a number may be a key, a number or a tag. -/
def inB (n : Int) : Bool := decide (0 ≤ n ∧ n < 999983)
theorem inB_iff (n : Int) : inB n = true ↔ 0 ≤ n ∧ n < 999983 := by simp [inB]
theorem inB_not (n : Int) : inB n = false ↔ n < 0 ∨ 999983 ≤ n := by
  simp [inB]; omega

def step (t n : Int) : Int := (4099 * t + n) % 999983
theorem step_bd (t n : Int) : 0 ≤ step t n ∧ step t n < 999983 := by unfold step; omega

/-- The tag behind all numbers, ahead of the key's last step. -/
def run (key : Int) : List Int → Int
  | [] => key
  | n :: l => run (step key (n + 1)) l
theorem run_append (key : Int) (l m : List Int) : run key (l ++ m) = run (run key l) m := by
  induction l generalizing key with
  | nil => rfl
  | cons a l ih => simp [run, ih]
theorem run_snoc (key : Int) (l : List Int) (n : Int) : run key (l ++ [n]) = step (run key l) (n + 1) := by
  rw [run_append]; rfl
theorem run_bd (key : Int) (l : List Int) (h : 0 ≤ key ∧ key < 999983) : 0 ≤ run key l ∧ run key l < 999983 := by
  induction l generalizing key with
  | nil => exact h
  | cons a l ih => exact ih _ (step_bd _ _)

def tag (key : Int) (l : List Int) : Int := step (run key l) key
theorem tag_bd (key : Int) (l : List Int) : 0 ≤ tag key l ∧ tag key l < 999983 := step_bd _ _

/-- The error's number: 0 is none. -/
def err (key : Int) (l : List Int) : Int :=
  if inB key = false then 1 else if 12 < l.length then 4 else if l.all inB then 0 else 1

theorem err_zero {key : Int} {l : List Int} : err key l = 0 ↔ inB key = true ∧ l.length ≤ 12 ∧ l.all inB = true := by
  unfold err
  by_cases h1 : inB key = false
  · simp [h1]
  · by_cases h2 : 12 < l.length
    · simp [h1, h2]; omega
    · have h1' : inB key = true := by simpa using h1
      by_cases h3 : l.all inB = true
      · simp [h1', h2, h3]; omega
      · simp [h1', h2, h3]

/-- 4099 can be undone modulo 999983. -/
theorem step_inj {t u n : Int} (ht : 0 ≤ t ∧ t < 999983) (hu : 0 ≤ u ∧ u < 999983) (h : step t n = step u n) : t = u := by
  unfold step at h; omega
theorem step_inj2 {t n m : Int} (hn : 0 ≤ n ∧ n < 999983) (hm : 0 ≤ m ∧ m < 999983) (h : step t (n + 1) = step t (m + 1)) : n = m := by
  unfold step at h; omega
theorem run_inj {t u : Int} (l : List Int) (ht : 0 ≤ t ∧ t < 999983) (hu : 0 ≤ u ∧ u < 999983) (h : run t l = run u l) : t = u := by
  induction l generalizing t u with
  | nil => exact h
  | cons a l ih => exact step_inj ht hu (ih (step_bd _ _) (step_bd _ _) h)
theorem tag_nil_inj {k o : Int} (hk : 0 ≤ k ∧ k < 999983) (ho : 0 ≤ o ∧ o < 999983) : tag k [] = tag o [] ↔ k = o := by
  constructor
  · intro h; simp only [tag, run, step] at h; omega
  · intro h; rw [h]
/-- What differs in one has another tag. -/
theorem tag_one {key : Int} {a c : List Int} {n m : Int} (hk : 0 ≤ key ∧ key < 999983) (hn : 0 ≤ n ∧ n < 999983) (hm : 0 ≤ m ∧ m < 999983) :
    tag key (a ++ n :: c) = tag key (a ++ m :: c) ↔ n = m := by
  constructor
  · intro h
    unfold tag at h
    have h1 := step_inj (run_bd _ _ hk) (run_bd _ _ hk) h
    rw [run_append, run_append] at h1
    simp only [run] at h1
    exact step_inj2 hn hm (run_inj c (step_bd _ _) (step_bd _ _) h1)
  · intro h; rw [h]
end Go.Proofs.YtfhpfdlbgmgclakDoor.TagM
