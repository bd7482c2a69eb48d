/-
  What is answered where so many wait, as plain numbers: the level, the kind, the fault.
-/
import Derived.Test.YtimilfnbbimipajGreatDoorRingWalks
namespace Go.Proofs.YtimilfnbbimipajGreatDoor.LoadM

/-- The fault of so many that wait: 0 is none. -/
def err (n : Int) : Int := if n < 0 ∨ 8 < n then 1 else 0
/-- The level. -/
def level (n : Int) : Int := if n < 0 ∨ 8 < n then 0 else if n < 4 then 0 else if n < 8 then 1 else 2
/-- What is answered: 0 Retry, 1 Welcome, 2 Busy. -/
def kind (n : Int) (t o : Bool) : Int := if n < 0 ∨ 8 < n then 0 else if n = 8 then 2 else if 4 ≤ n ∧ t = false ∧ o = false then 0 else 1

theorem five (n : Int) : n < 0 ∨ 8 < n ∨ (0 ≤ n ∧ n < 4) ∨ (4 ≤ n ∧ n < 8) ∨ n = 8 := by omega
theorem err_bad {n : Int} (h : n < 0 ∨ 8 < n) : err n = 1 := if_pos h
theorem err_good {n : Int} (h0 : 0 ≤ n) (h1 : n ≤ 8) : err n = 0 := if_neg (by omega)
theorem level_bad {n : Int} (h : n < 0 ∨ 8 < n) : level n = 0 := if_pos h
theorem level_calm {n : Int} (h0 : 0 ≤ n) (h1 : n < 4) : level n = 0 := by
  unfold level; rw [if_neg (by omega), if_pos h1]
theorem level_pressed {n : Int} (h0 : 4 ≤ n) (h1 : n < 8) : level n = 1 := by
  unfold level; rw [if_neg (by omega), if_neg (by omega), if_pos h1]
theorem level_full : level 8 = 2 := by decide
theorem kind_bad {n : Int} (h : n < 0 ∨ 8 < n) (t o : Bool) : kind n t o = 0 := if_pos h
theorem kind_calm {n : Int} (h0 : 0 ≤ n) (h1 : n < 4) (t o : Bool) : kind n t o = 1 := by
  unfold kind; rw [if_neg (by omega), if_neg (by omega), if_neg (by omega)]
theorem kind_shown {n : Int} (h0 : 4 ≤ n) (h1 : n < 8) {t o : Bool} (h : t = true ∨ o = true) : kind n t o = 1 := by
  unfold kind; rw [if_neg (by omega), if_neg (by omega), if_neg]
  rintro ⟨_, rfl, rfl⟩
  simp at h
theorem kind_bare {n : Int} (h0 : 4 ≤ n) (h1 : n < 8) : kind n false false = 0 := by
  unfold kind; rw [if_neg (by omega), if_neg (by omega), if_pos ⟨h0, rfl, rfl⟩]
theorem kind_full (t o : Bool) : kind 8 t o = 2 := by cases t <;> cases o <;> decide
/-- With a token, or as one who is old, one is welcome wherever one was. -/
theorem kind_more {n : Int} {t o : Bool} (h : kind n t o = 1) : kind n true o = 1 ∧ kind n t true = 1 := by
  rcases five n with k | k | k | k | k
  · rw [kind_bad (.inl k)] at h; cases h
  · rw [kind_bad (.inr k)] at h; cases h
  · exact ⟨kind_calm k.1 k.2 _ _, kind_calm k.1 k.2 _ _⟩
  · exact ⟨kind_shown k.1 k.2 (.inl rfl), kind_shown k.1 k.2 (.inr rfl)⟩
  · subst k; rw [kind_full] at h; cases h
/-- The more wait, the less it is welcome. -/
theorem kind_less {n m : Int} {t o : Bool} (h0 : 0 ≤ n) (hm : n ≤ m) (h : kind m t o = 1) : kind n t o = 1 := by
  rcases five m with k | k | k | k | k
  · omega
  · rw [kind_bad (.inr k)] at h; cases h
  · exact kind_calm h0 (by omega) _ _
  · by_cases k4 : n < 4
    · exact kind_calm h0 k4 _ _
    · have h8 : n < 8 := by omega
      have hn : 4 ≤ n := by omega
      cases t
      · cases o
        · rw [kind_bare k.1 k.2] at h; cases h
        · exact kind_shown hn h8 (.inr rfl)
      · exact kind_shown hn h8 (.inl rfl)
  · subst k; rw [kind_full] at h; cases h

end Go.Proofs.YtimilfnbbimipajGreatDoor.LoadM
