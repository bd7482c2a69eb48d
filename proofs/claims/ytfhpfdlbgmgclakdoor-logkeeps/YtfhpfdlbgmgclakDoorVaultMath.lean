/-
  The plain mathematics of a vault: what a Spend leaves. No Go here.
-/
import Derived.Test.YtfhpfdlbgmgclakDoorSpentMath
namespace Go.Proofs.YtfhpfdlbgmgclakDoor.VaultM

/-- What is there behind a Spend: as it was, where it was refused. -/
def next (L : List (Int × Int)) (n till now : Int) : List (Int × Int) := if SpentM.spendErr L n till now = 0 then SpentM.spend L n till now else L
theorem next_yes {L : List (Int × Int)} {n till now : Int} (h : SpentM.spendErr L n till now = 0) : next L n till now = SpentM.spend L n till now := if_pos h
theorem next_no {L : List (Int × Int)} {n till now : Int} (h : ¬ SpentM.spendErr L n till now = 0) : next L n till now = L := if_neg h
theorem nil_good : SpentM.Good [] := ⟨by simp, by simp, by simp⟩
theorem next_good {L : List (Int × Int)} {n till now : Int} (h : SpentM.Good L) : SpentM.Good (next L n till now) := by
  by_cases he : SpentM.spendErr L n till now = 0
  · rw [next_yes he]; exact SpentM.spend_good he
  · rw [next_no he]; exact h
theorem err_rest {L : List (Int × Int)} {n till now : Int} (h : SpentM.Good L) : SpentM.spendErr L n till now = SpentM.restErr L n till now := by
  unfold SpentM.spendErr; rw [if_pos (SpentM.err_zero.2 h)]
theorem hasErr_good {L : List (Int × Int)} {n : Int} (h : SpentM.Good L) : SpentM.hasErr L n = if TagM.inB n = true then 0 else 1 := by
  unfold SpentM.hasErr; rw [if_pos (SpentM.err_zero.2 h)]
theorem has_good {L : List (Int × Int)} {n : Int} (h : SpentM.Good L) : SpentM.has L n = (TagM.inB n && SpentM.hasB L n) := by
  unfold SpentM.has
  rw [hasErr_good h]
  cases TagM.inB n <;> simp
/-- The first that is spent. -/
theorem first {n till now : Int} (h : SpentM.spendErr [] n till now = 0) : next [] n till now = [(n, till)] := by
  rw [next_yes h, SpentM.spend_ok h]; rfl
theorem first_zero {n till now : Int} : SpentM.spendErr [] n till now = 0 ↔ (TagM.inB n = true ∧ TokenM.timeB till = true ∧ TokenM.timeB now = true) ∧ now ≤ till := by
  rw [err_rest nil_good, SpentM.rest_zero]
  constructor
  · intro h; exact ⟨h.1, h.2.1⟩
  · intro h; exact ⟨h.1, h.2, by simp [SpentM.left, SpentM.hasB], by simp [SpentM.left]⟩
theorem one_good {n till now : Int} (h : SpentM.spendErr [] n till now = 0) : SpentM.Good [(n, till)] := by
  rw [← first h]; exact next_good nil_good
theorem one_left {n till now : Int} (h : now ≤ till) : SpentM.left [(n, till)] now = [(n, till)] := by
  simp [SpentM.left, h]
/-- A second one. -/
theorem second {n m till now : Int} (h : SpentM.spendErr [] n till now = 0) (hm : TagM.inB m = true) (hne : ¬ m = n) : SpentM.spendErr [(n, till)] m till now = 0 ∧ next [(n, till)] m till now = [(n, till), (m, till)] := by
  obtain ⟨⟨_, h2, h3⟩, h4⟩ := first_zero.1 h
  have h0 : SpentM.spendErr [(n, till)] m till now = 0 := by
    rw [err_rest (one_good h), SpentM.rest_zero, one_left h4]
    refine ⟨⟨hm, h2, h3⟩, h4, ?_, by simp⟩
    simp [SpentM.hasB]
    exact fun e => hne e.symm
  exact ⟨h0, by rw [next_yes h0, SpentM.spend_ok h0, one_left h4]; rfl⟩
theorem again {n till now : Int} (h : SpentM.spendErr [] n till now = 0) : SpentM.spendErr [(n, till)] n till now = 7 := by
  obtain ⟨⟨_, _, h3⟩, h4⟩ := first_zero.1 h
  exact SpentM.again_there (one_good h) (by simp) h3 h4
theorem out {n m till now : Int} (h : SpentM.spendErr [] n till now = 0) (hm : TagM.inB m = false) : SpentM.spendErr [(n, till)] m till now = 1 := by
  rw [err_rest (one_good h)]
  unfold SpentM.restErr
  rw [if_neg (by rw [hm]; simp)]
end Go.Proofs.YtfhpfdlbgmgclakDoor.VaultM
