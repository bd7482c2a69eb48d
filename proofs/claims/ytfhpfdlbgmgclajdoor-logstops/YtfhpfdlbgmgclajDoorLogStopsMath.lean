/-
  The plain mathematics of a log that is told when to stop: which records are there at each step. No Go here.
-/
import Derived.Test.YtfhpfdlbgmgclajDoorLogMath
namespace Go.Proofs.YtfhpfdlbgmgclajDoor.LogM

/-- The first k records of the play. -/
def recs (k : Nat) : List Rec := (List.range k).map fun i : Nat => ((i : Int), (5 : Int), (1 : Int))
theorem recs_length (k : Nat) : (recs k).length = k := by simp [recs]
theorem recs_succ (k : Nat) : recs (k + 1) = recs k ++ [((k : Int), 5, 1)] := by simp [recs, List.range_succ]
theorem recs_take (m q : Nat) : (recs m).take q = recs (min q m) := by
  unfold recs
  rw [← List.map_take, List.take_range]
set_option maxRecDepth 20000 in
theorem recs_err : ∀ k, k < 13 → err (hist (recs k)) (-1, 5, 1) = 1 ∧ err (hist (recs k)) ((k : Int), 5, 1) = 0 := by decide
set_option maxRecDepth 20000 in
theorem recs_last : ∀ k, k < 13 → err (hist (recs k)) (500, 9, 2) = 0 ∧ next (hist (recs k)) (500, 9, 2) = hist (recs k) ++ [(500, 9)] ∧ (hist (recs k)).length = k := by decide

/-- Where it is at step k, told to stop at step A. -/
def Going (A k : Nat) (x : St) : Prop := x.R = recs (min k A) ∧ (k ≤ A → x.stop = false ∧ x.left = (A : Int) - k) ∧ (A < k → x.stop = true)
/-- .. behind the Spends. -/
def Later (A k : Nat) (x : St) : Prop := (∃ m, m ≤ 12 ∧ x.R = recs m) ∧ (k ≤ A → x.stop = false ∧ x.left = (A : Int) - k) ∧ (A < k → x.stop = true)
theorem going_new (A : Nat) : Going A 0 (fail new A) := by
  refine ⟨by simp [fail, new, recs], fun _ => ⟨rfl, by simp [fail]⟩, fun h => by omega⟩
theorem Going.later {A k : Nat} {x : St} (h : Going A k x) (hA : A ≤ 12) : Later A k x := ⟨⟨min k A, by omega, h.1⟩, h.2⟩
theorem going_bad {A k : Nat} {x : St} (h : Going A k x) (hA : A ≤ 12) (hk : k ≤ A) : spendErr x (-1, 5, 1) = 1 ∧ spend x (-1, 5, 1) = x := by
  obtain ⟨h1, h2, _⟩ := h
  obtain ⟨hs, _⟩ := h2 hk
  have e := (recs_err (min k A) (by omega)).1
  rw [← h1] at e
  constructor
  · unfold spendErr; simp [hs, e]
  · unfold spend; simp [hs, e]
theorem going_lt {A k : Nat} {x : St} (h : Going A k x) (hA : A ≤ 12) (hk : k < A) : spendErr x ((k : Int), 5, 1) = 0 ∧ Going A (k + 1) (spend x ((k : Int), 5, 1)) := by
  obtain ⟨h1, h2, _⟩ := h
  obtain ⟨hs, hl⟩ := h2 (by omega)
  have hm : min k A = k := by omega
  rw [hm] at h1
  have e := (recs_err k (by omega)).2
  rw [← h1] at e
  have hz : ¬ x.left = 0 := by omega
  have h30 : ¬ x.R.length = 30 := by rw [h1, recs_length]; omega
  have hsp : spend x ((k : Int), 5, 1) = { x with R := x.R ++ [((k : Int), 5, 1)], left := down x.left } := by unfold spend; simp [hs, e, h30, hz]
  refine ⟨by unfold spendErr; simp [hs, e, h30, hz], ?_⟩
  rw [hsp]
  refine ⟨?_, fun _ => ⟨hs, ?_⟩, fun q => by omega⟩
  · show x.R ++ _ = _
    rw [h1, ← recs_succ, show min (k + 1) A = k + 1 by omega]
  · show down x.left = _
    rw [down_pos (by omega), hl]; omega
theorem going_eq {A : Nat} {x : St} (h : Going A A x) (hA : A ≤ 12) : spendErr x ((A : Int), 5, 1) = 6 ∧ Going A (A + 1) (spend x ((A : Int), 5, 1)) := by
  obtain ⟨h1, h2, _⟩ := h
  obtain ⟨hs, hl⟩ := h2 (Nat.le_refl _)
  rw [Nat.min_self] at h1
  have e := (recs_err A (by omega)).2
  rw [← h1] at e
  have hz : x.left = 0 := by omega
  have h30 : ¬ x.R.length = 30 := by rw [h1, recs_length]; omega
  have hsp : spend x ((A : Int), 5, 1) = { x with h := half ((A : Int), 5, 1), stop := true } := by unfold spend; simp [hs, e, h30, hz]
  refine ⟨by unfold spendErr; simp [hs, e, h30, hz], ?_⟩
  rw [hsp]
  exact ⟨by show x.R = _; rw [h1, show min (A + 1) A = A by omega], fun q => by omega, fun _ => rfl⟩
theorem stopped {x : St} (h : x.stop = true) (r : Rec) : spendErr x r = 6 ∧ spend x r = x ∧ syncErr x = 6 ∧ sync x = x :=
  ⟨by unfold spendErr; simp [h], by unfold spend; simp [h], by unfold syncErr; simp [h], by unfold sync; simp [h]⟩
theorem going_gt {A k : Nat} {x : St} (h : Going A k x) (hk : A < k) : x.stop = true ∧ Going A (k + 1) x :=
  ⟨h.2.2 hk, by rw [h.1, show min k A = min (k + 1) A by omega], fun q => by omega, fun _ => h.2.2 hk⟩
theorem later_lt {A k : Nat} {x : St} (h : Later A k x) (hk : k < A) : syncErr x = 0 ∧ Later A (k + 1) (sync x) := by
  obtain ⟨h1, h2, _⟩ := h
  obtain ⟨hs, hl⟩ := h2 (by omega)
  have hz : ¬ x.left = 0 := by omega
  have e : sync x = { x with s := x.R.length, left := down x.left } := by unfold sync; simp [hs, hz]
  refine ⟨by unfold syncErr; simp [hs, hz], ?_⟩
  rw [e]
  refine ⟨h1, fun _ => ⟨hs, ?_⟩, fun q => by omega⟩
  show down x.left = _
  rw [down_pos (by omega), hl]; omega
theorem later_eq {A : Nat} {x : St} (h : Later A A x) : syncErr x = 6 ∧ Later A (A + 1) (sync x) := by
  obtain ⟨h1, h2, _⟩ := h
  obtain ⟨hs, hl⟩ := h2 (Nat.le_refl _)
  have hz : x.left = 0 := by omega
  have e : sync x = { x with stop := true } := by unfold sync; simp [hs, hz]
  refine ⟨by unfold syncErr; simp [hs, hz], ?_⟩
  rw [e]
  exact ⟨h1, fun q => by omega, fun _ => rfl⟩
/-- Behind the crash: what goes on. -/
theorem crashed {A k : Nat} {x : St} (h : Later A k x) (keep : Int) : ∃ m, m ≤ 12 ∧ (hist (crash x keep).R).length = m ∧
    spendErr (crash x keep) (500, 9, 2) = 0 ∧ syncErr (spend (crash x keep) (500, 9, 2)) = 0 ∧
    hist (sync (spend (crash x keep) (500, 9, 2))).R = hist (crash x keep).R ++ [(500, 9)] ∧ 9 * (sync (spend (crash x keep) (500, 9, 2))).s = size (sync (spend (crash x keep) (500, 9, 2))) := by
  obtain ⟨⟨m, hm, h1⟩, _⟩ := h
  have hR : (crash x keep).R = recs (min (keeps x keep) m) := by show x.R.take _ = _; rw [h1, recs_take]
  obtain ⟨e1, e2, e3⟩ := recs_last (min (keeps x keep) m) (by omega)
  rw [← hR] at e1 e2 e3
  have h30 : ¬ (crash x keep).R.length = 30 := by rw [hR, recs_length]; omega
  have hs : (crash x keep).stop = false := rfl
  have hl : (crash x keep).left = -1 := rfl
  have hh : (crash x keep).h = [] := rfl
  have hz : ¬ (crash x keep).left = 0 := by rw [hl]; omega
  generalize crash x keep = y at *
  have hsp : spend y (500, 9, 2) = { y with R := y.R ++ [(500, 9, 2)], left := down y.left } := by unfold spend; simp [hs, e1, h30, hz]
  have hd : down y.left = -1 := by rw [hl]; decide
  have hsy : sync { y with R := y.R ++ [(500, 9, 2)], left := down y.left } = { y with R := y.R ++ [(500, 9, 2)], s := (y.R ++ [(500, 9, 2)]).length, left := down (down y.left) } := by unfold sync; simp [hs, hd]
  refine ⟨min (keeps x keep) m, by omega, e3, by unfold spendErr; simp [hs, e1, h30, hz], by rw [hsp]; unfold syncErr; simp [hs, hd], ?_, ?_⟩
  · rw [hsp, hsy]
    show hist (y.R ++ [(500, 9, 2)]) = _
    rw [hist_snoc, e2]
  · rw [hsp, hsy]
    unfold size
    simp [hh]
end Go.Proofs.YtfhpfdlbgmgclajDoor.LogM
