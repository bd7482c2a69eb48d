/-
  The plain mathematics of numbers that come again: a window that was tried with them, and a vault and a log where they were spent. No Go here.
-/
import Derived.Test.YtfhpfdlbgmgclakDoorLogMath
import Derived.Test.YtfhpfdlbgmgclakDoorWindowMath
namespace Go.Proofs.YtfhpfdlbgmgclakDoor.ReplayM

/-- A window that some numbers were tried with. -/
def Win (t B : Int) (had : List Int) : Prop := ∃ l, WinM.Inv t B l ∧ ∀ m ∈ had, m ∈ l ∨ m ≤ t - 32
theorem win_new : Win (-1) 0 [] := ⟨[], WinM.inv_new, by simp⟩
theorem Win.right {t B : Int} {had : List Int} (h : Win t B had) : WinM.fault t B = 0 := by
  obtain ⟨l, hi, _⟩ := h
  exact WinM.fault_zero.2 hi.right
theorem Win.had {t B n : Int} {had : List Int} (h : Win t B had) (hn : n ∈ had) : ¬ WinM.restErr t B n = 0 := by
  intro h0
  obtain ⟨l, hi, hl⟩ := h
  rcases hl n hn with q | q
  · exact WinM.inv_had hi h0 q
  · obtain ⟨_, q2 | ⟨q2, _⟩⟩ := WinM.rest_zero h0 <;> omega
theorem Win.take {t B n : Int} {had : List Int} (h : Win t B had) (h0 : WinM.restErr t B n = 0) : Win (WinM.top t n) (WinM.bitsOf t B n : Nat) (had ++ [n]) := by
  obtain ⟨l, hi, hl⟩ := h
  refine ⟨l ++ [n], WinM.inv_take hi h0, fun m hm => ?_⟩
  rcases List.mem_append.1 hm with hm | hm
  · rcases hl m hm with q | q
    · exact .inl (List.mem_append_left _ q)
    · right
      unfold WinM.top
      split <;> omega
  · exact .inl (List.mem_append_right _ hm)
theorem Win.no {t B n : Int} {had : List Int} (h : Win t B had) (h0 : ¬ WinM.restErr t B n = 0) (h1 : 0 ≤ n) (h2 : n ≤ 100000) : Win t B (had ++ [n]) := by
  obtain ⟨l, hi, hl⟩ := h
  refine ⟨l, hi, fun m hm => ?_⟩
  rcases List.mem_append.1 hm with hm | hm
  · exact hl m hm
  · obtain rfl : m = n := by simpa using hm
    by_cases q : t - 32 < m
    · exact .inl (WinM.inv_near hi h0 h1 h2 q).1
    · exact .inr (by omega)

theorem nodup_le : ∀ (l m : List Int), l.Nodup → (∀ x ∈ l, x ∈ m) → l.length ≤ m.length
  | [], _, _, _ => by simp
  | x :: l, m, hn, hs => by
    rw [List.nodup_cons] at hn
    have hx : x ∈ m := hs x List.mem_cons_self
    have h := nodup_le l (m.erase x) hn.2 (fun y hy => (List.mem_erase_of_ne (by rintro rfl; exact hn.1 hy)).2 (hs y (List.mem_cons_of_mem _ hy)))
    rw [List.length_erase_of_mem hx] at h
    have := List.length_pos_of_mem hx
    simp only [List.length_cons]
    omega
/-- What is spent, of some numbers, where those were tried. -/
structure Sp (nums had : List Int) (D : List (Int × Int)) : Prop where
  till : ∀ s ∈ D, s.2 = 50 ∧ s.1 ∈ nums
  had : ∀ m, m ∈ had ↔ m ∈ D.map Prod.fst
  good : SpentM.Good D
theorem sp_new (nums : List Int) : Sp nums [] [] := ⟨by simp, by simp, VaultM.nil_good⟩
theorem Sp.left {nums had : List Int} {D : List (Int × Int)} (h : Sp nums had D) : SpentM.left D 1 = D := by
  unfold SpentM.left
  rw [List.filter_eq_self]
  intro s hs
  have := (h.till s hs).1
  simp; omega
theorem Sp.again {nums had : List Int} {D : List (Int × Int)} {n : Int} (h : Sp nums had D) (hn : n ∈ had) : SpentM.spendErr D n 50 1 = 7 ∧ VaultM.next D n 50 1 = D ∧ Sp nums (had ++ [n]) D := by
  have hm := (h.had n).1 hn
  obtain ⟨s, hs, he⟩ := List.mem_map.1 hm
  have ht := (h.till s hs).1
  have e : SpentM.spendErr D n 50 1 = 7 := by
    refine SpentM.again_there h.good (till := 50) ?_ (by decide) (by omega)
    obtain ⟨s1, s2⟩ := s
    dsimp only at he ht
    subst he ht
    exact hs
  refine ⟨e, VaultM.next_no (by omega), h.till, fun m => ?_, h.good⟩
  rw [← h.had m]
  constructor
  · intro q
    rcases List.mem_append.1 q with q | q
    · exact q
    · simp at q; subst q; exact hn
  · exact fun q => List.mem_append_left _ q
theorem Sp.first {nums had : List Int} {D : List (Int × Int)} {n : Int} (h : Sp nums had D) (hl : nums.length ≤ 16) (hm : n ∈ nums) (h0 : 0 ≤ n) (h1 : n < 999983) (hn : ¬ n ∈ had) :
    SpentM.spendErr D n 50 1 = 0 ∧ VaultM.next D n 50 1 = D ++ [(n, 50)] ∧ Sp nums (had ++ [n]) (D ++ [(n, 50)]) := by
  have hd : ¬ n ∈ D.map Prod.fst := fun q => hn ((h.had n).2 q)
  have hlen : D.length + 1 ≤ 16 := by
    have q := nodup_le (n :: D.map Prod.fst) nums (List.nodup_cons.2 ⟨hd, h.good.2.2⟩) (fun x hx => by
      rcases List.mem_cons.1 hx with rfl | hx
      · exact hm
      · obtain ⟨s, hs, rfl⟩ := List.mem_map.1 hx
        exact (h.till s hs).2)
    simp at q
    omega
  have e : SpentM.spendErr D n 50 1 = 0 := by
    rw [VaultM.err_rest h.good, SpentM.rest_zero, h.left]
    exact ⟨⟨(TagM.inB_iff n).2 ⟨h0, h1⟩, by decide, by decide⟩, by omega, by rw [SpentM.hasB_iff]; exact hd, by omega⟩
  have en : VaultM.next D n 50 1 = D ++ [(n, 50)] := by rw [VaultM.next_yes e, SpentM.spend_ok e, h.left]
  refine ⟨e, en, ?_, ?_, by rw [← en]; exact VaultM.next_good h.good⟩
  · intro s hs
    rcases List.mem_append.1 hs with hs | hs
    · exact h.till s hs
    · simp at hs; subst hs; exact ⟨rfl, hm⟩
  · intro m
    simp only [List.mem_append, List.map_append, List.map_cons, List.map_nil, List.mem_singleton]
    rw [h.had m]
theorem Sp.len {nums had : List Int} {D : List (Int × Int)} (h : Sp nums had D) : D.length ≤ 16 := h.good.1
/-- A log where these were spent, that was told nothing else. -/
structure Lg (x : LogM.St) (D : List (Int × Int)) : Prop where
  hist : LogM.hist x.R = D
  len : x.R.length = D.length
  stop : x.stop = false
  left : x.left = -1
theorem lg_new : Lg LogM.new [] := ⟨rfl, rfl, rfl, rfl⟩
theorem Lg.again {x : LogM.St} {D : List (Int × Int)} {n : Int} (h : Lg x D) (e : SpentM.spendErr D n 50 1 = 7) : LogM.spendErr x (n, 50, 1) = 7 ∧ LogM.spend x (n, 50, 1) = x := by
  have q : LogM.err (LogM.hist x.R) (n, 50, 1) = 7 := by rw [h.hist]; exact e
  constructor
  · unfold LogM.spendErr; simp [h.stop, q]
  · unfold LogM.spend; simp [h.stop, q]
theorem Lg.first {x : LogM.St} {D : List (Int × Int)} {n : Int} (h : Lg x D) (hl : D.length ≤ 16) (e : SpentM.spendErr D n 50 1 = 0) (en : VaultM.next D n 50 1 = D ++ [(n, 50)]) : LogM.spendErr x (n, 50, 1) = 0 ∧ Lg (LogM.spend x (n, 50, 1)) (D ++ [(n, 50)]) := by
  have q : LogM.err (LogM.hist x.R) (n, 50, 1) = 0 := by rw [h.hist]; exact e
  have h30 : ¬ x.R.length = 30 := by rw [h.len]; omega
  have hz : ¬ x.left = 0 := by rw [h.left]; omega
  have hs : LogM.spend x (n, 50, 1) = { x with R := x.R ++ [(n, 50, 1)], left := LogM.down x.left } := by unfold LogM.spend; simp [h.stop, q, h30, hz]
  refine ⟨by unfold LogM.spendErr; simp [h.stop, q, h30, hz], ?_⟩
  rw [hs]
  refine ⟨?_, by simp [h.len], h.stop, by show LogM.down x.left = -1; rw [h.left]; decide⟩
  show LogM.hist (x.R ++ [(n, 50, 1)]) = _
  rw [LogM.hist_snoc, h.hist]
  exact en
end Go.Proofs.YtfhpfdlbgmgclakDoor.ReplayM
