/-
  Texts joined: VaultMath Pairs.
-/
import Derived.Test.YthaicpepgianpakGreatDoorSpentMath
import Derived.Test.YthaicpepgianpakGreatDoorJoinedBase
namespace Go.Proofs.YthaicpepgianpakGreatDoor.VaultM

/-- What is there behind a Spend: as it was, where it was refused. -/
def next (L : List (Int × Int)) (n till now : Int) : List (Int × Int) := if SpentM.spendErr L n till now = 0 then SpentM.spend L n till now else L
theorem next_yes {L : List (Int × Int)} {n till now : Int} (h : SpentM.spendErr L n till now = 0) : next L n till now = SpentM.spend L n till now := if_pos h
theorem next_no {L : List (Int × Int)} {n till now : Int} (h : ¬ SpentM.spendErr L n till now = 0) : next L n till now = L := if_neg h
theorem nil_good : SpentM.Good [] := ⟨by simp, by simp, by simp⟩
theorem next_good {L : List (Int × Int)} {n till now : Int} (h : SpentM.Good L) : SpentM.Good (next L n till now) := by
  by_cases he : SpentM.spendErr L n till now = 0
  · rw [next_yes he]; exact SpentM.spend_good he
  · rw [next_no he]; exact h
theorem err_rest {L : List (Int × Int)} {n till now : Int} (h : SpentM.Good L) : SpentM.spendErr L n till now = SpentM.restErr L n till now := by
  unfold SpentM.spendErr; rw [if_pos (SpentM.err_zero.2 h)]
theorem hasErr_good {L : List (Int × Int)} {n : Int} (h : SpentM.Good L) : SpentM.hasErr L n = if TagM.inB n = true then 0 else 1 := by
  unfold SpentM.hasErr; rw [if_pos (SpentM.err_zero.2 h)]
theorem has_good {L : List (Int × Int)} {n : Int} (h : SpentM.Good L) : SpentM.has L n = (TagM.inB n && SpentM.hasB L n) := by
  unfold SpentM.has
  rw [hasErr_good h]
  cases TagM.inB n <;> simp
/-- The first that is spent. -/
theorem first {n till now : Int} (h : SpentM.spendErr [] n till now = 0) : next [] n till now = [(n, till)] := by
  rw [next_yes h, SpentM.spend_ok h]; rfl
theorem first_zero {n till now : Int} : SpentM.spendErr [] n till now = 0 ↔ (TagM.inB n = true ∧ TokenM.timeB till = true ∧ TokenM.timeB now = true) ∧ now ≤ till := by
  rw [err_rest nil_good, SpentM.rest_zero]
  constructor
  · intro h; exact ⟨h.1, h.2.1⟩
  · intro h; exact ⟨h.1, h.2, by simp [SpentM.left, SpentM.hasB], by simp [SpentM.left]⟩
theorem one_good {n till now : Int} (h : SpentM.spendErr [] n till now = 0) : SpentM.Good [(n, till)] := by
  rw [← first h]; exact next_good nil_good
theorem one_left {n till now : Int} (h : now ≤ till) : SpentM.left [(n, till)] now = [(n, till)] := by
  simp [SpentM.left, h]
/-- A second one. -/
theorem second {n m till now : Int} (h : SpentM.spendErr [] n till now = 0) (hm : TagM.inB m = true) (hne : ¬ m = n) : SpentM.spendErr [(n, till)] m till now = 0 ∧ next [(n, till)] m till now = [(n, till), (m, till)] := by
  obtain ⟨⟨_, h2, h3⟩, h4⟩ := first_zero.1 h
  have h0 : SpentM.spendErr [(n, till)] m till now = 0 := by
    rw [err_rest (one_good h), SpentM.rest_zero, one_left h4]
    refine ⟨⟨hm, h2, h3⟩, h4, ?_, by simp⟩
    simp [SpentM.hasB]
    exact fun e => hne e.symm
  exact ⟨h0, by rw [next_yes h0, SpentM.spend_ok h0, one_left h4]; rfl⟩
theorem again {n till now : Int} (h : SpentM.spendErr [] n till now = 0) : SpentM.spendErr [(n, till)] n till now = 7 := by
  obtain ⟨⟨_, _, h3⟩, h4⟩ := first_zero.1 h
  exact SpentM.again_there (one_good h) (by simp) h3 h4
theorem out {n m till now : Int} (h : SpentM.spendErr [] n till now = 0) (hm : TagM.inB m = false) : SpentM.spendErr [(n, till)] m till now = 1 := by
  rw [err_rest (one_good h)]
  unfold SpentM.restErr
  rw [if_neg (by rw [hm]; simp)]
end Go.Proofs.YthaicpepgianpakGreatDoor.VaultM
namespace Go.Proofs.YthaicpepgianpakGreatDoor
open Go.RowKit

/-- A slice of pairs that reads as 'l' (its elements up to its length). -/
def Pairs (w : World) (a : Option Addr) (l : List (Int × Int)) : Prop :=
  ∀ k, k < l.length → ∃ b off, a = some ⟨b, off, none⟩ ∧ w.cell? ⟨b, off + k * 2, none⟩ = some (.int .i64 (l.getD k (0, 0)).1) ∧ w.cell? ⟨b, off + k * 2 + 1, none⟩ = some (.int .i64 (l.getD k (0, 0)).2)
theorem Pairs.later {w w' : World} {a : Option Addr} {l : List (Int × Int)} (h : Pairs w a l) (hb : Below w.heap.size w w') : Pairs w' a l :=
  fun k hk => by obtain ⟨b, off, e, h1, h2⟩ := h k hk; exact ⟨b, off, e, cell_later hb h1, cell_later hb h2⟩
theorem nil_pairs (w : World) (a : Option Addr) : Pairs w a [] := fun k hk => by simp at hk
theorem Pairs.take {w : World} {a : Option Addr} {l : List (Int × Int)} (h : Pairs w a l) (n : Nat) : Pairs w a (l.take n) := fun k hk => by
  have hk' : k < n ∧ k < l.length := by simpa [Nat.lt_min] using hk
  obtain ⟨b, off, e, h1, h2⟩ := h k hk'.2
  have : (l.take n).getD k (0, 0) = l.getD k (0, 0) := by simp [List.getD, hk'.1]
  rw [this]
  exact ⟨b, off, e, h1, h2⟩
theorem Pairs.row {w : World} {a : Option Addr} {l : List (Int × Int)} (h : Pairs w a l) (hz : 0 < l.length) :
    ∃ b off, a = some ⟨b, off, none⟩ ∧ b < w.heap.size ∧ ∀ k, k < l.length → w.cell? ⟨b, off + k * 2, none⟩ = some (.int .i64 (l.getD k (0, 0)).1) ∧ w.cell? ⟨b, off + k * 2 + 1, none⟩ = some (.int .i64 (l.getD k (0, 0)).2) := by
  obtain ⟨b, off, rfl, h1, _⟩ := h 0 hz
  refine ⟨b, off, rfl, World.block_lt_of_cell? _ _ h1, fun k hk => ?_⟩
  obtain ⟨b', off', he, hc⟩ := h k hk
  simp only [Option.some.injEq, Addr.mk.injEq] at he
  obtain ⟨rfl, rfl, _⟩ := he
  exact hc

/-- The cells of some pairs, one behind the other. -/
def flat : List (Int × Int) → List Value
  | [] => []
  | s :: r => .int .i64 s.1 :: .int .i64 s.2 :: flat r
theorem flat_length (l : List (Int × Int)) : (flat l).length = l.length * 2 := by
  induction l with
  | nil => rfl
  | cons s r ih => simp only [flat, List.length_cons, ih]; omega
theorem flat_append (l m : List (Int × Int)) : flat (l ++ m) = flat l ++ flat m := by
  induction l with
  | nil => rfl
  | cons s r ih => simp [flat, ih]
theorem flat_at (l : List (Int × Int)) : ∀ k, k < l.length → (flat l)[k * 2]? = some (.int .i64 (l.getD k (0, 0)).1) ∧ (flat l)[k * 2 + 1]? = some (.int .i64 (l.getD k (0, 0)).2) := by
  induction l with
  | nil => intro k hk; simp at hk
  | cons s r ih =>
    intro k hk
    cases k with
    | zero => exact ⟨rfl, rfl⟩
    | succ k =>
      have := ih k (by simpa using hk)
      rw [show (k + 1) * 2 = k * 2 + 1 + 1 by omega]
      simpa [flat] using this
theorem flat_one (l : List (Int × Int)) : ∀ u ∈ flat l, u.oneCell' = true := by
  induction l with
  | nil => simp [flat]
  | cons s r ih =>
    intro u hu
    simp only [flat, List.mem_cons] at hu
    rcases hu with rfl | rfl | hu
    · rfl
    · rfl
    · exact ih u hu
theorem own_later {w w' : World} {base n : Nat} {e : TypeId} {size : Nat} {v : Value} {xs : List Value} (h : w.ownsRow base e size v n xs) (hb : Below w.heap.size w w') : w'.ownsRow base e size v n xs := by
  refine ⟨h.1, ?_⟩
  rcases h.2 with h0 | ⟨g, cap, cur, h1, h2, h3, h4⟩
  · exact .inl h0
  · refine .inr ⟨g, cap, cur, h1, h2, ?_, h4⟩
    rw [hb.block g (by obtain ⟨hlt, _⟩ := Array.getElem?_eq_some_iff.1 h3; exact hlt)]
    exact h3
theorem own_base {w : World} {base base' n : Nat} {e : TypeId} {size : Nat} {v : Value} {xs : List Value} (h : w.ownsRow base e size v n xs) (hb : base' ≤ base) : w.ownsRow base' e size v n xs := by
  refine ⟨h.1, ?_⟩
  rcases h.2 with h0 | ⟨g, cap, cur, h1, h2, h4⟩
  · exact .inl h0
  · exact .inr ⟨g, cap, cur, h1, Nat.le_trans hb h2, h4⟩

/-- A slice, with its length and capacity, that reads as 'l'. -/
def PRow (w : World) (a : Option Addr) (len cap : Nat) (l : List (Int × Int)) : Prop := l.length = len ∧ len ≤ cap ∧ Pairs w a l
theorem PRow.later {w w' : World} {a : Option Addr} {len cap : Nat} {l : List (Int × Int)} (h : PRow w a len cap l) (hb : Below w.heap.size w w') : PRow w' a len cap l := ⟨h.1, h.2.1, h.2.2.later hb⟩
theorem PRow.take {w : World} {a : Option Addr} {len cap : Nat} {l : List (Int × Int)} (h : PRow w a len cap l) {k : Nat} (hk : k ≤ len) : PRow w a k cap (l.take k) :=
  ⟨by rw [List.length_take, h.1, Nat.min_eq_left hk], Nat.le_trans hk h.2.1, h.2.2.take k⟩
theorem nil_row (w : World) : PRow w none 0 0 [] := ⟨rfl, Nat.le_refl _, nil_pairs w none⟩
theorem own_row {w : World} {base n : Nat} {e : TypeId} {v : Value} {l : List (Int × Int)} (h : w.ownsRow base e 2 v n (flat l)) :
    ∃ a cap, v = .slice a n cap ∧ PRow w a n cap l := by
  have hn : l.length = n := by have := h.1; rw [flat_length] at this; omega
  subst hn
  rcases h.2 with ⟨rfl, h0⟩ | ⟨g, cap, cur, rfl, _, _, hle, _⟩
  · have : l = [] := List.length_eq_zero_iff.1 h0
    subst this
    exact ⟨none, 0, rfl, nil_row w⟩
  · refine ⟨_, cap, rfl, rfl, hle, fun k hk => ⟨g, 0, rfl, ?_⟩⟩
    obtain ⟨f1, f2⟩ := flat_at l k hk
    rw [← f1, ← f2, Nat.zero_add]
    exact ⟨h.cellAt _ (by omega), h.cellAt _ (by omega)⟩
/-- A slice that lies in new memory, if it lies anywhere. -/
def NewRow (B : Nat) (a : Option Addr) : Prop := ∀ g off, a = some ⟨g, off, none⟩ → B ≤ g
theorem nil_new (B : Nat) : NewRow B none := fun _ _ h => by cases h
theorem own_new {w : World} {base n : Nat} {e : TypeId} {v : Value} {l : List (Int × Int)} (h : w.ownsRow base e 2 v n (flat l)) :
    ∃ a cap, v = .slice a n cap ∧ PRow w a n cap l ∧ NewRow base a := by
  obtain ⟨a, cap, e1, hp⟩ := own_row h
  refine ⟨a, cap, e1, hp, fun g off ha => ?_⟩
  rcases h.2 with ⟨h0, _⟩ | ⟨g', cap', cur, h0, h1, _⟩
  · rw [e1, ha] at h0; cases h0
  · rw [e1, ha] at h0; cases h0; exact h1
/-- A slice that lies in a block of this type, if it lies anywhere. -/
def BlkOf (T : TypeId) (w : World) (a : Option Addr) : Prop := ∀ g off, a = some ⟨g, off, none⟩ → ∃ cs fr, w.heap[g]? = some (.cells cs T fr)
theorem nil_blk (T : TypeId) (w : World) : BlkOf T w none := fun _ _ h => by cases h
theorem own_blk {w : World} {base n size m c : Nat} {e : TypeId} {a : Option Addr} {xs : List Value} (h : w.ownsRow base e size (.slice a m c) n xs) : BlkOf e w a := by
  intro g off ha
  rcases h.2 with ⟨h0, _⟩ | ⟨g', cap', cur, h0, _, h1, _⟩
  · rw [ha] at h0; cases h0
  · rw [ha] at h0
    simp only [Value.slice.injEq, Option.some.injEq, Addr.mk.injEq] at h0
    obtain ⟨⟨rfl, _⟩, _⟩ := h0
    exact ⟨cur, (0, 0), h1⟩
theorem BlkOf.later {T : TypeId} {w w' : World} {a : Option Addr} (h : BlkOf T w a) (hb : Below w.heap.size w w') : BlkOf T w' a := fun g off ha => by
  obtain ⟨cs, fr, hh⟩ := h g off ha
  exact ⟨cs, fr, (hb.block g (Array.getElem?_eq_some_iff.1 hh).1).trans hh⟩
/-- What an append of one leaves, said of lists. -/
theorem own_snoc {B n : Nat} {e : TypeId} {w W w1 : World} {v v' : Value} {l : List (Int × Int)} {x t : Int} (hown : W.ownsRow B e 2 v n (flat l)) (hb : Below B w W) (hB : B ≤ W.heap.size)
    (hown' : w1.ownsRow B e 2 v' (n + 1) (flat l ++ [.int .i64 x, .int .i64 t])) (hgrow : W.grownBy w1 v.ownBlock) :
    w1.ownsRow B e 2 v' (n + 1) (flat (l ++ [(x, t)])) ∧ Below B w w1 :=
  ⟨by rw [flat_append]; exact hown', hb.grown hgrow hB (fun k hk => (hown.lt k hk).1)⟩

/-- The frame's own word for a slice of pairs that came in, as a list. -/
theorem row_pairs {w : World} {a : Option Addr} {len cap : Nat} {zs : List (Int × Int)}
    (h : (a = none ∧ len = 0 ∧ cap = 0 ∧ zs = []) ∨ ∃ x, a = some x ∧ len ≤ cap ∧ cap ≤ maxLen ∧ zs.length = cap ∧ ∀ i, i < cap → w.cell? (x.add (i * 2)) = some (.int .i64 (zs.getD i (0, 0)).1) ∧ w.cell? (x.add (i * 2 + 1)) = some (.int .i64 (zs.getD i (0, 0)).2)) :
    ∃ l : List (Int × Int), PRow w a len cap l := by
  rcases h with ⟨rfl, rfl, rfl, rfl⟩ | ⟨x, rfl, hl, hm, hz, hc⟩
  · exact ⟨[], nil_row w⟩
  · refine ⟨zs.take len, by simp; omega, hl, fun k hk => ?_⟩
    have hk' : k < len ∧ k < zs.length := by simpa [Nat.lt_min] using hk
    obtain ⟨c0, c1⟩ := hc k (by omega)
    obtain ⟨b, off, spot⟩ := x
    have hspot : spot = none := by simpa [Addr.add] using World.cell?_spot (hc 0 (by omega)).1
    subst hspot
    rw [Go.WideShapes.add_plain] at c0 c1
    have : (zs.take len).getD k (0, 0) = zs.getD k (0, 0) := by simp [List.getD, hk'.1]
    rw [this]
    exact ⟨b, off, rfl, c0, c1⟩
end Go.Proofs.YthaicpepgianpakGreatDoor
