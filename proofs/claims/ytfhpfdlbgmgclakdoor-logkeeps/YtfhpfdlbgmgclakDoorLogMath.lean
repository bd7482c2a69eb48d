/-
  The plain mathematics of a log: its records, what they come to, their bytes, and what each call leaves. No Go here.
-/
import Derived.Test.YtfhpfdlbgmgclakDoorVaultMath
namespace Go.Proofs.YtfhpfdlbgmgclakDoor.LogM

/-- A record: its number, its until, its now. -/
abbrev Rec := Int × Int × Int
def err (L : List (Int × Int)) (r : Rec) : Int := SpentM.spendErr L r.1 r.2.1 r.2.2
def next (L : List (Int × Int)) (r : Rec) : List (Int × Int) := VaultM.next L r.1 r.2.1 r.2.2
/-- What some records come to. -/
def hist (R : List Rec) : List (Int × Int) := R.foldl next []
theorem hist_nil : hist [] = [] := rfl
theorem hist_snoc (R : List Rec) (r : Rec) : hist (R ++ [r]) = next (hist R) r := by simp [hist]
theorem hist_good (R : List Rec) : SpentM.Good (hist R) := by
  suffices h : ∀ (R : List Rec) (L : List (Int × Int)), SpentM.Good L → SpentM.Good (R.foldl next L) from h R [] VaultM.nil_good
  intro R
  induction R with
  | nil => exact fun L h => h
  | cons r R ih => exact fun L h => ih _ (VaultM.next_good h)
theorem hist_len (R : List Rec) : (hist R).length ≤ 16 := (hist_good R).1
theorem err_rest (R : List Rec) (r : Rec) : err (hist R) r = SpentM.restErr (hist R) r.1 r.2.1 r.2.2 := VaultM.err_rest (hist_good R)
theorem next_yes {L : List (Int × Int)} {r : Rec} (h : err L r = 0) : next L r = SpentM.spend L r.1 r.2.1 r.2.2 := VaultM.next_yes h
theorem next_no {L : List (Int × Int)} {r : Rec} (h : ¬ err L r = 0) : next L r = L := VaultM.next_no h

/-- A number that three bytes hold. -/
def Fits (r : Rec) : Prop := (0 ≤ r.1 ∧ r.1 < 16777216) ∧ (0 ≤ r.2.1 ∧ r.2.1 < 16777216) ∧ (0 ≤ r.2.2 ∧ r.2.2 < 16777216)
theorem err_fits {R : List Rec} {r : Rec} (h : err (hist R) r = 0) : Fits r := by
  rw [err_rest] at h
  obtain ⟨⟨h1, h2, h3⟩, _⟩ := SpentM.rest_zero.1 h
  rw [TagM.inB_iff] at h1
  rw [TokenM.timeB_iff] at h2 h3
  unfold Fits
  omega
/-- The bytes of a record. -/
def enc (r : Rec) : List Int := [r.1 % 256, r.1 / 256 % 256, r.1 / 65536, r.2.1 % 256, r.2.1 / 256 % 256, r.2.1 / 65536, r.2.2 % 256, r.2.2 / 256 % 256, r.2.2 / 65536]
def half (r : Rec) : List Int := (enc r).take 4
def bytes (R : List Rec) : List Int := R.flatMap enc
theorem enc_length (r : Rec) : (enc r).length = 9 := rfl
theorem half_length (r : Rec) : (half r).length = 4 := rfl
theorem bytes_nil : bytes [] = [] := rfl
theorem bytes_snoc (R : List Rec) (r : Rec) : bytes (R ++ [r]) = bytes R ++ enc r := by simp [bytes]
theorem bytes_length (R : List Rec) : (bytes R).length = 9 * R.length := by
  induction R with
  | nil => rfl
  | cons r R ih => simp only [bytes, List.flatMap_cons, List.length_append, enc_length, List.length_cons] at ih ⊢; rw [ih]; omega
theorem bytes_append (A B : List Rec) : bytes (A ++ B) = bytes A ++ bytes B := by simp [bytes]
theorem bytes_take (R : List Rec) (k : Nat) (hk : k ≤ R.length) : (bytes R).take (9 * k) = bytes (R.take k) := by
  have h := bytes_append (R.take k) (R.drop k)
  rw [List.take_append_drop] at h
  rw [h, List.take_append_of_le_length (by rw [bytes_length, List.length_take, Nat.min_eq_left hk]; exact Nat.le_refl _), List.take_of_length_le (by rw [bytes_length, List.length_take, Nat.min_eq_left hk]; exact Nat.le_refl _)]
theorem bytes_at (R : List Rec) : ∀ (k j : Nat), k < R.length → j < 9 → (bytes R)[9 * k + j]? = (enc (R.getD k (0, 0, 0)))[j]? := by
  induction R with
  | nil => intro k j hk; simp at hk
  | cons r R ih =>
    intro k j hk hj
    have hb : bytes (r :: R) = enc r ++ bytes R := by simp [bytes]
    rw [hb]
    cases k with
    | zero => rw [List.getElem?_append_left (by rw [enc_length]; omega)]; simp
    | succ k =>
      rw [List.getElem?_append_right (by rw [enc_length]; omega), enc_length, show 9 * (k + 1) + j - 9 = 9 * k + j by omega, ih k j (by simpa using hk) hj]
      simp
theorem take_snoc {R : List Rec} {k : Nat} (h : k < R.length) : R.take (k + 1) = R.take k ++ [R.getD k (0, 0, 0)] := by
  rw [List.take_succ_eq_append_getElem h]; simp [List.getD, h]

/-- Each went well behind those ahead of it. -/
def Well (R : List Rec) : Prop := ∀ k, k < R.length → err (hist (R.take k)) (R.getD k (0, 0, 0)) = 0
theorem well_nil : Well [] := fun k hk => by simp at hk
theorem Well.take {R : List Rec} (h : Well R) (n : Nat) : Well (R.take n) := by
  intro k hk
  have hk' : k < n ∧ k < R.length := by simpa [Nat.lt_min] using hk
  have := h k hk'.2
  rw [List.take_take, Nat.min_eq_left (by omega)]
  have e : (R.take n).getD k (0, 0, 0) = R.getD k (0, 0, 0) := by simp [List.getD, hk'.1]
  rw [e]
  exact this
theorem Well.snoc {R : List Rec} {r : Rec} (h : Well R) (hr : err (hist R) r = 0) : Well (R ++ [r]) := by
  intro k hk
  by_cases hl : k < R.length
  · rw [List.take_append_of_le_length (by omega)]
    have e : (R ++ [r]).getD k (0, 0, 0) = R.getD k (0, 0, 0) := by simp [List.getD, List.getElem?_append_left hl]
    rw [e]
    exact h k hl
  · obtain rfl : k = R.length := by simp at hk; omega
    rw [List.take_append_of_le_length (Nat.le_refl _), List.take_of_length_le (Nat.le_refl _)]
    have e : (R ++ [r]).getD R.length (0, 0, 0) = r := by simp [List.getD]
    rw [e]
    exact hr
theorem Well.fits {R : List Rec} (h : Well R) : ∀ k, k < R.length → Fits (R.getD k (0, 0, 0)) := fun k hk => err_fits (h k hk)

/-- A log: its records, half a one behind them, how many are safe, when it stops, whether it has. -/
structure St where
  R : List Rec
  h : List Int
  s : Nat
  left : Int
  stop : Bool
def new : St := ⟨[], [], 0, -1, false⟩
structure Good (x : St) : Prop where
  well : Well x.R
  len : x.R.length ≤ 30
  safe : x.s ≤ x.R.length
  half : x.h.length ≤ 4
  whole : x.stop = false → x.h = []
  lo : -9223372036854775808 ≤ x.left
  hi : x.left ≤ 9223372036854775807
theorem new_good : Good new := ⟨well_nil, by simp [new], by simp [new], by simp [new], fun _ => rfl, by simp [new], by simp [new]⟩
/-- How many bytes there are. -/
def size (x : St) : Nat := 9 * x.R.length + x.h.length
/-- Behind a step that did not stop it. -/
def down (n : Int) : Int := if 0 < n then n - 1 else n
theorem down_pos {n : Int} (h : 0 < n) : down n = n - 1 := if_pos h
theorem down_neg {n : Int} (h : ¬ 0 < n) : down n = n := if_neg h
theorem down_lo {n : Int} (h : -9223372036854775808 ≤ n) : -9223372036854775808 ≤ down n := by unfold down; split <;> omega
theorem down_hi {n : Int} (h : n ≤ 9223372036854775807) : down n ≤ 9223372036854775807 := by unfold down; split <;> omega
def spendErr (x : St) (r : Rec) : Int :=
  if x.stop = true then 6 else if ¬ err (hist x.R) r = 0 then err (hist x.R) r else if x.R.length = 30 then 4 else if x.left = 0 then 6 else 0
def spend (x : St) (r : Rec) : St :=
  if x.stop = true then x else if ¬ err (hist x.R) r = 0 then x else if x.R.length = 30 then x else if x.left = 0 then { x with h := half r, stop := true } else { x with R := x.R ++ [r], left := down x.left }
def syncErr (x : St) : Int := if x.stop = true then 6 else if x.left = 0 then 6 else 0
def sync (x : St) : St := if x.stop = true then x else if x.left = 0 then { x with stop := true } else { x with s := x.R.length, left := down x.left }
def fail (x : St) (n : Int) : St := { x with left := n }
/-- How many records are left behind a crash. -/
def keeps (x : St) (keep : Int) : Nat := (9 * x.s + (min (max keep 0) ((size x : Int) - 9 * x.s)).toNat) / 9
def crash (x : St) (keep : Int) : St := ⟨x.R.take (keeps x keep), [], keeps x keep, -1, false⟩
theorem size_le {x : St} (h : Good x) : 9 * x.s ≤ size x := by have := h.safe; unfold size; omega
theorem keeps_le {x : St} (h : Good x) (keep : Int) : keeps x keep ≤ x.R.length := by
  have h1 := h.safe
  have h2 := h.half
  unfold keeps size
  omega
theorem keeps_ge (x : St) (keep : Int) : x.s ≤ keeps x keep := by unfold keeps; omega
theorem spend_good {x : St} (h : Good x) (r : Rec) : Good (spend x r) := by
  unfold spend
  split
  · exact h
  · split
    · exact h
    · split
      · exact h
      · split
        · exact ⟨h.well, h.len, h.safe, by simp [half_length], fun q => by simp at q, h.lo, h.hi⟩
        · rename_i h1 h2 h3 h4
          refine ⟨h.well.snoc (by simpa using h2), ?_, ?_, h.half, h.whole, down_lo h.lo, down_hi h.hi⟩
          · have := h.len; simp; omega
          · have := h.safe; simp; omega
theorem sync_good {x : St} (h : Good x) : Good (sync x) := by
  unfold sync
  split
  · exact h
  · split
    · exact ⟨h.well, h.len, h.safe, h.half, fun q => by simp at q, h.lo, h.hi⟩
    · exact ⟨h.well, h.len, Nat.le_refl _, h.half, h.whole, down_lo h.lo, down_hi h.hi⟩
theorem fail_good {x : St} (h : Good x) {n : Int} (h1 : -9223372036854775808 ≤ n) (h2 : n ≤ 9223372036854775807) : Good (fail x n) := ⟨h.well, h.len, h.safe, h.half, h.whole, h1, h2⟩
theorem crash_good {x : St} (h : Good x) (keep : Int) : Good (crash x keep) := by
  have hk := keeps_le h keep
  refine ⟨h.well.take _, ?_, ?_, ?_, fun _ => rfl, by simp [crash], by simp [crash]⟩
  · have := h.len; simp only [crash, List.length_take]; omega
  · simp only [crash, List.length_take]; omega
  · simp [crash]
/-- The five ways of a Spend. -/
theorem spend_ways (x : St) (r : Rec) :
    (x.stop = true ∧ spendErr x r = 6 ∧ spend x r = x) ∨
    (x.stop = false ∧ ¬ err (hist x.R) r = 0 ∧ spendErr x r = err (hist x.R) r ∧ spend x r = x) ∨
    (x.stop = false ∧ err (hist x.R) r = 0 ∧ x.R.length = 30 ∧ spendErr x r = 4 ∧ spend x r = x) ∨
    (x.stop = false ∧ err (hist x.R) r = 0 ∧ ¬ x.R.length = 30 ∧ x.left = 0 ∧ spendErr x r = 6 ∧ spend x r = { x with h := half r, stop := true }) ∨
    (x.stop = false ∧ err (hist x.R) r = 0 ∧ ¬ x.R.length = 30 ∧ ¬ x.left = 0 ∧ spendErr x r = 0 ∧ spend x r = { x with R := x.R ++ [r], left := down x.left }) := by
  unfold spendErr spend
  cases hs : x.stop
  · by_cases h1 : err (hist x.R) r = 0
    · by_cases h2 : x.R.length = 30
      · exact .inr (.inr (.inl ⟨rfl, h1, h2, by simp [h1, h2], by simp [h1, h2]⟩))
      · by_cases h3 : x.left = 0
        · exact .inr (.inr (.inr (.inl ⟨rfl, h1, h2, h3, by simp [h1, h2, h3], by simp [h1, h2, h3]⟩)))
        · exact .inr (.inr (.inr (.inr ⟨rfl, h1, h2, h3, by simp [h1, h2, h3], by simp [h1, h2, h3]⟩)))
    · exact .inr (.inl ⟨rfl, h1, by simp [h1], by simp [h1]⟩)
  · exact .inl ⟨rfl, by simp, by simp⟩
/-- The first Spend of a new one. -/
theorem new_spend (r : Rec) : spendErr new r = err [] r ∧ spend new r = if err [] r = 0 then ⟨[r], [], 0, -1, false⟩ else new := by
  have hd : down (-1) = -1 := by decide
  constructor
  · unfold spendErr
    rw [show new.stop = false from rfl, show hist new.R = [] from rfl]
    by_cases h : err [] r = 0 <;> simp [h, new]
  · unfold spend
    rw [show new.stop = false from rfl, show hist new.R = [] from rfl]
    by_cases h : err [] r = 0 <;> simp [h, new, hd]
/-- Spent again at once. -/
theorem again_spend {r : Rec} (h : err [] r = 0) : spendErr ⟨[r], [], 0, -1, false⟩ r = 7 ∧ spend ⟨[r], [], 0, -1, false⟩ r = ⟨[r], [], 0, -1, false⟩ := by
  have e : err (hist [r]) r = 7 := by
    rw [show hist [r] = next [] r from rfl, show next [] r = VaultM.next [] r.1 r.2.1 r.2.2 from rfl, VaultM.first h]
    exact VaultM.again h
  constructor
  · unfold spendErr; simp [e]
  · unfold spend; simp [e]
end Go.Proofs.YtfhpfdlbgmgclakDoor.LogM
