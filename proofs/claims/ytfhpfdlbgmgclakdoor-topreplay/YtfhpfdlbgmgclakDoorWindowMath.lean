/-
  The plain mathematics of windows: bits of numbers, what is wrong with a window, what is taken. No Go here but its ways to reckon with bits.
-/
import Derived.Test.YtfhpfdlbgmgclakDoorTokenMath
import Derived.WalkKit
namespace Go.Proofs.YtfhpfdlbgmgclakDoor
open Go.RowKit
namespace WinM

/-- The k-th of the bits of a number. -/
def bit (B : Int) (k : Nat) : Bool := B.toNat.testBit k
/-- What is wrong with a window. -/
def fault (t B : Int) : Int :=
  if t < -1 ∨ 100000 < t ∨ B < 0 ∨ 4294967295 < B then 1
  else if (¬ t = -1 ∧ B % 2 = 0) ∨ ¬ B / 2 ^ (t + 1).toNat = 0 then 3 else 0
def restErr (t B n : Int) : Int :=
  if n < 0 ∨ 100000 < n then 1 else if t < n then 0 else if 32 ≤ t - n then 9 else if bit B (t - n).toNat = true then 7 else 0
def takeErr (t B n : Int) : Int := if fault t B = 0 then restErr t B n else fault t B
def moved (B : Int) (d : Nat) : Nat := (B.toNat * 2 ^ d) % 4294967296 ||| 1
def marked (B : Int) (d : Nat) : Nat := B.toNat ||| 2 ^ d
def top (t n : Int) : Int := if t < n then n else t
def bitsOf (t B n : Int) : Nat := if t < n then moved B (n - t).toNat else marked B (t - n).toNat

/-- A window that is right. -/
structure Right (t B : Int) : Prop where
  lo : -1 ≤ t
  hi : t ≤ 100000
  nn : 0 ≤ B
  lt : B ≤ 4294967295
  own : ¬ t = -1 → B.toNat.testBit 0 = true
  high : ∀ k : Nat, t < k → B.toNat.testBit k = false

theorem lt_of_high {N m : Nat} (h : ∀ k, m ≤ k → N.testBit k = false) : N < 2 ^ m := by
  exact Nat.lt_pow_two_of_testBit N (fun i hi => h i hi)

theorem toNat_div (B : Int) (h : 0 ≤ B) (m : Nat) : (B / 2 ^ m = 0) ↔ B.toNat < 2 ^ m := by
  obtain ⟨N, rfl⟩ := Int.eq_ofNat_of_zero_le h
  have : ((N : Int) / 2 ^ m) = ((N / 2 ^ m : Nat) : Int) := by simp
  rw [this]
  simp only [Int.toNat_natCast, Int.natCast_eq_zero]
  have hp : 0 < 2 ^ m := Nat.two_pow_pos m
  exact Nat.div_eq_zero_iff.trans ⟨fun h => by rcases h with h | h <;> omega, fun h => .inr h⟩

theorem odd_iff (B : Int) (h : 0 ≤ B) : (B.toNat.testBit 0 = true) ↔ ¬ B % 2 = 0 := by
  rw [Nat.testBit_zero]
  simp only [decide_eq_true_eq]
  omega

theorem fault_zero {t B : Int} : fault t B = 0 ↔ Right t B := by
  unfold fault
  constructor
  · intro h
    split at h
    · omega
    · rename_i h1
      split at h
      · omega
      · rename_i h2
        have hB : 0 ≤ B := by omega
        have hd : B.toNat < 2 ^ (t + 1).toNat := (toNat_div B hB _).1 (Classical.byContradiction fun e => h2 (.inr e))
        refine ⟨by omega, by omega, by omega, by omega, fun e => ?_, fun k hk => ?_⟩
        · rw [odd_iff B hB]; exact fun e' => h2 (.inl ⟨e, e'⟩)
        · exact Nat.testBit_lt_two_pow (Nat.lt_of_lt_of_le hd (Nat.pow_le_pow_right (by decide) (by omega)))
  · intro h
    have h1 := h.lo; have h2 := h.hi; have h3 := h.nn; have h4 := h.lt
    rw [if_neg (by omega), if_neg]
    rintro (⟨e, e'⟩ | e)
    · exact (odd_iff B h3).1 (h.own e) e'
    · exact e ((toNat_div B h3 _).2 (lt_of_high fun k hk => h.high k (by omega)))

theorem fault_three {t B : Int} (h : ¬ fault t B = 0) : fault t B = 1 ∨ fault t B = 3 := by
  unfold fault at h ⊢
  split
  · exact .inl rfl
  · split
    · exact .inr rfl
    · rename_i h1 h2; rw [if_neg h1, if_neg h2] at h; exact absurd rfl h

theorem lt32 {B : Int} (h0 : 0 ≤ B) (h1 : B ≤ 4294967295) : B.toNat < 2 ^ 32 := by
  rw [show (2 : Nat) ^ 32 = 4294967296 from rfl]; omega

theorem moved_lt (B : Int) (d : Nat) : moved B d < 2 ^ 32 := by
  unfold moved
  exact Nat.or_lt_two_pow (Nat.mod_lt _ (by decide)) (by decide)
theorem marked_lt {B : Int} {d : Nat} (h0 : 0 ≤ B) (h1 : B ≤ 4294967295) (hd : d < 32) : marked B d < 2 ^ 32 := by
  unfold marked
  exact Nat.or_lt_two_pow (lt32 h0 h1) (Nat.pow_lt_pow_right (by decide) hd)

theorem one_testBit (k : Nat) : Nat.testBit 1 k = decide (k = 0) := by
  cases k with
  | zero => rfl
  | succ k => simp [Nat.testBit_succ]

theorem moved_bit (B : Int) (d k : Nat) : (moved B d).testBit k = ((decide (k < 32) && (decide (d ≤ k) && bit B (k - d))) || decide (k = 0)) := by
  unfold moved bit
  rw [Nat.testBit_or, one_testBit, show (4294967296 : Nat) = 2 ^ 32 from rfl, Nat.testBit_mod_two_pow, Nat.testBit_mul_two_pow]
theorem marked_bit (B : Int) (d k : Nat) : (marked B d).testBit k = (bit B k || decide (d = k)) := by
  unfold marked bit
  rw [Nat.testBit_or, Nat.testBit_two_pow]

/-- It stays right. -/
theorem take_right {t B n : Int} (h : Right t B) (hn : 0 ≤ n ∧ n ≤ 100000) (hl : t < n ∨ t - n < 32) : Right (top t n) (bitsOf t B n : Nat) := by
  have h1 := h.lo; have h2 := h.hi
  unfold top bitsOf
  by_cases ht : t < n
  · rw [if_pos ht, if_pos ht]
    have hm := moved_lt B (n - t).toNat
    rw [show (2 : Nat) ^ 32 = 4294967296 from rfl] at hm
    refine ⟨by omega, by omega, by omega, by omega, fun _ => ?_, fun k hk => ?_⟩
    · rw [Int.toNat_natCast, moved_bit]; simp
    · rw [Int.toNat_natCast, moved_bit]
      have e0 : decide (k = 0) = false := by simp; omega
      have e1 : bit B (k - (n - t).toNat) = false := h.high _ (by omega)
      rw [e0, e1]; simp
  · rw [if_neg ht, if_neg ht]
    have hm := marked_lt (d := (t - n).toNat) h.nn h.lt (by omega)
    rw [show (2 : Nat) ^ 32 = 4294967296 from rfl] at hm
    refine ⟨by omega, by omega, by omega, by omega, fun e => ?_, fun k hk => ?_⟩
    · rw [Int.toNat_natCast, marked_bit, show bit B 0 = true from h.own e]; rfl
    · rw [Int.toNat_natCast, marked_bit, show bit B k = false from h.high k hk]; simp; omega

/-- What the program reckons. -/
theorem wrap_ofInt (z : Int) : BitVec.ofInt 64 (IntKind.i64.wrap z) = BitVec.ofInt 64 z := by
  rw [IntKind.wrap_i64]
  apply BitVec.eq_of_toInt_eq
  rw [BitVec.toInt_ofInt, BitVec.toInt_ofInt, Int.bmod_def, Int.bmod_def]
  simp only [show ((2 ^ 64 : Nat) : Int) = 18446744073709551616 from rfl]
  omega

theorem and_nat (a b : Nat) (ha : a < 2 ^ 63) (hb : b < 2 ^ 63) : bits .and .i64 (a : Int) (b : Int) = ((a &&& b : Nat) : Int) :=
  (bits_nat .i64 63 (by decide) (fun n h0 h1 => by rw [IntKind.wrap_i64]; have : (2 : Int) ^ 63 = 9223372036854775808 := rfl; omega) a b ha hb).1
theorem or_nat (a b : Nat) (ha : a < 2 ^ 63) (hb : b < 2 ^ 63) : bits .or .i64 (a : Int) (b : Int) = ((a ||| b : Nat) : Int) :=
  (bits_nat .i64 63 (by decide) (fun n h0 h1 => by rw [IntKind.wrap_i64]; have : (2 : Int) ^ 63 = 9223372036854775808 := rfl; omega) a b ha hb).2

theorem bits_wrap (op : BinOp) (z y : Int) : bits op .i64 (IntKind.i64.wrap z) y = bits op .i64 z y := by
  unfold bits
  show _ = _
  rw [show BitVec.ofInt IntKind.i64.bits (IntKind.i64.wrap z) = BitVec.ofInt IntKind.i64.bits z from wrap_ofInt z]

theorem mask_any (N : Nat) : bits .and .i64 (N : Int) 4294967295 = ((N % 4294967296 : Nat) : Int) := by
  have e : ((BitVec.ofInt IntKind.i64.bits ((N : Nat) : Int)) &&& (BitVec.ofInt IntKind.i64.bits (((2 ^ 32 - 1 : Nat)) : Int))).toNat = N % 4294967296 := by
    rw [BitVec.toNat_and, BitVec.ofInt_natCast, BitVec.ofInt_natCast, BitVec.toNat_ofNat, BitVec.toNat_ofNat]
    show (N % 2 ^ 64) &&& ((2 ^ 32 - 1) % 2 ^ 64) = _
    rw [show (2 ^ 32 - 1) % 2 ^ 64 = 2 ^ 32 - 1 from rfl, Nat.and_two_pow_sub_one_eq_mod, show (2 : Nat) ^ 64 = 18446744073709551616 from rfl, show (2 : Nat) ^ 32 = 4294967296 from rfl]
    omega
  show IntKind.i64.wrap _ = _
  rw [show (4294967295 : Int) = ((2 ^ 32 - 1 : Nat) : Int) from rfl]
  simp only [e]
  rw [IntKind.wrap_i64]
  omega

theorem pow_cut (N d : Nat) : N * 2 ^ min d 64 % 4294967296 = N * 2 ^ d % 4294967296 := by
  by_cases h : d ≤ 64
  · rw [Nat.min_eq_left h]
  · rw [Nat.min_eq_right (by omega)]
    have e1 : N * 2 ^ 64 = 4294967296 * (N * 2 ^ 32) := by rw [show (4294967296 : Nat) = 2 ^ 32 from rfl, Nat.mul_left_comm, ← Nat.pow_add]
    have e2 : N * 2 ^ d = 4294967296 * (N * 2 ^ (d - 32)) := by rw [show (4294967296 : Nat) = 2 ^ 32 from rfl, Nat.mul_left_comm, ← Nat.pow_add, show 32 + (d - 32) = d by omega]
    rw [e1, e2, Nat.mul_mod_right, Nat.mul_mod_right]

/-- moved's Bits, as the program reckons them. -/
theorem moved_eq {B : Int} (h0 : 0 ≤ B) (d : Nat) : bits .or .i64 (bits .and .i64 (IntKind.i64.wrap (B * 2 ^ min d 64)) 4294967295) 1 = (moved B d : Nat) := by
  obtain ⟨N, rfl⟩ := Int.eq_ofNat_of_zero_le h0
  rw [bits_wrap, show ((N : Int) * 2 ^ min d 64) = ((N * 2 ^ min d 64 : Nat) : Int) by simp, mask_any, pow_cut]
  exact or_nat _ 1 (Nat.lt_of_lt_of_le (Nat.mod_lt _ (by decide)) (by decide)) (by decide)
/-- One bit, as the program reckons it. -/
theorem one_bit {d : Nat} (h : d < 32) : IntKind.i64.wrap (2 ^ d) = ((2 ^ d : Nat) : Int) := by
  have h1 : 2 ^ d ≤ 2 ^ 31 := Nat.pow_le_pow_right (by decide) (by omega)
  have h2 : ((2 : Int) ^ d) = ((2 ^ d : Nat) : Int) := by simp
  rw [h2, IntKind.wrap_i64]
  rw [show (2 : Nat) ^ 31 = 2147483648 from rfl] at h1
  generalize 2 ^ d = q at h1
  omega
theorem bit63 {d : Nat} (h : d < 32) : 2 ^ d < 2 ^ 63 := Nat.pow_lt_pow_right (by decide) (by omega)
theorem marked_eq {B : Int} (h0 : 0 ≤ B) (h1 : B ≤ 4294967295) {d : Nat} (hd : d < 32) : bits .or .i64 B (2 ^ d : Nat) = (marked B d : Nat) := by
  obtain ⟨N, rfl⟩ := Int.eq_ofNat_of_zero_le h0
  exact or_nat N _ (by rw [show (2 : Nat) ^ 63 = 9223372036854775808 from rfl]; omega) (bit63 hd)
theorem came_eq {B : Int} (h0 : 0 ≤ B) (h1 : B ≤ 4294967295) {d : Nat} (hd : d < 32) : (bits .and .i64 B (2 ^ d : Nat) = 0) ↔ bit B d = false := by
  obtain ⟨N, rfl⟩ := Int.eq_ofNat_of_zero_le h0
  rw [and_nat N _ (by rw [show (2 : Nat) ^ 63 = 9223372036854775808 from rfl]; omega) (bit63 hd)]
  unfold bit
  rw [Int.toNat_natCast, Int.natCast_eq_zero]
  constructor
  · intro e
    have h := congrArg (fun x => Nat.testBit x d) e
    simpa [Nat.testBit_and, Nat.testBit_two_pow] using h
  · intro e
    refine Nat.eq_of_testBit_eq fun i => ?_
    rw [Nat.testBit_and, Nat.testBit_two_pow, Nat.zero_testBit]
    by_cases hi : d = i
    · subst hi; rw [e]; rfl
    · simp [hi]
theorem odd_eq {B : Int} (h0 : 0 ≤ B) (h1 : B ≤ 4294967295) : bits .and .i64 B 1 = B % 2 := by
  obtain ⟨N, rfl⟩ := Int.eq_ofNat_of_zero_le h0
  rw [show (1 : Int) = ((1 : Nat) : Int) from rfl, and_nat N 1 (by rw [show (2 : Nat) ^ 63 = 9223372036854775808 from rfl]; omega) (by decide), Nat.and_one_is_mod]
  rfl

/-- Sums of bits, one by one. -/
theorem mod_step (x k : Nat) : x % 2 ^ (k + 1) = x % 2 ^ k + if x.testBit k = true then 2 ^ k else 0 := by
  rw [Nat.mod_pow_succ, Nat.testBit_eq_decide_div_mod_eq]
  have h : x / 2 ^ k % 2 = 0 ∨ x / 2 ^ k % 2 = 1 := by omega
  rcases h with h | h <;> simp [h]

/-- Whether a number is among those that came. -/
def came (t B m : Int) : Bool := decide (t - 31 ≤ m ∧ m ≤ t) && bit B (t - m).toNat
theorem bit_div {B : Int} (h0 : 0 ≤ B) (k : Nat) : bit B k = decide (B / 2 ^ k % 2 = 1) := by
  obtain ⟨N, rfl⟩ := Int.eq_ofNat_of_zero_le h0
  unfold bit
  rw [Int.toNat_natCast, Nat.testBit_eq_decide_div_mod_eq]
  have e : ((N : Int) / 2 ^ k % 2) = ((N / 2 ^ k % 2 : Nat) : Int) := by simp
  rw [e]
  have : (((N / 2 ^ k % 2 : Nat) : Int) = 1) ↔ (N / 2 ^ k % 2 = 1) := by omega
  simp only [this]
theorem div_step (B : Int) (k : Nat) : B / 2 ^ (k + 1) = B / 2 ^ k / 2 := by
  rw [Int.pow_succ]
  exact (Int.ediv_ediv_of_nonneg (Int.le_of_lt (Int.pow_pos (by decide)))).symm
theorem div_in {B : Int} (h0 : 0 ≤ B) (h1 : B ≤ 4294967295) (k : Nat) : 0 ≤ B / 2 ^ k ∧ B / 2 ^ k ≤ 4294967295 :=
  ⟨Int.ediv_nonneg h0 (Int.le_of_lt (Int.pow_pos (by decide))), Int.le_trans (Int.ediv_le_self _ h0) h1⟩

theorem rest_zero {t B n : Int} (h : restErr t B n = 0) : (0 ≤ n ∧ n ≤ 100000) ∧ (t < n ∨ (t - n < 32 ∧ n ≤ t ∧ bit B (t - n).toNat = false)) := by
  unfold restErr at h
  split at h
  · omega
  · refine ⟨by omega, ?_⟩
    split at h
    · exact .inl (by assumption)
    · split at h
      · omega
      · split at h
        · omega
        · rename_i h4
          exact .inr ⟨by omega, by omega, by simpa using h4⟩
theorem rest_right {t B n : Int} (h : Right t B) (h0 : restErr t B n = 0) : Right (top t n) (bitsOf t B n : Nat) := by
  obtain ⟨h1, h2⟩ := rest_zero h0
  exact take_right h h1 (by omega)

theorem step_bit {t B n : Int} (h0 : restErr t B n = 0) {k : Nat} (hk : k < 32) : (came t B (top t n - k) || decide (top t n - k = n)) = (bitsOf t B n).testBit k := by
  obtain ⟨h1, h2⟩ := rest_zero h0
  unfold came top bitsOf
  by_cases ht : t < n
  · simp only [if_pos ht]
    rw [moved_bit]
    by_cases hd : (n - t).toNat ≤ k
    · rw [show decide (t - 31 ≤ n - (k : Int) ∧ n - (k : Int) ≤ t) = true by simp; omega, show (t - (n - (k : Int))).toNat = k - (n - t).toNat by omega]
      have : decide (n - (k : Int) = n) = decide (k = 0) := by congr 1; simp; omega
      rw [this]
      simp [hk, hd]
    · rw [show decide (t - 31 ≤ n - (k : Int) ∧ n - (k : Int) ≤ t) = false by simp; omega]
      have : decide (n - (k : Int) = n) = decide (k = 0) := by congr 1; simp; omega
      rw [this]
      simp [hd]
  · simp only [if_neg ht]
    rw [marked_bit, show decide (t - 31 ≤ t - (k : Int) ∧ t - (k : Int) ≤ t) = true by simp; omega, show (t - (t - (k : Int))).toNat = k by omega]
    have : decide (t - (k : Int) = n) = decide ((t - n).toNat = k) := by congr 1; simp; omega
    rw [this]
    simp
theorem bits_lt {t B n : Int} (h : Right t B) (h0 : restErr t B n = 0) : bitsOf t B n < 2 ^ 32 := by
  have := (rest_right h h0).lt
  rw [show (2 : Nat) ^ 32 = 4294967296 from rfl]
  omega

/-- What a law knows of numbers that were taken, and the window that took them. -/
structure Inv (t B : Int) (l : List Int) : Prop where
  right : Right t B
  below : ∀ m ∈ l, m ≤ t
  there : ∀ m ∈ l, t - m < 32 → bit B (t - m).toNat = true
  back : ∀ k : Nat, bit B k = true → (t - k : Int) ∈ l
theorem new_right : Right (-1) 0 := ⟨by omega, by omega, by omega, by omega, fun h => absurd rfl h, fun k _ => by simp⟩
theorem inv_new : Inv (-1) 0 [] := ⟨new_right, by simp, by simp, fun k h => by simp [bit] at h⟩
theorem inv_had {t B n : Int} {l : List Int} (h : Inv t B l) (h0 : restErr t B n = 0) : n ∉ l := by
  intro hm
  obtain ⟨_, h2 | ⟨h2, h3, h4⟩⟩ := rest_zero h0
  · have := h.below n hm; omega
  · have := h.there n hm h2
    rw [h4] at this; cases this
theorem inv_take {t B n : Int} {l : List Int} (h : Inv t B l) (h0 : restErr t B n = 0) : Inv (top t n) (bitsOf t B n : Nat) (l ++ [n]) := by
  obtain ⟨h1, h2⟩ := rest_zero h0
  refine ⟨rest_right h.right h0, fun m hm => ?_, fun m hm hl => ?_, fun k hk => ?_⟩
  · unfold top
    rcases List.mem_append.1 hm with hm | hm
    · have := h.below m hm; split <;> omega
    · simp at hm; subst hm; split <;> omega
  · have hm' : m ≤ top t n := by
      unfold top
      rcases List.mem_append.1 hm with hm | hm
      · have := h.below m hm; split <;> omega
      · simp at hm; subst hm; split <;> omega
    rw [show bit (bitsOf t B n : Nat) (top t n - m).toNat = (bitsOf t B n).testBit (top t n - m).toNat from rfl]
    rw [← step_bit h0 (by omega), show top t n - ((top t n - m).toNat : Int) = m by omega]
    rcases List.mem_append.1 hm with hm | hm
    · have hb := h.below m hm
      have hc : t - m < 32 := by unfold top at hl; split at hl <;> omega
      unfold came
      rw [h.there m hm hc, show decide (t - 31 ≤ m ∧ m ≤ t) = true by simp; omega]
      rfl
    · simp at hm; subst hm; simp
  · have hk32 : k < 32 := Nat.lt_of_not_le fun hge => by
      have : (bitsOf t B n).testBit k = false := Nat.testBit_lt_two_pow (Nat.lt_of_lt_of_le (bits_lt h.right h0) (Nat.pow_le_pow_right (by decide) hge))
      rw [show bit (bitsOf t B n : Nat) k = (bitsOf t B n).testBit k from rfl, this] at hk
      cases hk
    rw [show bit (bitsOf t B n : Nat) k = (bitsOf t B n).testBit k from rfl, ← step_bit h0 hk32] at hk
    rw [Bool.or_eq_true] at hk
    rcases hk with hk | hk
    · unfold came at hk
      rw [Bool.and_eq_true] at hk
      have hr := of_decide_eq_true hk.1
      have := h.back _ hk.2
      rw [show (t - ((t - (top t n - (k : Int))).toNat : Int)) = top t n - k by omega] at this
      exact List.mem_append_left _ this
    · have := of_decide_eq_true hk
      rw [this]; simp
theorem inv_near {t B n : Int} {l : List Int} (h : Inv t B l) (h0 : ¬ restErr t B n = 0) (h1 : 0 ≤ n) (h2 : n ≤ 100000) (h3 : t - 32 < n) : n ∈ l ∧ restErr t B n = 7 := by
  unfold restErr at h0 ⊢
  rw [if_neg (by omega)] at h0 ⊢
  by_cases ht : t < n
  · rw [if_pos ht] at h0; exact absurd rfl h0
  · rw [if_neg ht, if_neg (by omega)] at h0 ⊢
    by_cases hb : bit B (t - n).toNat = true
    · rw [if_pos hb]
      have := h.back _ hb
      rw [show (t - ((t - n).toNat : Int)) = n by omega] at this
      exact ⟨this, rfl⟩
    · rw [if_neg hb] at h0; exact absurd rfl h0

/-- Whether a number is among some. -/
def hadB (l : List Int) (n : Int) : Bool := decide (n ∈ l)
theorem had_zero (l : List Int) (n : Int) : hadB (l.take 0) n = false := by simp [hadB]
theorem hadB_at {l : List Int} {n : Int} {k : Nat} (hk : k < l.length) : hadB (l.take (k + 1)) n = (hadB (l.take k) n || (l.getD k 0 == n)) := by
  unfold hadB
  rw [List.take_succ_eq_append_getElem hk]
  rw [show l.getD k 0 = l[k] by simp [List.getD, hk]]
  rw [Bool.eq_iff_iff]
  simp only [decide_eq_true_eq, List.mem_append, List.mem_singleton, Bool.or_eq_true, beq_iff_eq]
  exact or_congr Iff.rfl eq_comm

/-- foldref1.Window's way. -/
theorem fault_low {t B : Int} (h : t < -1 ∨ 100000 < t ∨ B < 0 ∨ 4294967295 < B) : fault t B = 1 := by unfold fault; rw [if_pos h]
theorem fault_new {B : Int} (h0 : 0 ≤ B) (h1 : B ≤ 4294967295) : fault (-1) B = if B = 0 then 0 else 3 := by
  unfold fault
  rw [if_neg (by omega)]
  by_cases h : B = 0
  · subst h; rfl
  · rw [if_neg h, if_pos (.inr (by simpa using h))]
theorem fault_even {t B : Int} (ht : 0 ≤ t) (ht1 : t ≤ 100000) (h0 : 0 ≤ B) (h1 : B ≤ 4294967295) (h : B % 2 = 0) : fault t B = 3 := by
  unfold fault
  rw [if_neg (by omega), if_pos (.inl ⟨by omega, h⟩)]
theorem fault_bit {t B : Int} (ht : 0 ≤ t) (ht1 : t ≤ 100000) (h0 : 0 ≤ B) (h1 : B ≤ 4294967295) {k : Nat} (hk : t < k) (hb : bit B k = true) : fault t B = 3 := by
  have : ¬ fault t B = 0 := fun e => by
    have := (fault_zero.1 e).high k hk
    rw [show B.toNat.testBit k = bit B k from rfl, hb] at this
    cases this
  rcases fault_three this with e | e
  · unfold fault at e this
    rw [if_neg (by omega)] at e
    split at e <;> omega
  · exact e
theorem fault_none {t B : Int} (ht : 0 ≤ t) (ht1 : t ≤ 100000) (h0 : 0 ≤ B) (h1 : B ≤ 4294967295) (ho : ¬ B % 2 = 0) (hb : ∀ k : Nat, t < k → k < 32 → bit B k = false) : fault t B = 0 := by
  refine fault_zero.2 ⟨by omega, by omega, h0, h1, fun _ => (odd_iff B h0).2 ho, fun k hk => ?_⟩
  by_cases hk32 : k < 32
  · exact hb k hk hk32
  · exact Nat.testBit_lt_two_pow (Nat.lt_of_lt_of_le (lt32 h0 h1) (Nat.pow_le_pow_right (by decide) (by omega)))

theorem below_cut {B : Int} (h0 : 0 ≤ B) (h1 : B ≤ 4294967295) (m : Nat) : (B / 2 ^ min m 64 = 0) ↔ (B / 2 ^ m = 0) := by
  rw [toNat_div B h0, toNat_div B h0]
  by_cases h : m ≤ 64
  · rw [Nat.min_eq_left h]
  · rw [Nat.min_eq_right (by omega)]
    have := lt32 h0 h1
    exact ⟨fun _ => Nat.lt_of_lt_of_le this (Nat.pow_le_pow_right (by decide) (by omega)), fun _ => Nat.lt_of_lt_of_le this (Nat.pow_le_pow_right (by decide) (by omega))⟩
theorem fault_rest {t B : Int} (h : ¬ (t < -1 ∨ 100000 < t ∨ B < 0 ∨ 4294967295 < B)) : fault t B = if (¬ t = -1 ∧ B % 2 = 0) ∨ ¬ B / 2 ^ min (t + 1).toNat 64 = 0 then 3 else 0 := by
  unfold fault
  rw [if_neg h]
  simp only [below_cut (B := B) (by omega) (by omega)]
/-- What is taken: the window behind it, or none. -/
def taken (t B n : Int) : Int × Int := if takeErr t B n = 0 then (top t n, ((bitsOf t B n : Nat) : Int)) else (0, 0)
theorem taken_no {t B n : Int} (h : ¬ takeErr t B n = 0) : taken t B n = (0, 0) := if_neg h
theorem taken_yes {t B n : Int} (h : takeErr t B n = 0) : taken t B n = (top t n, ((bitsOf t B n : Nat) : Int)) := if_pos h
theorem take_bad {t B : Int} (n : Int) (h : ¬ fault t B = 0) : takeErr t B n = fault t B := if_neg h
theorem take_rest {t B : Int} (n : Int) (h : fault t B = 0) : takeErr t B n = restErr t B n := if_pos h

/-- The first that comes. -/
theorem first_no {n : Int} (h : n < 0 ∨ 100000 < n) : takeErr (-1) 0 n = 1 := by
  rw [take_rest n (fault_zero.2 new_right)]
  unfold restErr
  rw [if_pos h]
theorem first_yes {n : Int} (h : ¬ (n < 0 ∨ 100000 < n)) : takeErr (-1) 0 n = 0 ∧ taken (-1) 0 n = (n, 1) := by
  have e : takeErr (-1) 0 n = 0 := by
    rw [take_rest n (fault_zero.2 new_right)]
    unfold restErr
    rw [if_neg h, if_pos (by omega)]
  refine ⟨e, ?_⟩
  rw [taken_yes e]
  unfold top bitsOf moved
  rw [if_pos (by omega), if_pos (by omega)]
  simp
theorem one_right {n : Int} (h0 : 0 ≤ n) (h1 : n ≤ 100000) : Right n 1 :=
  ⟨by omega, h1, by omega, by omega, fun _ => rfl, fun k hk => by show Nat.testBit 1 k = false; rw [one_testBit]; simp; omega⟩
theorem first_late {n : Int} (h0 : 0 ≤ n) (h1 : n ≤ 100000) : takeErr n 1 (n - 32) = if n < 32 then 1 else 9 := by
  rw [take_rest _ (fault_zero.2 (one_right h0 h1))]
  unfold restErr
  by_cases h : n < 32
  · rw [if_pos (by omega), if_pos h]
  · rw [if_neg (by omega), if_neg (by omega), if_pos (by omega), if_neg h]

theorem rest_came {t B n : Int} (h0 : 0 ≤ n) (h1 : n ≤ 100000) (h2 : t - 32 < n) : restErr t B n = if came t B n = true then 7 else 0 := by
  unfold restErr came
  rw [if_neg (by omega)]
  by_cases h : t < n
  · rw [if_pos h, show decide (t - 31 ≤ n ∧ n ≤ t) = false by simp; omega]
    rfl
  · rw [if_neg h, if_neg (by omega), show decide (t - 31 ≤ n ∧ n ≤ t) = true by simp; omega, Bool.true_and]
theorem pow31 {j : Nat} (h : j < 32) : (2 : Int) ^ j ≤ 2147483648 := by
  have h1 : 2 ^ j ≤ 2 ^ 31 := Nat.pow_le_pow_right (by decide) (by omega)
  have h2 : ((2 : Int) ^ j) = ((2 ^ j : Nat) : Int) := by simp
  rw [h2]
  rw [show (2 : Nat) ^ 31 = 2147483648 from rfl] at h1
  generalize 2 ^ j = q at h1
  omega

end WinM
end Go.Proofs.YtfhpfdlbgmgclakDoor
