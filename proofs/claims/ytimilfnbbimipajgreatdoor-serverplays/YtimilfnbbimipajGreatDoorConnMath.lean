/-
  The plain mathematics of conns: a number with the bits of 21845 turned, what is wrong with a conn, a number, a route. No Go here but its way to reckon with bits.
-/
import Derived.WalkKit
namespace Go.Proofs.YtimilfnbbimipajGreatDoor
open Go.RowKit
namespace ConnM

/-- A number with the bits of 21845 turned. -/
def turn (x : Int) : Int := ((x.toNat ^^^ 21845 : Nat) : Int)
theorem lt16 {x : Int} (h1 : x ≤ 65535) : x.toNat < 2 ^ 16 := by
  rw [show (2 : Nat) ^ 16 = 65536 from rfl]; omega
theorem turn_lt {x : Int} (h1 : x ≤ 65535) : x.toNat ^^^ 21845 < 2 ^ 16 := Nat.xor_lt_two_pow (lt16 h1) (by decide)
theorem turn_lo (x : Int) : 0 ≤ turn x := Int.natCast_nonneg _
theorem turn_hi {x : Int} (h1 : x ≤ 65535) : turn x ≤ 65535 := by
  have h := turn_lt h1
  rw [show (2 : Nat) ^ 16 = 65536 from rfl] at h
  unfold turn; omega
/-- There and back. -/
theorem turn_turn {x : Int} (h0 : 0 ≤ x) : turn (turn x) = x := by
  unfold turn
  rw [Int.toNat_natCast, Nat.xor_assoc, Nat.xor_self, Nat.xor_zero]
  omega
theorem turn_inj {x y : Int} (hx : 0 ≤ x) (hy : 0 ≤ y) : turn x = turn y ↔ x = y :=
  ⟨fun h => by rw [← turn_turn hx, h, turn_turn hy], fun h => by rw [h]⟩
/-- As the program reckons it. -/
theorem xor_nat (a b : Nat) (ha : a < 2 ^ 16) (hb : b < 2 ^ 16) : bits .xor .i64 (a : Int) (b : Int) = ((a ^^^ b : Nat) : Int) := by
  have hp : (2 : Nat) ^ 16 ≤ 2 ^ 64 := Nat.pow_le_pow_right (by decide) (by decide)
  have ha' : a % 2 ^ IntKind.i64.bits = a := Nat.mod_eq_of_lt (Nat.lt_of_lt_of_le ha hp)
  have hb' : b % 2 ^ IntKind.i64.bits = b := Nat.mod_eq_of_lt (Nat.lt_of_lt_of_le hb hp)
  have hx := Nat.xor_lt_two_pow ha hb
  rw [show (2 : Nat) ^ 16 = 65536 from rfl] at hx
  simp only [bits, BitVec.ofInt_natCast, BitVec.toNat_xor, BitVec.toNat_ofNat, ha', hb']
  rw [IntKind.wrap_i64]
  omega
theorem xor_eq {x : Int} (h0 : 0 ≤ x) (h1 : x ≤ 65535) : bits .xor .i64 x 21845 = turn x := by
  obtain ⟨N, rfl⟩ := Int.eq_ofNat_of_zero_le h0
  have h := lt16 h1
  rw [Int.toNat_natCast] at h
  exact xor_nat N 21845 h (by decide)

/-- What the reference adds, one by one. -/
theorem mask_bit : ∀ k : Nat, k < 16 → Nat.testBit 21845 k = decide (k % 2 = 0) := by decide
theorem turn_bit {x : Int} {k : Nat} (hk : k < 16) : (x.toNat ^^^ 21845).testBit k = (x.toNat.testBit k ^^ decide (k % 2 = 0)) := by
  rw [Nat.testBit_xor, mask_bit k hk]
theorem mod_step (x k : Nat) : x % 2 ^ (k + 1) = x % 2 ^ k + if x.testBit k = true then 2 ^ k else 0 := by
  rw [Nat.mod_pow_succ, Nat.testBit_eq_decide_div_mod_eq]
  have h : x / 2 ^ k % 2 = 0 ∨ x / 2 ^ k % 2 = 1 := by omega
  rcases h with h | h <;> simp [h]
/-- What the reference has behind k rounds. -/
def upto (x : Int) (k : Nat) : Int := (((x.toNat ^^^ 21845) % 2 ^ k : Nat) : Int)
theorem upto_zero (x : Int) : upto x 0 = 0 := by unfold upto; rw [Nat.pow_zero, Nat.mod_one]; rfl
theorem upto_all {x : Int} (h1 : x ≤ 65535) : upto x 16 = turn x := by
  unfold upto turn; rw [Nat.mod_eq_of_lt (turn_lt h1)]
theorem upto_in {x : Int} (h1 : x ≤ 65535) (k : Nat) : 0 ≤ upto x k ∧ upto x k ≤ 65535 := by
  have h := turn_lt h1
  have hm := Nat.mod_le (x.toNat ^^^ 21845) (2 ^ k)
  rw [show (2 : Nat) ^ 16 = 65536 from rfl] at h
  unfold upto
  generalize 2 ^ k = q at hm
  omega
def bit (x : Int) (k : Nat) : Bool := x.toNat.testBit k
theorem upto_step {x : Int} {k : Nat} (hk : k < 16) : upto x (k + 1) = upto x k + if (bit x k ^^ decide (k % 2 = 0)) = true then 2 ^ k else 0 := by
  unfold upto bit
  rw [mod_step, turn_bit hk]
  split <;> simp
theorem bit_div {B : Int} (h0 : 0 ≤ B) (k : Nat) : bit B k = decide (B / 2 ^ k % 2 = 1) := by
  obtain ⟨N, rfl⟩ := Int.eq_ofNat_of_zero_le h0
  unfold bit
  rw [Int.toNat_natCast, Nat.testBit_eq_decide_div_mod_eq]
  have e : ((N : Int) / 2 ^ k % 2) = ((N / 2 ^ k % 2 : Nat) : Int) := by simp
  rw [e]
  have : (((N / 2 ^ k % 2 : Nat) : Int) = 1) ↔ (N / 2 ^ k % 2 = 1) := by omega
  simp only [this]
theorem div_step (B : Int) (k : Nat) : B / 2 ^ (k + 1) = B / 2 ^ k / 2 := by
  rw [Int.pow_succ]
  exact (Int.ediv_ediv_of_nonneg (Int.le_of_lt (Int.pow_pos (by decide)))).symm
theorem div_in {B : Int} (h0 : 0 ≤ B) (h1 : B ≤ 4294967295) (k : Nat) : 0 ≤ B / 2 ^ k ∧ B / 2 ^ k ≤ 4294967295 :=
  ⟨Int.ediv_nonneg h0 (Int.le_of_lt (Int.pow_pos (by decide))), Int.le_trans (Int.ediv_le_self _ h0) h1⟩
theorem pow16 {k : Nat} (h : k ≤ 16) : (2 : Int) ^ k ≤ 65536 := by
  have h1 : 2 ^ k ≤ 2 ^ 16 := Nat.pow_le_pow_right (by decide) h
  have h2 : ((2 : Int) ^ k) = ((2 ^ k : Nat) : Int) := by simp
  rw [h2]
  rw [show (2 : Nat) ^ 16 = 65536 from rfl] at h1
  generalize 2 ^ k = q at h1
  omega

/-- What is wrong with a conn, with a number, with a route. -/
def bad (s m : Int) : Int := if 0 ≤ s ∧ s ≤ 15 ∧ 0 ≤ m ∧ m ≤ 4095 then 0 else 1
def ofErr (n : Int) : Int := if 0 ≤ n ∧ n ≤ 65535 then 0 else 1
def routeErr (n k : Int) : Int := if (0 ≤ n ∧ n ≤ 65535) ∧ 1 ≤ k ∧ k ≤ 16 then 0 else 1
theorem bad_zero {s m : Int} : bad s m = 0 ↔ 0 ≤ s ∧ s ≤ 15 ∧ 0 ≤ m ∧ m ≤ 4095 := by unfold bad; split <;> omega
theorem bad_one {s m : Int} : bad s m = 1 ↔ s < 0 ∨ 15 < s ∨ m < 0 ∨ 4095 < m := by unfold bad; split <;> omega
theorem of_zero {n : Int} : ofErr n = 0 ↔ 0 ≤ n ∧ n ≤ 65535 := by unfold ofErr; split <;> omega
theorem of_one {n : Int} : ofErr n = 1 ↔ n < 0 ∨ 65535 < n := by unfold ofErr; split <;> omega
theorem route_zero {n k : Int} : routeErr n k = 0 ↔ (0 ≤ n ∧ n ≤ 65535) ∧ 1 ≤ k ∧ k ≤ 16 := by unfold routeErr; split <;> omega
theorem route_one {n k : Int} : routeErr n k = 1 ↔ n < 0 ∨ 65535 < n ∨ k < 1 ∨ 16 < k := by unfold routeErr; split <;> omega
/-- The value that goes beside an error. -/
def told (e v : Int) : Int := if e = 0 then v else 0
theorem told_zero {e v : Int} (h : e = 0) : told e v = v := if_pos h
theorem told_pos {e v : Int} (h : ¬ e = 0) : told e v = 0 := if_neg h
end ConnM
end Go.Proofs.YtimilfnbbimipajGreatDoor
