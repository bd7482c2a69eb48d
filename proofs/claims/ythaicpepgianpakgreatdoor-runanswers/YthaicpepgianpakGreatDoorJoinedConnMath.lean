/-
  Texts joined: ConnMath RunPlain.
-/
import Derived.WalkKit
import Derived.Test.YthaicpepgianpakGreatDoorJoinedRunMath
import Derived.Test.YthaicpepgianpakGreatDoorServerMath
namespace Go.Proofs.YthaicpepgianpakGreatDoor
open Go.RowKit
namespace ConnM

/-- A number with the bits of 21845 turned. -/
def turn (x : Int) : Int := ((x.toNat ^^^ 21845 : Nat) : Int)
theorem lt16 {x : Int} (h1 : x ≤ 65535) : x.toNat < 2 ^ 16 := by
  rw [show (2 : Nat) ^ 16 = 65536 from rfl]; omega
theorem turn_lt {x : Int} (h1 : x ≤ 65535) : x.toNat ^^^ 21845 < 2 ^ 16 := Nat.xor_lt_two_pow (lt16 h1) (by decide)
theorem turn_lo (x : Int) : 0 ≤ turn x := Int.natCast_nonneg _
theorem turn_hi {x : Int} (h1 : x ≤ 65535) : turn x ≤ 65535 := by
  have h := turn_lt h1
  rw [show (2 : Nat) ^ 16 = 65536 from rfl] at h
  unfold turn; omega
/-- There and back. -/
theorem turn_turn {x : Int} (h0 : 0 ≤ x) : turn (turn x) = x := by
  unfold turn
  rw [Int.toNat_natCast, Nat.xor_assoc, Nat.xor_self, Nat.xor_zero]
  omega
theorem turn_inj {x y : Int} (hx : 0 ≤ x) (hy : 0 ≤ y) : turn x = turn y ↔ x = y :=
  ⟨fun h => by rw [← turn_turn hx, h, turn_turn hy], fun h => by rw [h]⟩
/-- As the program reckons it. -/
theorem xor_nat (a b : Nat) (ha : a < 2 ^ 16) (hb : b < 2 ^ 16) : bits .xor .i64 (a : Int) (b : Int) = ((a ^^^ b : Nat) : Int) := by
  have hp : (2 : Nat) ^ 16 ≤ 2 ^ 64 := Nat.pow_le_pow_right (by decide) (by decide)
  have ha' : a % 2 ^ IntKind.i64.bits = a := Nat.mod_eq_of_lt (Nat.lt_of_lt_of_le ha hp)
  have hb' : b % 2 ^ IntKind.i64.bits = b := Nat.mod_eq_of_lt (Nat.lt_of_lt_of_le hb hp)
  have hx := Nat.xor_lt_two_pow ha hb
  rw [show (2 : Nat) ^ 16 = 65536 from rfl] at hx
  simp only [bits, BitVec.ofInt_natCast, BitVec.toNat_xor, BitVec.toNat_ofNat, ha', hb']
  rw [IntKind.wrap_i64]
  omega
theorem xor_eq {x : Int} (h0 : 0 ≤ x) (h1 : x ≤ 65535) : bits .xor .i64 x 21845 = turn x := by
  obtain ⟨N, rfl⟩ := Int.eq_ofNat_of_zero_le h0
  have h := lt16 h1
  rw [Int.toNat_natCast] at h
  exact xor_nat N 21845 h (by decide)

/-- What the reference adds, one by one. -/
theorem mask_bit : ∀ k : Nat, k < 16 → Nat.testBit 21845 k = decide (k % 2 = 0) := by decide
theorem turn_bit {x : Int} {k : Nat} (hk : k < 16) : (x.toNat ^^^ 21845).testBit k = (x.toNat.testBit k ^^ decide (k % 2 = 0)) := by
  rw [Nat.testBit_xor, mask_bit k hk]
theorem mod_step (x k : Nat) : x % 2 ^ (k + 1) = x % 2 ^ k + if x.testBit k = true then 2 ^ k else 0 := by
  rw [Nat.mod_pow_succ, Nat.testBit_eq_decide_div_mod_eq]
  have h : x / 2 ^ k % 2 = 0 ∨ x / 2 ^ k % 2 = 1 := by omega
  rcases h with h | h <;> simp [h]
/-- What the reference has behind k rounds. -/
def upto (x : Int) (k : Nat) : Int := (((x.toNat ^^^ 21845) % 2 ^ k : Nat) : Int)
theorem upto_zero (x : Int) : upto x 0 = 0 := by unfold upto; rw [Nat.pow_zero, Nat.mod_one]; rfl
theorem upto_all {x : Int} (h1 : x ≤ 65535) : upto x 16 = turn x := by
  unfold upto turn; rw [Nat.mod_eq_of_lt (turn_lt h1)]
theorem upto_in {x : Int} (h1 : x ≤ 65535) (k : Nat) : 0 ≤ upto x k ∧ upto x k ≤ 65535 := by
  have h := turn_lt h1
  have hm := Nat.mod_le (x.toNat ^^^ 21845) (2 ^ k)
  rw [show (2 : Nat) ^ 16 = 65536 from rfl] at h
  unfold upto
  generalize 2 ^ k = q at hm
  omega
def bit (x : Int) (k : Nat) : Bool := x.toNat.testBit k
theorem upto_step {x : Int} {k : Nat} (hk : k < 16) : upto x (k + 1) = upto x k + if (bit x k ^^ decide (k % 2 = 0)) = true then 2 ^ k else 0 := by
  unfold upto bit
  rw [mod_step, turn_bit hk]
  split <;> simp
theorem bit_div {B : Int} (h0 : 0 ≤ B) (k : Nat) : bit B k = decide (B / 2 ^ k % 2 = 1) := by
  obtain ⟨N, rfl⟩ := Int.eq_ofNat_of_zero_le h0
  unfold bit
  rw [Int.toNat_natCast, Nat.testBit_eq_decide_div_mod_eq]
  have e : ((N : Int) / 2 ^ k % 2) = ((N / 2 ^ k % 2 : Nat) : Int) := by simp
  rw [e]
  have : (((N / 2 ^ k % 2 : Nat) : Int) = 1) ↔ (N / 2 ^ k % 2 = 1) := by omega
  simp only [this]
theorem div_step (B : Int) (k : Nat) : B / 2 ^ (k + 1) = B / 2 ^ k / 2 := by
  rw [Int.pow_succ]
  exact (Int.ediv_ediv_of_nonneg (Int.le_of_lt (Int.pow_pos (by decide)))).symm
theorem div_in {B : Int} (h0 : 0 ≤ B) (h1 : B ≤ 4294967295) (k : Nat) : 0 ≤ B / 2 ^ k ∧ B / 2 ^ k ≤ 4294967295 :=
  ⟨Int.ediv_nonneg h0 (Int.le_of_lt (Int.pow_pos (by decide))), Int.le_trans (Int.ediv_le_self _ h0) h1⟩
theorem pow16 {k : Nat} (h : k ≤ 16) : (2 : Int) ^ k ≤ 65536 := by
  have h1 : 2 ^ k ≤ 2 ^ 16 := Nat.pow_le_pow_right (by decide) h
  have h2 : ((2 : Int) ^ k) = ((2 ^ k : Nat) : Int) := by simp
  rw [h2]
  rw [show (2 : Nat) ^ 16 = 65536 from rfl] at h1
  generalize 2 ^ k = q at h1
  omega

/-- What is wrong with a conn, with a number, with a route. -/
def bad (s m : Int) : Int := if 0 ≤ s ∧ s ≤ 15 ∧ 0 ≤ m ∧ m ≤ 4095 then 0 else 1
def ofErr (n : Int) : Int := if 0 ≤ n ∧ n ≤ 65535 then 0 else 1
def routeErr (n k : Int) : Int := if (0 ≤ n ∧ n ≤ 65535) ∧ 1 ≤ k ∧ k ≤ 16 then 0 else 1
theorem bad_zero {s m : Int} : bad s m = 0 ↔ 0 ≤ s ∧ s ≤ 15 ∧ 0 ≤ m ∧ m ≤ 4095 := by unfold bad; split <;> omega
theorem bad_one {s m : Int} : bad s m = 1 ↔ s < 0 ∨ 15 < s ∨ m < 0 ∨ 4095 < m := by unfold bad; split <;> omega
theorem of_zero {n : Int} : ofErr n = 0 ↔ 0 ≤ n ∧ n ≤ 65535 := by unfold ofErr; split <;> omega
theorem of_one {n : Int} : ofErr n = 1 ↔ n < 0 ∨ 65535 < n := by unfold ofErr; split <;> omega
theorem route_zero {n k : Int} : routeErr n k = 0 ↔ (0 ≤ n ∧ n ≤ 65535) ∧ 1 ≤ k ∧ k ≤ 16 := by unfold routeErr; split <;> omega
theorem route_one {n k : Int} : routeErr n k = 1 ↔ n < 0 ∨ 65535 < n ∨ k < 1 ∨ 16 < k := by unfold routeErr; split <;> omega
/-- The value that goes beside an error. -/
def told (e v : Int) : Int := if e = 0 then v else 0
theorem told_zero {e v : Int} (h : e = 0) : told e v = v := if_pos h
theorem told_pos {e v : Int} (h : ¬ e = 0) : told e v = 0 := if_neg h
end ConnM
end Go.Proofs.YthaicpepgianpakGreatDoor
namespace Go.Proofs.YthaicpepgianpakGreatDoor.RunM
open ServM (St Hi)

/-- A text's bytes as a string. -/
def bs (l : List UInt8) : ByteArray := ⟨l.toArray⟩
theorem bs_list (l : List UInt8) : (bs l).data.toList = l := rfl
theorem bs_data (s : ByteArray) : bs s.data.toList = s := rfl
theorem bs_size (l : List UInt8) : (bs l).size = l.length := rfl
theorem bs_append (a b : List UInt8) : bs a ++ bs b = bs (a ++ b) := by
  apply ByteArray.ext
  rw [ByteArray.data_append]
  exact Array.toList_inj.1 (by simp [bs])
theorem bs_inj {a b : List UInt8} (h : bs a = bs b) : a = b := congrArg (fun s : ByteArray => s.data.toList) h
/-- The name of an error. -/
def name (e : Int) : List UInt8 :=
  if e = 0 then [79, 75]
  else if e = 1 then [69, 114, 114, 82, 97, 110, 103, 101]
  else if e = 2 then [69, 114, 114, 83, 121, 110, 116, 97, 120]
  else if e = 3 then [69, 114, 114, 83, 104, 97, 112, 101]
  else if e = 4 then [69, 114, 114, 70, 117, 108, 108]
  else if e = 5 then [69, 114, 114, 78, 111, 110, 101]
  else if e = 6 then [69, 114, 114, 83, 116, 97, 116, 101]
  else if e = 7 then [69, 114, 114, 67, 108, 97, 115, 104]
  else if e = 8 then [69, 114, 114, 83, 101, 97, 108]
  else if e = 9 then [69, 114, 114, 76, 97, 116, 101]
  else [69, 114, 114, 110, 111]
/-- hello -/
def wHello : List UInt8 := [104, 101, 108, 108, 111]
/-- again -/
def wAgain : List UInt8 := [97, 103, 97, 105, 110]
/-- ticket -/
def wTicket : List UInt8 := [116, 105, 99, 107, 101, 116]
/-- pull -/
def wPull : List UInt8 := [112, 117, 108, 108]
/-- turn -/
def wTurn : List UInt8 := [116, 117, 114, 110]
/-- crash -/
def wCrash : List UInt8 := [99, 114, 97, 115, 104]
/-- waiting -/
def wWaiting : List UInt8 := [119, 97, 105, 116, 105, 110, 103]
/-- bad -/
def tBad : List UInt8 := [98, 97, 100]
/-- ok -/
def tOk : List UInt8 := [111, 107]
/-- retry  -/
def tRetry : List UInt8 := [114, 101, 116, 114, 121, 32]
/-- welcome  -/
def tWelcome : List UInt8 := [119, 101, 108, 99, 111, 109, 101, 32]
/-- busy -/
def tBusy : List UInt8 := [98, 117, 115, 121]
/-- too long\n -/
def tLong : List UInt8 := [116, 111, 111, 32, 108, 111, 110, 103, 10]
/-- How many numbers a word wants behind it; none: it is no word. -/
def wants (w : List UInt8) : Option Nat :=
  if w = wHello then some 2 else if w = wAgain then some 6 else if w = wTicket then some 1
  else if w = wPull ∨ w = wTurn ∨ w = wCrash ∨ w = wWaiting then some 0 else none
/-- What pieces come to as numbers. -/
def nums : List (List UInt8) → Option (List Nat)
  | [] => some []
  | p :: r => match num p with
    | none => none
    | some n => match nums r with
      | none => none
      | some ns => some (n :: ns)
/-- Numbers in a row, a blank between. -/
def row : List Nat → List UInt8
  | [] => []
  | [n] => digits n
  | n :: m :: r => digits n ++ 32 :: row (m :: r)
/-- Who asks. -/
def hi (a te ta tt tg : Nat) : Hi := ⟨a, te, ta, tt, tg, 0, 0, 0, 0, ⟨#[]⟩⟩
def greet (x : St) (h : Hi) (now : Int) : List UInt8 :=
  if ¬ ServM.err x h now = 0 then name (ServM.err x h now)
  else if ServM.aKind x h now = 0 then tRetry ++ row [(ServM.aEp x h now).toNat, (ServM.aAd x h now).toNat, (ServM.aTi x h now).toNat, (ServM.aTg x h now).toNat]
  else if ServM.aKind x h now = 2 then tBusy
  else tWelcome ++ digits (ConnM.turn (ServM.aCo x h now)).toNat
def ticket (x : St) (u : Int) : List UInt8 :=
  if ¬ ServM.tErr x u = 0 then name (ServM.tErr x u)
  else row [(ServM.tEp x u).toNat, (ServM.tNo x u).toNat, (ServM.tUn x u).toNat, (ServM.tTg x u).toNat]
def pull (x : St) : List UInt8 := match x.L with
  | [] => name 5
  | c :: _ => digits (ConnM.turn (4096 * c.1 + c.2)).toNat
def turned (x : St) : List UInt8 := if RingM.turnErr x.ep x.key x.old = 0 then tOk else name (RingM.turnErr x.ep x.key x.old)
/-- What a word with its numbers leaves, and what it is answered. -/
def act (x : St) (w : List UInt8) (n : List Nat) : St × List UInt8 :=
  if w = wHello then (ServM.next x (hi (n.getD 0 0) 0 0 0 0) (n.getD 1 0), greet x (hi (n.getD 0 0) 0 0 0 0) (n.getD 1 0))
  else if w = wAgain then (ServM.next x (hi (n.getD 0 0) (n.getD 1 0) (n.getD 2 0) (n.getD 3 0) (n.getD 4 0)) (n.getD 5 0), greet x (hi (n.getD 0 0) (n.getD 1 0) (n.getD 2 0) (n.getD 3 0) (n.getD 4 0)) (n.getD 5 0))
  else if w = wTicket then (ServM.tick x (n.getD 0 0), ticket x (n.getD 0 0))
  else if w = wPull then (ServM.pull x, pull x)
  else if w = wTurn then (ServM.turn x, turned x)
  else if w = wCrash then (ServM.crash x, tOk)
  else if w = wWaiting then (x, digits x.L.length)
  else (x, tBad)
/-- What a line's pieces leave, and what it is answered. -/
def pieces (x : St) (w : List UInt8) (r : List (List UInt8)) : St × List UInt8 :=
  if wants w = some r.length then
    match nums r with
    | none => (x, tBad)
    | some n => act x w n
  else (x, tBad)
def line (x : St) (l : List UInt8) : St × List UInt8 := match cut 32 l with
  | [] => (x, tBad)
  | w :: r => pieces x w r
/-- What lines leave, and what they are answered. -/
def left (x : St) : List (List UInt8) → St
  | [] => x
  | l :: r => left (line x l).1 r
def out (x : St) : List (List UInt8) → List UInt8
  | [] => []
  | l :: r => (line x l).2 ++ 10 :: out (line x l).1 r
def new : St := ServM.new 7 50
def run (t : List UInt8) : List UInt8 := if 3000 < t.length then tLong else out new (lines t)

theorem left_append (x : St) (a b : List (List UInt8)) : left x (a ++ b) = left (left x a) b := by
  induction a generalizing x with
  | nil => rfl
  | cons l r ih => exact ih _
theorem out_append (x : St) (a b : List (List UInt8)) : out x (a ++ b) = out x a ++ out (left x a) b := by
  induction a generalizing x with
  | nil => rfl
  | cons l r ih => simp [out, left, ih]
theorem out_snoc (x : St) (a : List (List UInt8)) (l : List UInt8) : out x (a ++ [l]) = out x a ++ ((line (left x a) l).2 ++ [10]) := by
  rw [out_append]; simp [out]
theorem left_snoc (x : St) (a : List (List UInt8)) (l : List UInt8) : left x (a ++ [l]) = (line (left x a) l).1 := by
  rw [left_append]; rfl
theorem row_snoc : ∀ (a : List Nat) (n : Nat), ¬ a = [] → row (a ++ [n]) = row a ++ 32 :: digits n
  | [], _, h => absurd rfl h
  | [m], n, _ => by simp [row]
  | m :: k :: r, n, _ => by
    have := row_snoc (k :: r) n (by simp)
    simp only [List.cons_append] at this ⊢
    simp [row, this]
theorem nums_len : ∀ {r : List (List UInt8)} {n : List Nat}, nums r = some n → n.length = r.length
  | [], n, h => by simp [nums] at h; simp [← h]
  | p :: r, n, h => by
    unfold nums at h
    cases hp : num p with
    | none => rw [hp] at h; cases h
    | some k =>
      rw [hp] at h
      cases hr : nums r with
      | none => rw [hr] at h; cases h
      | some ns =>
        rw [hr] at h
        cases h
        simp [nums_len hr]
theorem snoc_ind {P : List UInt8 → Prop} (h0 : P []) (h1 : ∀ s b, P s → P (s ++ [b])) (s : List UInt8) : P s := by
  have h : ∀ t : List UInt8, P t.reverse := by
    intro t
    induction t with
    | nil => exact h0
    | cons b r ih => rw [List.reverse_cons]; exact h1 _ _ ih
  have := h s.reverse
  rwa [List.reverse_reverse] at this
theorem val_lt : ∀ (s : List UInt8), s.all isDig = true → val s < 10 ^ s.length := by
  apply snoc_ind
  · intro _; simp [val]
  · intro s b ih h
    rw [List.all_append, Bool.and_eq_true] at h
    have h1 := ih h.1
    have h2 : isDig b = true := by simpa using h.2
    unfold isDig at h2
    have h3 := of_decide_eq_true h2
    rw [val_snoc, List.length_append, List.length_singleton, Nat.pow_succ]
    omega
theorem num_lt {p : List UInt8} {n : Nat} (h : num p = some n) : n < 1000000 := by
  unfold num at h
  split at h
  · cases h
  · rename_i hn
    split at h
    · rename_i ha
      cases h
      have h1 := val_lt p ha
      have h2 : p.length ≤ 6 := by
        apply Nat.le_of_not_lt
        exact fun q => hn (.inr (.inl q))
      have h3 : 10 ^ p.length ≤ 10 ^ 6 := Nat.pow_le_pow_right (by omega) h2
      have h4 : (10 : Nat) ^ 6 = 1000000 := rfl
      omega
    · cases h
theorem nums_lt : ∀ {r : List (List UInt8)} {n : List Nat}, nums r = some n → ∀ k ∈ n, k < 1000000
  | [], n, h => by simp [nums] at h; simp [h]
  | p :: r, n, h => by
    unfold nums at h
    cases hp : num p with
    | none => rw [hp] at h; cases h
    | some k =>
      rw [hp] at h
      cases hr : nums r with
      | none => rw [hr] at h; cases h
      | some ns =>
        rw [hr] at h
        cases h
        intro j hj
        rcases List.mem_cons.1 hj with rfl | hj
        · exact num_lt hp
        · exact nums_lt hr j hj
theorem nums_snoc : ∀ (r : List (List UInt8)) (p : List UInt8), nums (r ++ [p]) = match nums r with
    | none => none
    | some ns => match num p with
      | none => none
      | some n => some (ns ++ [n])
  | [], p => by simp only [List.nil_append, nums]
  | q :: r, p => by
    simp only [List.cons_append, nums]
    cases num q with
    | none => rfl
    | some k =>
      simp only [nums_snoc r p]
      cases nums r with
      | none => rfl
      | some ns => cases num p <;> rfl
/-- The state stays right, whatever is asked. -/
theorem act_good {x : St} (g : ServM.Good x) (w : List UInt8) (n : List Nat) : ServM.Good (act x w n).1 := by
  unfold act
  repeat' split
  all_goals first | exact ServM.next_good g | exact ServM.tick_good g | exact ServM.pull_good g | exact ServM.turn_good g | exact ServM.crash_good g | exact g
theorem line_good {x : St} (g : ServM.Good x) (l : List UInt8) : ServM.Good (line x l).1 := by
  unfold line
  split
  · exact g
  · unfold pieces
    split
    · split
      · exact g
      · exact act_good g _ _
    · exact g
theorem left_good {x : St} (g : ServM.Good x) (a : List (List UInt8)) : ServM.Good (left x a) := by
  induction a generalizing x with
  | nil => exact g
  | cons l r ih => exact ih (line_good g l)
theorem new_good : ServM.Good new := ServM.new_good rfl
end Go.Proofs.YthaicpepgianpakGreatDoor.RunM
