/-
  Texts joined: RunMath TagMath RingMath.
-/
import Derived.WalkKit
namespace Go.Proofs.YthaicpepgianpakGreatDoor.RunM

/-- The pieces of a text, cut at a byte. -/
def cut (c : UInt8) : List UInt8 → List (List UInt8)
  | [] => [[]]
  | x :: r => if x = c then [] :: cut c r else match cut c r with
    | [] => [[x]]
    | h :: t => (x :: h) :: t
/-- The pieces of a text of which the first has begun. -/
def go (c : UInt8) (cur : List UInt8) (s : List UInt8) : List (List UInt8) := match cut c s with
  | [] => [cur]
  | h :: t => (cur ++ h) :: t
theorem cut_ne (c : UInt8) (s : List UInt8) : cut c s ≠ [] := by
  cases s with
  | nil => simp [cut]
  | cons x r =>
    unfold cut
    split
    · simp
    · split <;> simp
theorem go_start (c : UInt8) (s : List UInt8) : go c [] s = cut c s := by
  unfold go
  cases h : cut c s with
  | nil => exact absurd h (cut_ne c s)
  | cons a t => simp
theorem go_end (c : UInt8) (cur : List UInt8) : go c cur [] = [cur] := by simp [go, cut]
theorem go_cut (c : UInt8) (cur r : List UInt8) : go c cur (c :: r) = cur :: cut c r := by simp [go, cut]
theorem go_on {c x : UInt8} (h : ¬ x = c) (cur r : List UInt8) : go c cur (x :: r) = go c (cur ++ [x]) r := by
  unfold go
  cases hr : cut c r with
  | nil => exact absurd hr (cut_ne c r)
  | cons a t => simp [cut, h, hr]
/-- No piece holds the byte. -/
theorem cut_not (c : UInt8) (s : List UInt8) : ∀ p ∈ cut c s, c ∉ p := by
  induction s with
  | nil => simp [cut]
  | cons x r ih =>
    intro p hp
    unfold cut at hp
    split at hp
    · rcases List.mem_cons.1 hp with rfl | hp
      · simp
      · exact ih p hp
    · rename_i hx
      split at hp
      · simp at hp; subst hp; simp; exact fun e => hx e.symm
      · rename_i h t hh
        rw [hh] at ih
        rcases List.mem_cons.1 hp with rfl | hp
        · simp
          exact ⟨fun e => hx e.symm, ih h List.mem_cons_self⟩
        · exact ih p (List.mem_cons_of_mem _ hp)
/-- The lines of a text: a last piece that is empty is none. -/
def lines (s : List UInt8) : List (List UInt8) := if (cut 10 s).getLast? = some [] then (cut 10 s).dropLast else cut 10 s
/-- A text of two beginnings: what is cut of the first, behind whose end a cut stands, is cut of the whole. -/
theorem cut_append (c : UInt8) (a b : List UInt8) : cut c (a ++ c :: b) = cut c a ++ cut c b := by
  induction a with
  | nil => simp [cut]
  | cons x r ih =>
    by_cases h : x = c
    · simp [cut, h, ih]
    · cases hr : cut c r with
      | nil => exact absurd hr (cut_ne c r)
      | cons p t => simp [cut, h, ih, hr]
/-- A digit as a byte. -/
def dig (d : Nat) : UInt8 := UInt8.ofNat (48 + d)
theorem dig_nat {d : Nat} (h : d < 10) : (dig d).toNat = 48 + d := by
  unfold dig
  rw [UInt8.toNat_ofNat']
  omega
/-- The digits of a number, at most so many. -/
def digitsF : Nat → Nat → List UInt8
  | 0, _ => []
  | f + 1, n => if n < 10 then [dig n] else digitsF f (n / 10) ++ [dig (n % 10)]
def digits (n : Nat) : List UInt8 := digitsF 20 n
theorem digitsF_more : ∀ (f n : Nat), n < 10 ^ (f + 1) → digitsF (f + 2) n = digitsF (f + 1) n
  | 0, n, h => by
    have h : n < 10 := by simpa using h
    simp [digitsF, h]
  | f + 1, n, h => by
    show (if n < 10 then [dig n] else digitsF (f + 2) (n / 10) ++ [dig (n % 10)]) = (if n < 10 then [dig n] else digitsF (f + 1) (n / 10) ++ [dig (n % 10)])
    by_cases h1 : n < 10
    · rw [if_pos h1, if_pos h1]
    · rw [if_neg h1, if_neg h1, digitsF_more f (n / 10) (by rw [Nat.pow_succ] at h; omega)]
theorem digits_small {n : Nat} (h : n < 10) : digits n = [dig n] := by unfold digits; rw [digitsF, if_pos h]
theorem digits_step {n : Nat} (h : ¬ n < 10) (hl : n < 10 ^ 19) : digits n = digits (n / 10) ++ [dig (n % 10)] := by
  unfold digits
  rw [digitsF, if_neg h, ← digitsF_more 18 (n / 10) (by have : (10 : Nat) ^ 19 = 10000000000000000000 := rfl; omega)]
/-- What the digits come to. -/
def val (s : List UInt8) : Nat := s.foldl (fun n b => n * 10 + (b.toNat - 48)) 0
theorem val_snoc (s : List UInt8) (b : UInt8) : val (s ++ [b]) = val s * 10 + (b.toNat - 48) := by simp [val]
def isDig (b : UInt8) : Bool := decide (48 ≤ b.toNat ∧ b.toNat ≤ 57)
/-- A number of at most six digits, without a needless 0. -/
def num (s : List UInt8) : Option Nat := if s = [] ∨ 6 < s.length ∨ (s.head? = some 48 ∧ 1 < s.length) then none else if s.all isDig = true then some (val s) else none
theorem digitsF_val : ∀ (f n : Nat), n < 10 ^ f → val (digitsF f n) = n ∧ (digitsF f n).all isDig = true ∧ (0 < f → digitsF f n ≠ []) ∧ (10 ≤ n → ∃ d r, digitsF f n = d :: r ∧ ¬ d = 48)
  | 0, n, h => by
    obtain rfl : n = 0 := by simpa using h
    exact ⟨rfl, rfl, fun q => by omega, fun q => by omega⟩
  | f + 1, n, h => by
    rw [digitsF]
    by_cases h1 : n < 10
    · rw [if_pos h1]
      refine ⟨?_, ?_, fun _ => by simp, fun q => by omega⟩
      · show 0 * 10 + ((dig n).toNat - 48) = n
        rw [dig_nat h1]; omega
      · simp [isDig, dig_nat h1]; omega
    · rw [if_neg h1]
      have hm : n % 10 < 10 := Nat.mod_lt _ (by omega)
      obtain ⟨h2, h3, h4, h5⟩ := digitsF_val f (n / 10) (by rw [Nat.pow_succ] at h; omega)
      have hf : 0 < f := by
        rcases Nat.eq_zero_or_pos f with rfl | q
        · simp at h; omega
        · exact q
      refine ⟨?_, ?_, fun _ => by simp, fun _ => ?_⟩
      · rw [val_snoc, h2, dig_nat hm]; omega
      · rw [List.all_append, h3]
        simp [isDig, dig_nat hm]; omega
      · by_cases h6 : 10 ≤ n / 10
        · obtain ⟨d, r, e, hd⟩ := h5 h6
          exact ⟨d, r ++ [dig (n % 10)], by rw [e]; rfl, hd⟩
        · obtain ⟨g, rfl⟩ : ∃ g, f = g + 1 := ⟨f - 1, by omega⟩
          refine ⟨dig (n / 10), [dig (n % 10)], by rw [digitsF, if_pos (by omega)]; rfl, fun e => ?_⟩
          have := congrArg UInt8.toNat e
          rw [dig_nat (by omega)] at this
          have e48 : (48 : UInt8).toNat = 48 := rfl
          omega
theorem digitsF_len : ∀ (f n k : Nat), n < 10 ^ k → 0 < k → (digitsF f n).length ≤ k
  | 0, _, _, _, _ => by simp [digitsF]
  | f + 1, n, k, h, hk => by
    rw [digitsF]
    by_cases h1 : n < 10
    · rw [if_pos h1]; simp; omega
    · rw [if_neg h1]
      obtain ⟨g, rfl⟩ : ∃ g, k = g + 1 := ⟨k - 1, by omega⟩
      have hg : 0 < g := by
        rcases Nat.eq_zero_or_pos g with rfl | q
        · simp at h; omega
        · exact q
      have := digitsF_len f (n / 10) g (by rw [Nat.pow_succ] at h; omega) hg
      simp; omega
/-- What was told is read again. -/
theorem num_digits {n : Nat} (h : n < 1000000) : num (digits n) = some n := by
  have h20 : n < 10 ^ 20 := by have : (10 : Nat) ^ 20 = 100000000000000000000 := rfl; omega
  obtain ⟨h1, h2, h3, h4⟩ := digitsF_val 20 n h20
  have h6 := digitsF_len 20 n 6 h (by omega)
  unfold num digits
  rw [if_neg, if_pos h2, h1]
  rintro (q | q | ⟨q1, q2⟩)
  · exact h3 (by omega) q
  · omega
  · by_cases h10 : 10 ≤ n
    · obtain ⟨d, r, e, hd⟩ := h4 h10
      rw [e] at q1
      simp at q1
      exact hd q1
    · rw [digitsF, if_pos (by omega)] at q2
      simp at q2
end Go.Proofs.YthaicpepgianpakGreatDoor.RunM
namespace Go.Proofs.YthaicpepgianpakGreatDoor.TagM

/-- Whether a number may be a key, a number or a tag. -/
def inB (n : Int) : Bool := decide (0 ≤ n ∧ n < 999983)
theorem inB_iff (n : Int) : inB n = true ↔ 0 ≤ n ∧ n < 999983 := by simp [inB]
theorem inB_not (n : Int) : inB n = false ↔ n < 0 ∨ 999983 ≤ n := by
  simp [inB]; omega

def step (t n : Int) : Int := (4099 * t + n) % 999983
theorem step_bd (t n : Int) : 0 ≤ step t n ∧ step t n < 999983 := by unfold step; omega

/-- The tag behind all numbers, ahead of the key's last step. -/
def run (key : Int) : List Int → Int
  | [] => key
  | n :: l => run (step key (n + 1)) l
theorem run_append (key : Int) (l m : List Int) : run key (l ++ m) = run (run key l) m := by
  induction l generalizing key with
  | nil => rfl
  | cons a l ih => simp [run, ih]
theorem run_snoc (key : Int) (l : List Int) (n : Int) : run key (l ++ [n]) = step (run key l) (n + 1) := by
  rw [run_append]; rfl
theorem run_bd (key : Int) (l : List Int) (h : 0 ≤ key ∧ key < 999983) : 0 ≤ run key l ∧ run key l < 999983 := by
  induction l generalizing key with
  | nil => exact h
  | cons a l ih => exact ih _ (step_bd _ _)

def tag (key : Int) (l : List Int) : Int := step (run key l) key
theorem tag_bd (key : Int) (l : List Int) : 0 ≤ tag key l ∧ tag key l < 999983 := step_bd _ _

/-- The error's number: 0 is none. -/
def err (key : Int) (l : List Int) : Int :=
  if inB key = false then 1 else if 12 < l.length then 4 else if l.all inB then 0 else 1

theorem err_zero {key : Int} {l : List Int} : err key l = 0 ↔ inB key = true ∧ l.length ≤ 12 ∧ l.all inB = true := by
  unfold err
  by_cases h1 : inB key = false
  · simp [h1]
  · by_cases h2 : 12 < l.length
    · simp [h1, h2]; omega
    · have h1' : inB key = true := by simpa using h1
      by_cases h3 : l.all inB = true
      · simp [h1', h2, h3]; omega
      · simp [h1', h2, h3]

/-- 4099 can be undone modulo 999983. -/
theorem step_inj {t u n : Int} (ht : 0 ≤ t ∧ t < 999983) (hu : 0 ≤ u ∧ u < 999983) (h : step t n = step u n) : t = u := by
  unfold step at h; omega
theorem step_inj2 {t n m : Int} (hn : 0 ≤ n ∧ n < 999983) (hm : 0 ≤ m ∧ m < 999983) (h : step t (n + 1) = step t (m + 1)) : n = m := by
  unfold step at h; omega
theorem run_inj {t u : Int} (l : List Int) (ht : 0 ≤ t ∧ t < 999983) (hu : 0 ≤ u ∧ u < 999983) (h : run t l = run u l) : t = u := by
  induction l generalizing t u with
  | nil => exact h
  | cons a l ih => exact step_inj ht hu (ih (step_bd _ _) (step_bd _ _) h)
theorem tag_nil_inj {k o : Int} (hk : 0 ≤ k ∧ k < 999983) (ho : 0 ≤ o ∧ o < 999983) : tag k [] = tag o [] ↔ k = o := by
  constructor
  · intro h; simp only [tag, run, step] at h; omega
  · intro h; rw [h]
/-- What differs in one has another tag. -/
theorem tag_one {key : Int} {a c : List Int} {n m : Int} (hk : 0 ≤ key ∧ key < 999983) (hn : 0 ≤ n ∧ n < 999983) (hm : 0 ≤ m ∧ m < 999983) :
    tag key (a ++ n :: c) = tag key (a ++ m :: c) ↔ n = m := by
  constructor
  · intro h
    unfold tag at h
    have h1 := step_inj (run_bd _ _ hk) (run_bd _ _ hk) h
    rw [run_append, run_append] at h1
    simp only [run] at h1
    exact step_inj2 hn hm (run_inj c (step_bd _ _) (step_bd _ _) h1)
  · intro h; rw [h]
end Go.Proofs.YthaicpepgianpakGreatDoor.TagM
namespace Go.Proofs.YthaicpepgianpakGreatDoor.RingM

/-- What is wrong with a ring, by its number: 0 is nothing. -/
def err (ep key old : Int) : Int :=
  if ep < 0 ∨ 100 < ep then 1 else if TagM.inB key = false then 1 else if TagM.inB old = false then 1 else if ep = 0 ∧ ¬ old = 0 then 3 else 0
theorem err_zero {ep key old : Int} : err ep key old = 0 ↔ (0 ≤ ep ∧ ep ≤ 100) ∧ (0 ≤ key ∧ key < 999983) ∧ (0 ≤ old ∧ old < 999983) ∧ (ep = 0 → old = 0) := by
  rw [← TagM.inB_iff, ← TagM.inB_iff]
  unfold err
  by_cases h1 : ep < 0 ∨ 100 < ep
  · rw [if_pos h1]; constructor
    · intro h; omega
    · intro h; omega
  · rw [if_neg h1]
    cases h2 : TagM.inB key
    · simp
    · cases h3 : TagM.inB old
      · simp
      · by_cases h4 : ep = 0 ∧ ¬ old = 0
        · simp [h4]
        · simp [h4]; omega

/-- What is wrong with turning. -/
def turnErr (ep key old : Int) : Int := if err ep key old = 0 then (if ep = 100 then 4 else 0) else err ep key old
/-- What is wrong with an epoch's key. -/
def keyErr (ep key old n : Int) : Int := if err ep key old = 0 then (if n < 0 ∨ 100 < n then 1 else if n ≤ ep - 2 then 9 else if ep < n then 5 else 0) else err ep key old
theorem turn_zero {ep key old : Int} : turnErr ep key old = 0 ↔ err ep key old = 0 ∧ ep < 100 := by
  unfold turnErr
  by_cases h : err ep key old = 0
  · have h' := err_zero.1 h
    by_cases e : ep = 100
    · rw [if_pos h, if_pos e]; constructor <;> intro h2 <;> omega
    · rw [if_pos h, if_neg e]; constructor <;> intro h2 <;> omega
  · simp [h]
theorem key_zero {ep key old n : Int} : keyErr ep key old n = 0 ↔ err ep key old = 0 ∧ (0 ≤ n ∧ n ≤ 100) ∧ (n = ep ∨ n = ep - 1) := by
  unfold keyErr
  by_cases h : err ep key old = 0
  · simp only [h, if_true, true_and]
    by_cases h1 : n < 0 ∨ 100 < n
    · rw [if_pos h1]; constructor <;> intro h2 <;> omega
    · rw [if_neg h1]
      by_cases h2 : n ≤ ep - 2
      · rw [if_pos h2]; constructor <;> intro h2 <;> omega
      · rw [if_neg h2]
        by_cases h3 : ep < n
        · rw [if_pos h3]; constructor <;> intro h2 <;> omega
        · rw [if_neg h3]; simp; omega
  · simp [h]
end Go.Proofs.YthaicpepgianpakGreatDoor.RingM
