/-
  The plain mathematics of the library's words on texts: how they are this session's. No Go here.
-/
import Derived.Test.YthaicpepgianpakGreatDoorJoinedConnMath
import Derived.Lib.AtoiAllCases
import Derived.Lib.ItoaNum
import Derived.Lib.SplitLaws
import Derived.Lib.Bytealg
import Derived.Lib.Join
namespace Go.Proofs.YthaicpepgianpakGreatDoor.RunM

theorem dec_digits : ∀ (u : Nat), u < 10 ^ 19 → Go.Lib.decDigits u = digits u := by
  intro u
  induction u using Nat.strongRecOn with
  | ind u ih =>
    intro h
    rw [Go.Lib.decDigits]
    by_cases h1 : u < 10
    · rw [dif_pos h1, digits_small h1]; rfl
    · rw [dif_neg h1, digits_step h1 h, ih (u / 10) (by omega) (by omega)]; rfl
theorem itoa_digits {n : Int} (h0 : 0 ≤ n) (h1 : n < 1000000000000000000) : Go.Lib.itoa n = digits n.toNat := by
  unfold Go.Lib.itoa
  rw [if_neg (by omega), dec_digits _ (by have : (10 : Nat) ^ 19 = 10000000000000000000 := rfl; omega)]
theorem dig_of {b : UInt8} (h : isDig b = true) : dig (b.toNat - 48) = b := by
  unfold isDig at h
  have h := of_decide_eq_true h
  unfold dig
  rw [show 48 + (b.toNat - 48) = b.toNat by omega]
  exact UInt8.ofNat_toNat
/-- What was read is told again. -/
theorem digits_val : ∀ (s : List UInt8), s ≠ [] → s.all isDig = true → s.length ≤ 6 → ¬ (s.head? = some 48 ∧ 1 < s.length) → digits (val s) = s := by
  apply snoc_ind
  · intro h; exact absurd rfl h
  · intro q b ih _ ha hl hz
    rw [List.all_append, Bool.and_eq_true] at ha
    have hb : isDig b = true := by simpa using ha.2
    have hbn := hb
    unfold isDig at hbn
    have hbn := of_decide_eq_true hbn
    rw [val_snoc]
    by_cases hq : q = []
    · subst hq
      rw [show val [] = 0 from rfl, digits_small (by omega)]
      simp [dig_of hb]
    · have hl' : q.length + 1 ≤ 6 := by simpa using hl
      have hq0 : 0 < q.length := List.length_pos_iff.2 hq
      have hh : (q ++ [b]).head? = q.head? := by
        cases q with
        | nil => exact absurd rfl hq
        | cons a r => rfl
      have hz' : ¬ q.head? = some 48 := fun e => hz ⟨hh.trans e, by simp; omega⟩
      have ih' := ih hq ha.1 (by omega) (fun e => hz' e.1)
      have hv : 0 < val q := by
        apply Nat.pos_of_ne_zero
        intro e
        rw [e, digits_small (by omega)] at ih'
        rw [← ih'] at hz'
        exact hz' rfl
      have hlt := val_lt q ha.1
      have h6 : 10 ^ q.length ≤ 10 ^ 6 := Nat.pow_le_pow_right (by omega) (by omega)
      have e6 : (10 : Nat) ^ 6 = 1000000 := rfl
      have e19 : (10 : Nat) ^ 19 = 10000000000000000000 := rfl
      rw [digits_step (by omega) (by omega), show (val q * 10 + (b.toNat - 48)) / 10 = val q by omega, show (val q * 10 + (b.toNat - 48)) % 10 = b.toNat - 48 by omega, ih', dig_of hb]
theorem parse_val : ∀ (l : List UInt8) (acc : Nat), l.all isDig = true → (acc + 1) * 10 ^ l.length ≤ 1000000000000000000 → Go.Lib.parseUint10 acc l = .ok (l.foldl (fun n b => n * 10 + (b.toNat - 48)) acc)
  | [], acc, _, _ => rfl
  | c :: r, acc, h, hb => by
    rw [List.all_cons, Bool.and_eq_true] at h
    have hc := h.1
    unfold isDig at hc
    have hc := of_decide_eq_true hc
    rw [List.length_cons, Nat.pow_succ] at hb
    have h1 : 0 < 10 ^ r.length := Nat.pow_pos (by omega)
    have h2 : (acc + 1) * 10 ≤ (acc + 1) * (10 ^ r.length * 10) := Nat.mul_le_mul_left _ (by omega)
    have h3 : (acc * 10 + (c.toNat - 48) + 1) * 10 ^ r.length ≤ ((acc + 1) * 10) * 10 ^ r.length := Nat.mul_le_mul_right _ (by omega)
    have h4 : ((acc + 1) * 10) * 10 ^ r.length = (acc + 1) * (10 ^ r.length * 10) := by rw [Nat.mul_assoc, Nat.mul_comm 10]
    rw [Go.Lib.parseUint10, if_pos hc, if_neg (by omega), if_neg (by omega), parse_val r _ h.2 (by omega)]
    rfl
/-- A number as the library reads it. -/
theorem num_some {p : List UInt8} {n : Nat} (h : num p = some n) : Go.Lib.atoiAll p = .ok (n : Int) ∧ digits n = p ∧ n < 1000000 := by
  have hn := num_lt h
  unfold num at h
  split at h
  · cases h
  · rename_i hno
    split at h
    · rename_i ha
      cases h
      have h1 : p ≠ [] := fun e => hno (.inl e)
      have h2 : p.length ≤ 6 := Nat.le_of_not_lt (fun q => hno (.inr (.inl q)))
      have h3 : ¬ (p.head? = some 48 ∧ 1 < p.length) := fun q => hno (.inr (.inr q))
      refine ⟨?_, digits_val p h1 ha h2 h3, hn⟩
      cases p with
      | nil => exact absurd rfl h1
      | cons c r =>
        have hc := ha
        rw [List.all_cons, Bool.and_eq_true] at hc
        have hc := hc.1
        unfold isDig at hc
        have hc := of_decide_eq_true hc
        rw [Go.Lib.atoiAll_plain c r (by omega) (by omega)]
        have hp : Go.Lib.parseMag (c :: r) = .ok (val (c :: r)) := by
          unfold Go.Lib.parseMag
          rw [if_neg (by simp), parse_val (c :: r) 0 ha (by
            have h6 : 10 ^ (c :: r).length ≤ 10 ^ 6 := Nat.pow_le_pow_right (by omega) h2
            have e6 : (10 : Nat) ^ 6 = 1000000 := rfl
            omega)]
          rfl
        rw [hp]
        show (if 9223372036854775808 ≤ val (c :: r) then Go.Lib.NumEnd.range else Go.Lib.NumEnd.ok ((val (c :: r) : Nat) : Int)) = _
        rw [if_neg (by omega)]
    · cases h
theorem num_none {p : List UInt8} (h : num p = none) {v : Int} (h0 : 0 ≤ v) (h1 : v ≤ 999999) : ¬ digits v.toNat = p := fun e => by
  have := num_digits (n := v.toNat) (by omega)
  rw [e, h] at this
  cases this

/-- A text's first piece, and what lies behind the byte. -/
def brk (c : UInt8) : List UInt8 → List UInt8 × List UInt8
  | [] => ([], [])
  | x :: r => if x = c then ([], r) else (x :: (brk c r).1, (brk c r).2)
theorem index_byte (c : UInt8) : ∀ s : List UInt8, Go.Lib.index s [c] = Go.Lib.indexByte s c
  | [] => rfl
  | b :: l => by
    rw [Go.Lib.index, Go.Lib.indexByte, index_byte c l]
    by_cases h : b = c
    · subst h; simp [List.isPrefixOf]
    · have h' : ¬ c = b := fun e => h e.symm
      simp [List.isPrefixOf, h, h']
theorem split_cut (c : UInt8) : ∀ s : List UInt8, Go.Lib.splitK [c] 0 (Go.Lib.count s [c]) s = cut c s
  | [] => by rw [Go.Lib.count_miss (by rfl)]; rfl
  | b :: l => by
    have ih := split_cut c l
    by_cases h : b = c
    · subst h
      rw [Go.Lib.count_cons_eq, Nat.add_comm, Go.Lib.splitK]
      have e : Go.Lib.index (b :: l) [b] = 0 := by rw [Go.Lib.index]; simp [List.isPrefixOf]
      rw [e]
      simp [cut, ih]
    · rw [Go.Lib.count_cons_ne b c l h]
      have hp : ([c] : List UInt8).isPrefixOf (b :: l) = false := by simp [List.isPrefixOf, Ne.symm h]
      have hix : Go.Lib.index (b :: l) [c] = if Go.Lib.index l [c] == -1 then -1 else Go.Lib.index l [c] + 1 := by rw [Go.Lib.index, hp]; simp
      by_cases hm : Go.Lib.index l [c] = -1
      · rw [Go.Lib.count_miss hm] at ih ⊢
        rw [Go.Lib.splitK] at ih ⊢
        simp [cut, h, ← ih]
      · have hge := Go.Lib.index_ge l [c]
        obtain ⟨j, hj⟩ : ∃ j : Nat, Go.Lib.index l [c] = j := ⟨(Go.Lib.index l [c]).toNat, by omega⟩
        obtain ⟨k, hk⟩ : ∃ k, Go.Lib.count l [c] = k + 1 := by
          rw [Go.Lib.count_hit (by simp) hj]
          exact ⟨_, Nat.add_comm 1 _⟩
        have hix' : Go.Lib.index (b :: l) [c] = ((j + 1 : Nat) : Int) := by rw [hix, if_neg (fun e => hm (beq_iff_eq.1 e)), hj]; omega
        rw [hk] at ih ⊢
        rw [Go.Lib.splitK, hj, if_neg (by first | (simp; done) | (simp; omega))] at ih
        rw [Go.Lib.splitK, hix', if_neg (by first | (simp; done) | (simp; omega))]
        simp only [Int.toNat_natCast, Nat.add_zero, List.length_cons, List.length_nil, Nat.zero_add] at ih ⊢
        unfold cut
        rw [if_neg h, ← ih]
        simp
theorem brk_miss (c : UInt8) : ∀ s : List UInt8, Go.Lib.indexByte s c = -1 → brk c s = (s, [])
  | [], _ => rfl
  | b :: l, h => by
    rw [Go.Lib.indexByte] at h
    by_cases hb : b = c
    · subst hb; simp at h
    · have hge := Go.Lib.indexByte_ge l c
      rw [if_neg (by simpa using hb)] at h
      split at h
      · rename_i hm
        rw [brk, if_neg hb, brk_miss c l (by simpa using hm)]
      · omega
theorem brk_hit (c : UInt8) : ∀ (s : List UInt8) (i : Nat), Go.Lib.indexByte s c = i → brk c s = (s.take i, s.drop (i + 1)) ∧ i < s.length
  | [], i, h => by simp [Go.Lib.indexByte] at h
  | b :: l, i, h => by
    rw [Go.Lib.indexByte] at h
    by_cases hb : b = c
    · subst hb
      simp at h
      obtain rfl : i = 0 := by omega
      simp [brk]
    · rw [if_neg (by simpa using hb)] at h
      split at h
      · omega
      · obtain ⟨j, rfl⟩ : ∃ j, i = j + 1 := ⟨i - 1, by have := Go.Lib.indexByte_ge l c; rename_i hm; simp at hm; omega⟩
        obtain ⟨h1, h2⟩ := brk_hit c l j (by omega)
        rw [brk, if_neg hb, h1]
        simp; omega
theorem cut_brk (c : UInt8) : ∀ s : List UInt8, c ∈ s → cut c s = (brk c s).1 :: cut c (brk c s).2
  | [], h => by simp at h
  | b :: l, h => by
    by_cases hb : b = c
    · simp [cut, brk, hb]
    · have hl : c ∈ l := by
        rcases List.mem_cons.1 h with e | e
        · exact absurd e.symm hb
        · exact e
      rw [cut, if_neg hb, cut_brk c l hl, brk, if_neg hb]
theorem cut_none (c : UInt8) : ∀ s : List UInt8, c ∉ s → cut c s = [s] ∧ brk c s = (s, [])
  | [], _ => ⟨rfl, rfl⟩
  | b :: l, h => by
    have hb : ¬ b = c := fun e => h (by rw [e]; exact List.mem_cons_self ..)
    obtain ⟨h1, h2⟩ := cut_none c l (fun e => h (List.mem_cons_of_mem _ e))
    exact ⟨by rw [cut, if_neg hb, h1], by rw [brk, if_neg hb, h2]⟩
theorem lines_nil : lines [] = [] := rfl
/-- The lines of a text, one by one. -/
theorem lines_step {s : List UInt8} (h : s ≠ []) : lines s = (brk 10 s).1 :: lines (brk 10 s).2 := by
  by_cases hm : (10 : UInt8) ∈ s
  · unfold lines
    rw [cut_brk 10 s hm]
    generalize (brk 10 s).2 = r
    have hc := cut_ne 10 r
    generalize cut 10 r = t at hc
    cases t with
    | nil => exact absurd rfl hc
    | cons a q =>
      rw [List.getLast?_cons_cons]
      split <;> simp_all
  · obtain ⟨h1, h2⟩ := cut_none 10 s hm
    rw [h2]
    unfold lines
    rw [h1]
    simp [h, cut]
theorem brk_len (c : UInt8) : ∀ s : List UInt8, s ≠ [] → (brk c s).1.length + (brk c s).2.length ≤ s.length ∧ (brk c s).2.length < s.length
  | [], h => absurd rfl h
  | b :: l, _ => by
    by_cases hb : b = c
    · simp [brk, hb]
    · rw [brk, if_neg hb]
      by_cases hl : l = []
      · subst hl; simp [brk]
      · have := brk_len c l hl
        simp; omega
theorem lines_len : ∀ (k : Nat) (s : List UInt8), s.length ≤ k → (lines s).length ≤ s.length ∧ ∀ l ∈ lines s, l.length ≤ s.length
  | 0, s, h => by
    obtain rfl : s = [] := List.length_eq_zero_iff.1 (by omega)
    simp [lines_nil]
  | k + 1, s, h => by
    by_cases hs : s = []
    · subst hs; simp [lines_nil]
    · have hb := brk_len 10 s hs
      obtain ⟨h1, h2⟩ := lines_len k (brk 10 s).2 (by omega)
      rw [lines_step hs]
      refine ⟨by simp; omega, fun l hl => ?_⟩
      rcases List.mem_cons.1 hl with e | e
      · rw [e]; omega
      · have := h2 l e; omega
theorem row_join : ∀ ns : List Nat, row ns = Go.Lib.join (ns.map digits) [32]
  | [] => rfl
  | [n] => by rw [List.map_cons, List.map_nil, Go.Lib.join_one]; rfl
  | n :: m :: r => by
    rw [row, row_join (m :: r), List.map_cons, Go.Lib.join_cons, List.map_cons, Go.Lib.join_cons]
    simp [Go.Lib.joinTail]
theorem digits_len {n : Nat} (h : n < 1000000) : (digits n).length ≤ 6 := digitsF_len 20 n 6 h (by omega)
theorem row_len : ∀ (ns : List Nat), (∀ n ∈ ns, n < 1000000) → (row ns).length ≤ 7 * ns.length
  | [], _ => by simp [row]
  | [n], h => by
    have := digits_len (h n (by simp))
    simp [row]; omega
  | n :: m :: r, h => by
    have h1 := digits_len (h n (by simp))
    have h2 := row_len (m :: r) (fun k hk => h k (List.mem_cons_of_mem _ hk))
    rw [row, List.length_append, List.length_cons]
    simp only [List.length_cons] at h2 ⊢
    omega
end Go.Proofs.YthaicpepgianpakGreatDoor.RunM
