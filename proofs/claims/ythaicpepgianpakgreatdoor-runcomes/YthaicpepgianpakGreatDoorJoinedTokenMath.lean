/-
  Texts joined: TokenMath TicketMath.
-/
import Derived.Test.YthaicpepgianpakGreatDoorJoinedRunMath
namespace Go.Proofs.YthaicpepgianpakGreatDoor.TokenM

/-- Whether a number may be a time. -/
def timeB (n : Int) : Bool := decide (0 ≤ n ∧ n ≤ 100000)
theorem timeB_iff (n : Int) : timeB n = true ↔ 0 ≤ n ∧ n ≤ 100000 := by simp [timeB]
theorem timeB_not (n : Int) : timeB n = false ↔ n < 0 ∨ 100000 < n := by
  simp [timeB]; omega
theorem timeB_in {n : Int} (h : timeB n = true) : TagM.inB n = true := by
  rw [timeB_iff] at h; rw [TagM.inB_iff]; omega

/-- What is wrong with making one, by its number: 0 is nothing. -/
def makeErr (ep key old a t : Int) : Int :=
  if RingM.err ep key old = 0 then (if TagM.inB a = true then (if timeB t = true then 0 else 1) else 1) else RingM.err ep key old
theorem make_zero {ep key old a t : Int} : makeErr ep key old a t = 0 ↔ RingM.err ep key old = 0 ∧ TagM.inB a = true ∧ timeB t = true := by
  unfold makeErr
  by_cases h : RingM.err ep key old = 0
  · rw [if_pos h]
    cases TagM.inB a <;> cases timeB t <;> simp [h]
  · rw [if_neg h]; simp [h]

/-- Whether all numbers of a check are such, the token's epoch aside. -/
def okB (ta tt tg a now life : Int) : Bool := TagM.inB a && timeB now && timeB life && (TagM.inB ta && timeB tt && TagM.inB tg)
theorem okB_iff {ta tt tg a now life : Int} : okB ta tt tg a now life = true ↔ TagM.inB a = true ∧ timeB now = true ∧ timeB life = true ∧ TagM.inB ta = true ∧ timeB tt = true ∧ TagM.inB tg = true := by
  simp [okB, Bool.and_eq_true, and_assoc]

/-- The key of an epoch, where there is one. -/
def keyOf (ep key old te : Int) : Int := if te = ep then key else old
theorem keyOf_bd {ep key old te : Int} (h : RingM.err ep key old = 0) : 0 ≤ keyOf ep key old te ∧ keyOf ep key old te < 999983 := by
  obtain ⟨_, hk, ho, _⟩ := RingM.err_zero.1 h
  unfold keyOf
  by_cases e : te = ep
  · rw [if_pos e]; exact hk
  · rw [if_neg e]; exact ho

/-- What is wrong behind the key: the tag, the address, the time. -/
def lastErr (right ta tt tg a now life : Int) : Int :=
  if tg = right then (if ta = a then (if now < tt then 9 else if life < now - tt then 9 else 0) else 7) else 8
/-- What is wrong with a token. -/
def checkErr (ep key old te ta tt tg a now life : Int) : Int :=
  if RingM.err ep key old = 0 then
    (if okB ta tt tg a now life = true then
      (if RingM.keyErr ep key old te = 0 then lastErr (TagM.tag (keyOf ep key old te) [1, ta, tt]) ta tt tg a now life else RingM.keyErr ep key old te)
    else 1)
  else RingM.err ep key old
theorem check_ring {ep key old te ta tt tg a now life : Int} (h : ¬ RingM.err ep key old = 0) : checkErr ep key old te ta tt tg a now life = RingM.err ep key old := if_neg h
theorem check_range {ep key old te ta tt tg a now life : Int} (h : RingM.err ep key old = 0) (h1 : okB ta tt tg a now life = false) : checkErr ep key old te ta tt tg a now life = 1 := by
  unfold checkErr; rw [if_pos h, if_neg (by rw [h1]; simp)]
theorem check_key {ep key old te ta tt tg a now life : Int} (h : RingM.err ep key old = 0) (h1 : okB ta tt tg a now life = true) (h2 : ¬ RingM.keyErr ep key old te = 0) : checkErr ep key old te ta tt tg a now life = RingM.keyErr ep key old te := by
  unfold checkErr; rw [if_pos h, if_pos h1, if_neg h2]
theorem check_last {ep key old te ta tt tg a now life : Int} (h : RingM.err ep key old = 0) (h1 : okB ta tt tg a now life = true) (h2 : RingM.keyErr ep key old te = 0) : checkErr ep key old te ta tt tg a now life = lastErr (TagM.tag (keyOf ep key old te) [1, ta, tt]) ta tt tg a now life := by
  unfold checkErr; rw [if_pos h, if_pos h1, if_pos h2]
/-- One that was made, asked of at once. -/
theorem check_made {ep key old a t a' now life : Int} (h : makeErr ep key old a t = 0) (h1 : TagM.inB a' = true) (h2 : timeB now = true) (h3 : timeB life = true) :
    checkErr ep key old ep a t (TagM.tag key [1, a, t]) a' now life = if a = a' then (if now < t then 9 else if life < now - t then 9 else 0) else 7 := by
  obtain ⟨he, ha, ht⟩ := make_zero.1 h
  obtain ⟨hp, _⟩ := RingM.err_zero.1 he
  rw [check_last he (okB_iff.2 ⟨h1, h2, h3, ha, ht, (TagM.inB_iff _).2 (TagM.tag_bd _ _)⟩) (RingM.key_zero.2 ⟨he, hp, .inl rfl⟩)]
  unfold lastErr keyOf
  rw [if_pos rfl, if_pos rfl]
theorem check_made_bad {ep key old a t a' now life : Int} (h : makeErr ep key old a t = 0) (h1 : TagM.inB a' = false ∨ timeB now = false ∨ timeB life = false) :
    checkErr ep key old ep a t (TagM.tag key [1, a, t]) a' now life = 1 := by
  obtain ⟨he, ha, ht⟩ := make_zero.1 h
  refine check_range he ?_
  unfold okB
  rcases h1 with h1 | h1 | h1 <;> simp [h1]
/-- One turn later its ring still knows it; two turns later no more. -/
theorem check_turned {ep key old k a t now life : Int} (h : makeErr ep key old a t = 0) (hr : RingM.err (ep + 1) k key = 0) (h2 : timeB now = true) (h3 : timeB life = true) (h4 : ¬ now < t) (h5 : ¬ life < now - t) :
    checkErr (ep + 1) k key ep a t (TagM.tag key [1, a, t]) a now life = 0 := by
  obtain ⟨he, ha, ht⟩ := make_zero.1 h
  obtain ⟨hp, _⟩ := RingM.err_zero.1 he
  rw [check_last hr (okB_iff.2 ⟨ha, h2, h3, ha, ht, (TagM.inB_iff _).2 (TagM.tag_bd _ _)⟩) (RingM.key_zero.2 ⟨hr, hp, .inr (by omega)⟩)]
  unfold lastErr keyOf
  rw [if_neg (show ¬ ep = ep + 1 by omega), if_pos rfl, if_pos rfl, if_neg h4, if_neg h5]
theorem check_turned2 {ep key old k l a t now life : Int} (h : makeErr ep key old a t = 0) (hr : RingM.err (ep + 1 + 1) k l = 0) (h2 : timeB now = true) (h3 : timeB life = true) :
    checkErr (ep + 1 + 1) k l ep a t (TagM.tag key [1, a, t]) a now life = 9 := by
  obtain ⟨he, ha, ht⟩ := make_zero.1 h
  obtain ⟨hp, _⟩ := RingM.err_zero.1 he
  have hk : RingM.keyErr (ep + 1 + 1) k l ep = 9 := by unfold RingM.keyErr; rw [if_pos hr, if_neg (by omega), if_pos (by omega)]
  rw [check_key hr (okB_iff.2 ⟨ha, h2, h3, ha, ht, (TagM.inB_iff _).2 (TagM.tag_bd _ _)⟩) (by rw [hk]; omega), hk]
theorem check_wrong {ep key old a t n now life : Int} (h : makeErr ep key old a t = 0) (hn : TagM.inB n = true) (hne : ¬ n = TagM.tag key [1, a, t]) (h2 : timeB now = true) (h3 : timeB life = true) :
    checkErr ep key old ep a t n a now life = 8 := by
  obtain ⟨he, ha, ht⟩ := make_zero.1 h
  obtain ⟨hp, _⟩ := RingM.err_zero.1 he
  rw [check_last he (okB_iff.2 ⟨ha, h2, h3, ha, ht, hn⟩) (RingM.key_zero.2 ⟨he, hp, .inl rfl⟩)]
  unfold lastErr keyOf
  rw [if_pos rfl, if_neg hne]
end Go.Proofs.YthaicpepgianpakGreatDoor.TokenM
namespace Go.Proofs.YthaicpepgianpakGreatDoor.TicketM

/-- Whether all numbers of a check are such, the ticket's epoch aside. -/
def okB (tn tu tg now : Int) : Bool := TokenM.timeB now && (TagM.inB tn && TokenM.timeB tu && TagM.inB tg)
theorem okB_iff {tn tu tg now : Int} : okB tn tu tg now = true ↔ TokenM.timeB now = true ∧ TagM.inB tn = true ∧ TokenM.timeB tu = true ∧ TagM.inB tg = true := by
  simp [okB, Bool.and_eq_true, and_assoc]

/-- What is wrong behind the key: the tag, the time. -/
def lastErr (right tu tg now : Int) : Int := if tg = right then (if tu < now then 9 else 0) else 8
/-- What is wrong with a ticket. -/
def checkErr (ep key old te tn tu tg now : Int) : Int :=
  if RingM.err ep key old = 0 then
    (if okB tn tu tg now = true then
      (if RingM.keyErr ep key old te = 0 then lastErr (TagM.tag (TokenM.keyOf ep key old te) [2, tn, tu]) tu tg now else RingM.keyErr ep key old te)
    else 1)
  else RingM.err ep key old
theorem check_ring {ep key old te tn tu tg now : Int} (h : ¬ RingM.err ep key old = 0) : checkErr ep key old te tn tu tg now = RingM.err ep key old := if_neg h
theorem check_range {ep key old te tn tu tg now : Int} (h : RingM.err ep key old = 0) (h1 : okB tn tu tg now = false) : checkErr ep key old te tn tu tg now = 1 := by
  unfold checkErr; rw [if_pos h, if_neg (by rw [h1]; simp)]
theorem check_key {ep key old te tn tu tg now : Int} (h : RingM.err ep key old = 0) (h1 : okB tn tu tg now = true) (h2 : ¬ RingM.keyErr ep key old te = 0) : checkErr ep key old te tn tu tg now = RingM.keyErr ep key old te := by
  unfold checkErr; rw [if_pos h, if_pos h1, if_neg h2]
theorem check_last {ep key old te tn tu tg now : Int} (h : RingM.err ep key old = 0) (h1 : okB tn tu tg now = true) (h2 : RingM.keyErr ep key old te = 0) : checkErr ep key old te tn tu tg now = lastErr (TagM.tag (TokenM.keyOf ep key old te) [2, tn, tu]) tu tg now := by
  unfold checkErr; rw [if_pos h, if_pos h1, if_pos h2]
/-- One that bears any tag, asked by the ring that it is of. -/
theorem check_own {ep key old n u g now : Int} (h : TokenM.makeErr ep key old n u = 0) (hg : TagM.inB g = true) (h2 : TokenM.timeB now = true) :
    checkErr ep key old ep n u g now = lastErr (TagM.tag key [2, n, u]) u g now := by
  obtain ⟨he, ha, ht⟩ := TokenM.make_zero.1 h
  obtain ⟨hp, _⟩ := RingM.err_zero.1 he
  rw [check_last he (okB_iff.2 ⟨h2, ha, ht, hg⟩) (RingM.key_zero.2 ⟨he, hp, .inl rfl⟩)]
  unfold TokenM.keyOf
  rw [if_pos rfl]
/-- One that was made. -/
theorem check_made {ep key old n u now : Int} (h : TokenM.makeErr ep key old n u = 0) (h2 : TokenM.timeB now = true) :
    checkErr ep key old ep n u (TagM.tag key [2, n, u]) now = if u < now then 9 else 0 := by
  rw [check_own h ((TagM.inB_iff _).2 (TagM.tag_bd _ _)) h2]
  unfold lastErr
  rw [if_pos rfl]
/-- With another number, or another time, alone. -/
theorem check_number {ep key old n u m now : Int} (h : TokenM.makeErr ep key old n u = 0) (hm : TagM.inB m = true) (hne : ¬ m = n) (h2 : TokenM.timeB now = true) :
    checkErr ep key old ep m u (TagM.tag key [2, n, u]) now = 8 := by
  obtain ⟨he, ha, ht⟩ := TokenM.make_zero.1 h
  obtain ⟨_, hk, _⟩ := RingM.err_zero.1 he
  rw [check_own (TokenM.make_zero.2 ⟨he, hm, ht⟩) ((TagM.inB_iff _).2 (TagM.tag_bd _ _)) h2]
  unfold lastErr
  exact if_neg (fun e => hne ((TagM.tag_one (a := [2]) (c := [u]) hk ((TagM.inB_iff n).1 ha) ((TagM.inB_iff m).1 hm)).1 e).symm)
theorem check_until {ep key old n u m now : Int} (h : TokenM.makeErr ep key old n u = 0) (hm : TokenM.timeB m = true) (hne : ¬ m = u) (h2 : TokenM.timeB now = true) :
    checkErr ep key old ep n m (TagM.tag key [2, n, u]) now = 8 := by
  obtain ⟨he, ha, ht⟩ := TokenM.make_zero.1 h
  obtain ⟨_, hk, _⟩ := RingM.err_zero.1 he
  rw [check_own (TokenM.make_zero.2 ⟨he, ha, hm⟩) ((TagM.inB_iff _).2 (TagM.tag_bd _ _)) h2]
  unfold lastErr
  exact if_neg (fun e => hne ((TagM.tag_one (a := [2, n]) (c := []) hk ((TagM.inB_iff u).1 (TokenM.timeB_in ht)) ((TagM.inB_iff m).1 (TokenM.timeB_in hm))).1 e).symm)
end Go.Proofs.YthaicpepgianpakGreatDoor.TicketM
