/-
  The plain mathematics of tickets: what is wrong with one (with making one: as with a token, TokenM.makeErr). No Go here.
-/
import Derived.Test.YtfhpfdlbgmgclakDoorTokenMath
namespace Go.Proofs.YtfhpfdlbgmgclakDoor.TicketM

/-- Whether all numbers of a check are such, the ticket's epoch aside. -/
def okB (tn tu tg now : Int) : Bool := TokenM.timeB now && (TagM.inB tn && TokenM.timeB tu && TagM.inB tg)
theorem okB_iff {tn tu tg now : Int} : okB tn tu tg now = true ↔ TokenM.timeB now = true ∧ TagM.inB tn = true ∧ TokenM.timeB tu = true ∧ TagM.inB tg = true := by
  simp [okB, Bool.and_eq_true, and_assoc]

/-- What is wrong behind the key: the tag, the time. -/
def lastErr (right tu tg now : Int) : Int := if tg = right then (if tu < now then 9 else 0) else 8
/-- What is wrong with a ticket. -/
def checkErr (ep key old te tn tu tg now : Int) : Int :=
  if RingM.err ep key old = 0 then
    (if okB tn tu tg now = true then
      (if RingM.keyErr ep key old te = 0 then lastErr (TagM.tag (TokenM.keyOf ep key old te) [2, tn, tu]) tu tg now else RingM.keyErr ep key old te)
    else 1)
  else RingM.err ep key old
theorem check_ring {ep key old te tn tu tg now : Int} (h : ¬ RingM.err ep key old = 0) : checkErr ep key old te tn tu tg now = RingM.err ep key old := if_neg h
theorem check_range {ep key old te tn tu tg now : Int} (h : RingM.err ep key old = 0) (h1 : okB tn tu tg now = false) : checkErr ep key old te tn tu tg now = 1 := by
  unfold checkErr; rw [if_pos h, if_neg (by rw [h1]; simp)]
theorem check_key {ep key old te tn tu tg now : Int} (h : RingM.err ep key old = 0) (h1 : okB tn tu tg now = true) (h2 : ¬ RingM.keyErr ep key old te = 0) : checkErr ep key old te tn tu tg now = RingM.keyErr ep key old te := by
  unfold checkErr; rw [if_pos h, if_pos h1, if_neg h2]
theorem check_last {ep key old te tn tu tg now : Int} (h : RingM.err ep key old = 0) (h1 : okB tn tu tg now = true) (h2 : RingM.keyErr ep key old te = 0) : checkErr ep key old te tn tu tg now = lastErr (TagM.tag (TokenM.keyOf ep key old te) [2, tn, tu]) tu tg now := by
  unfold checkErr; rw [if_pos h, if_pos h1, if_pos h2]
/-- One that bears any tag, asked by the ring that it is of. -/
theorem check_own {ep key old n u g now : Int} (h : TokenM.makeErr ep key old n u = 0) (hg : TagM.inB g = true) (h2 : TokenM.timeB now = true) :
    checkErr ep key old ep n u g now = lastErr (TagM.tag key [2, n, u]) u g now := by
  obtain ⟨he, ha, ht⟩ := TokenM.make_zero.1 h
  obtain ⟨hp, _⟩ := RingM.err_zero.1 he
  rw [check_last he (okB_iff.2 ⟨h2, ha, ht, hg⟩) (RingM.key_zero.2 ⟨he, hp, .inl rfl⟩)]
  unfold TokenM.keyOf
  rw [if_pos rfl]
/-- One that was made. -/
theorem check_made {ep key old n u now : Int} (h : TokenM.makeErr ep key old n u = 0) (h2 : TokenM.timeB now = true) :
    checkErr ep key old ep n u (TagM.tag key [2, n, u]) now = if u < now then 9 else 0 := by
  rw [check_own h ((TagM.inB_iff _).2 (TagM.tag_bd _ _)) h2]
  unfold lastErr
  rw [if_pos rfl]
/-- With another number, or another time, alone. -/
theorem check_number {ep key old n u m now : Int} (h : TokenM.makeErr ep key old n u = 0) (hm : TagM.inB m = true) (hne : ¬ m = n) (h2 : TokenM.timeB now = true) :
    checkErr ep key old ep m u (TagM.tag key [2, n, u]) now = 8 := by
  obtain ⟨he, ha, ht⟩ := TokenM.make_zero.1 h
  obtain ⟨_, hk, _⟩ := RingM.err_zero.1 he
  rw [check_own (TokenM.make_zero.2 ⟨he, hm, ht⟩) ((TagM.inB_iff _).2 (TagM.tag_bd _ _)) h2]
  unfold lastErr
  exact if_neg (fun e => hne ((TagM.tag_one (a := [2]) (c := [u]) hk ((TagM.inB_iff n).1 ha) ((TagM.inB_iff m).1 hm)).1 e).symm)
theorem check_until {ep key old n u m now : Int} (h : TokenM.makeErr ep key old n u = 0) (hm : TokenM.timeB m = true) (hne : ¬ m = u) (h2 : TokenM.timeB now = true) :
    checkErr ep key old ep n m (TagM.tag key [2, n, u]) now = 8 := by
  obtain ⟨he, ha, ht⟩ := TokenM.make_zero.1 h
  obtain ⟨_, hk, _⟩ := RingM.err_zero.1 he
  rw [check_own (TokenM.make_zero.2 ⟨he, ha, hm⟩) ((TagM.inB_iff _).2 (TagM.tag_bd _ _)) h2]
  unfold lastErr
  exact if_neg (fun e => hne ((TagM.tag_one (a := [2, n]) (c := []) hk ((TagM.inB_iff u).1 (TokenM.timeB_in ht)) ((TagM.inB_iff m).1 (TokenM.timeB_in hm))).1 e).symm)
end Go.Proofs.YtfhpfdlbgmgclakDoor.TicketM
