/-
  The plain mathematics of a server: what it is, what a hello, a ticket, a turn, a crash and a pull leave, and what is told. No Go here.
-/
import Derived.Test.YthaicpepgianpakGreatDoorJoinedLoadMath
import Derived.Test.YthaicpepgianpakGreatDoorJoinedVaultMath
import Derived.Test.YthaicpepgianpakGreatDoorQueueMath
namespace Go.Proofs.YthaicpepgianpakGreatDoor.ServM

/-- A server: its ring, its life, who waits, which number is next and up to which they are kept, what is spent, as it is and as it is kept, how many conns were told. -/
structure St where
  ep : Int
  key : Int
  old : Int
  life : Int
  L : List (Int × Int)
  n : Int
  m : Int
  N : List (Int × Int)
  K : List (Int × Int)
  k : Int
/-- Who comes. -/
structure Hi where
  a : Int
  te : Int
  ta : Int
  tt : Int
  tg : Int
  ke : Int
  kn : Int
  ku : Int
  kg : Int
  s : ByteArray
structure Good (x : St) : Prop where
  ring : RingM.err x.ep x.key x.old = 0
  life : TokenM.timeB x.life = true
  len : x.L.length ≤ 8
  conns : ∀ c ∈ x.L, c.1 = 0 ∧ 0 ≤ c.2 ∧ c.2 < x.k
  n0 : 0 ≤ x.n
  nm : x.n ≤ x.m
  m1 : x.m ≤ 1000
  m8 : x.m % 8 = 0
  now : SpentM.Good x.N
  kept : SpentM.Good x.K
  k0 : 0 ≤ x.k
  k1 : x.k ≤ 4096
def new (seed life : Int) : St := ⟨0, TagM.tag seed [0], 0, life, [], 0, 0, [], [], 0⟩
theorem new_good {seed life : Int} (h : TokenM.timeB life = true) : Good (new seed life) :=
  ⟨RingM.err_zero.2 ⟨by simp [new], TagM.tag_bd _ _, by simp [new], fun _ => rfl⟩, h, by simp [new], by simp [new], by simp [new], by simp [new], by simp [new], by simp [new], VaultM.nil_good, VaultM.nil_good, by simp [new], by simp [new]⟩
/-- What is answered, ahead of the conns' end. -/
def kind (x : St) (h : Hi) (now : Int) : Int := JudgeM.kind x.ep x.key x.old h.a h.te h.ta h.tt h.tg h.ke h.kn h.ku h.kg x.L.length now x.life
def may (x : St) (h : Hi) (now : Int) : Bool := JudgeM.may x.ep x.key x.old h.a h.te h.ta h.tt h.tg h.ke h.kn h.ku h.kg h.s.size x.L.length now x.life
def ask (x : St) (h : Hi) (now : Int) : Int := JudgeM.ansErr x.ep x.key x.old h.a x.L.length now x.life
/-- What is wrong with a hello. -/
def err (x : St) (h : Hi) (now : Int) : Int := if ask x h now = 0 then (if kind x h now = 1 ∧ 4096 ≤ x.k then 4 else 0) else ask x h now
/-- Whether one is welcome; whether a token is told; whether the early bytes are taken. -/
def in_ (x : St) (h : Hi) (now : Int) : Bool := decide (err x h now = 0 ∧ kind x h now = 1)
def retry (x : St) (h : Hi) (now : Int) : Bool := decide (err x h now = 0 ∧ kind x h now = 0)
def soon (x : St) (h : Hi) (now : Int) : Bool := in_ x h now && may x h now && decide (SpentM.spendErr x.N h.kn h.ku now = 0)
/-- The answer's numbers: its kind, its token, its conn's number. -/
def aKind (x : St) (h : Hi) (now : Int) : Int := if err x h now = 0 then kind x h now else 0
def aEp (x : St) (h : Hi) (now : Int) : Int := if retry x h now = true then x.ep else 0
def aAd (x : St) (h : Hi) (now : Int) : Int := if retry x h now = true then h.a else 0
def aTi (x : St) (h : Hi) (now : Int) : Int := if retry x h now = true then now else 0
def aTg (x : St) (h : Hi) (now : Int) : Int := if retry x h now = true then TagM.tag x.key [1, h.a, now] else 0
def aCo (x : St) (h : Hi) (now : Int) : Int := if in_ x h now = true then x.k else 0
def spent (x : St) (h : Hi) (now : Int) : List (Int × Int) := SpentM.left x.N now ++ [(h.kn, h.ku)]
/-- What a hello leaves. -/
def next (x : St) (h : Hi) (now : Int) : St :=
  if in_ x h now = true then
    (if soon x h now = true then { x with L := x.L ++ [(0, x.k)], k := x.k + 1, N := spent x h now, K := spent x h now } else { x with L := x.L ++ [(0, x.k)], k := x.k + 1 })
  else x
/-- What a ticket leaves, and what is wrong with one. -/
def tErr (x : St) (u : Int) : Int := if TokenM.timeB u = true then (if x.n = 1000 then 4 else 0) else 1
def tick (x : St) (u : Int) : St := if tErr x u = 0 then { x with n := x.n + 1, m := IssueM.up x.n x.m } else x
def tEp (x : St) (u : Int) : Int := if tErr x u = 0 then x.ep else 0
def tNo (x : St) (u : Int) : Int := if tErr x u = 0 then x.n else 0
def tUn (x : St) (u : Int) : Int := if tErr x u = 0 then u else 0
def tTg (x : St) (u : Int) : Int := if tErr x u = 0 then TagM.tag x.key [2, x.n, u] else 0
/-- What a turn leaves. -/
def turn (x : St) : St := if RingM.turnErr x.ep x.key x.old = 0 then { x with ep := x.ep + 1, key := TagM.tag x.key [x.ep + 1], old := x.key } else x
def crash (x : St) : St := { x with L := [], n := x.m, N := x.K }
def pull (x : St) : St := { x with L := x.L.tail }

theorem kind_ways (x : St) (h : Hi) (now : Int) : kind x h now = 0 ∨ kind x h now = 1 ∨ kind x h now = 2 := by
  unfold kind JudgeM.kind
  by_cases q : JudgeM.ansErr x.ep x.key x.old h.a x.L.length now x.life = 0
  · rw [if_pos q]
    generalize JudgeM.shownB x.ep x.key x.old h.te h.ta h.tt h.tg h.a now x.life = t
    generalize JudgeM.rightB x.ep x.key x.old h.ke h.kn h.ku h.kg now = r
    unfold LoadM.kind
    repeat' split
    all_goals simp
  · rw [if_neg q]; exact .inl rfl
theorem may_in {x : St} {h : Hi} {now : Int} (hm : may x h now = true) : ask x h now = 0 ∧ kind x h now = 1 := by
  unfold may JudgeM.may at hm
  simp only [Bool.and_eq_true, decide_eq_true_eq] at hm
  exact ⟨hm.1, hm.2.1.1⟩
theorem in_iff {x : St} {h : Hi} {now : Int} : in_ x h now = true ↔ ask x h now = 0 ∧ kind x h now = 1 ∧ x.k < 4096 := by
  unfold in_ err
  rw [decide_eq_true_eq]
  by_cases q : ask x h now = 0
  · by_cases r : kind x h now = 1 ∧ 4096 ≤ x.k
    · simp [q, r]
    · simp [q, r]; omega
  · simp [q]
/-- The number of who waits is below where it is welcome. -/
theorem in_len {x : St} {h : Hi} {now : Int} (hk : kind x h now = 1) : x.L.length < 8 := by
  unfold kind JudgeM.kind at hk
  split at hk
  · rename_i q
    have q8 := (JudgeM.ans_zero.1 q).2.2.2.2
    unfold LoadM.err at q8
    split at q8
    · omega
    · rename_i r
      by_cases e : (x.L.length : Int) = 8
      · rw [e, LoadM.kind_full] at hk; omega
      · omega
  · omega
theorem offer_zero {x : St} (g : Good x) (hk : x.k < 4096) (hl : x.L.length < 8) : QueueM.offerErr x.L (0, x.k) = 0 :=
  QueueM.offer_yes (by rw [QueueM.bad_prop]; have := g.k0; simp; omega) (fun hm => by have := (g.conns _ hm).2.2; omega) hl
theorem spent_eq {x : St} {h : Hi} {now : Int} (he : SpentM.spendErr x.N h.kn h.ku now = 0) : spent x h now = SpentM.spend x.N h.kn h.ku now := (SpentM.spend_ok he).symm
theorem next_good {x : St} {h : Hi} {now : Int} (g : Good x) : Good (next x h now) := by
  unfold next
  split
  · rename_i q
    obtain ⟨_, q1, q2⟩ := in_iff.1 q
    have ql := in_len q1
    have k0 := g.k0
    have hc : ∀ c ∈ x.L ++ [((0 : Int), x.k)], c.1 = 0 ∧ 0 ≤ c.2 ∧ c.2 < x.k + 1 := by
      intro c hc
      rcases List.mem_append.1 hc with h | h
      · have := g.conns c h; omega
      · rw [List.mem_singleton.1 h]; simp; omega
    split
    · rename_i r
      have he : SpentM.spendErr x.N h.kn h.ku now = 0 := by unfold soon at r; simp only [Bool.and_eq_true, decide_eq_true_eq] at r; exact r.2
      have hg := SpentM.spend_good he
      rw [← spent_eq he] at hg
      exact ⟨g.ring, g.life, by simp; omega, hc, g.n0, g.nm, g.m1, g.m8, hg, hg, by simp; omega, by simp; omega⟩
    · exact ⟨g.ring, g.life, by simp; omega, hc, g.n0, g.nm, g.m1, g.m8, g.now, g.kept, by simp; omega, by simp; omega⟩
  · exact g
theorem tick_good {x : St} {u : Int} (g : Good x) : Good (tick x u) := by
  unfold tick
  split
  · rename_i h
    have hn : ¬ x.n = 1000 := by
      unfold tErr at h
      split at h
      · split at h <;> omega
      · omega
    have hb := IssueM.up_bd g.nm g.m1 g.m8 hn
    exact ⟨g.ring, g.life, g.len, g.conns, by have := g.n0; simp; omega, by simp; omega, by simp; omega, by simp; omega, g.now, g.kept, g.k0, g.k1⟩
  · exact g
theorem turn_good {x : St} (g : Good x) : Good (turn x) := by
  unfold turn
  split
  · rename_i h
    obtain ⟨he, h1⟩ := RingM.turn_zero.1 h
    have hr := RingM.err_zero.1 he
    exact ⟨RingM.err_zero.2 ⟨by simp; omega, TagM.tag_bd _ _, hr.2.1, fun q => by simp at q; omega⟩, g.life, g.len, g.conns, g.n0, g.nm, g.m1, g.m8, g.now, g.kept, g.k0, g.k1⟩
  · exact g
theorem crash_good {x : St} (g : Good x) : Good (crash x) :=
  ⟨g.ring, g.life, by simp [crash], by simp [crash], by have := g.n0; have := g.nm; simp [crash]; omega, by simp [crash], g.m1, g.m8, g.kept, g.kept, g.k0, g.k1⟩
theorem pull_good {x : St} (g : Good x) : Good (pull x) :=
  ⟨g.ring, g.life, by have := g.len; simp [pull]; omega, fun c hc => g.conns c (List.mem_of_mem_tail hc), g.n0, g.nm, g.m1, g.m8, g.now, g.kept, g.k0, g.k1⟩
theorem w_err {x : St} {h : Hi} {now : Int} (q : ¬ ask x h now = 0) :
    err x h now = ask x h now ∧ aKind x h now = 0 ∧ aEp x h now = 0 ∧ aAd x h now = 0 ∧ aTi x h now = 0 ∧ aTg x h now = 0 ∧ aCo x h now = 0 ∧ soon x h now = false ∧ next x h now = x := by
  have e : err x h now = ask x h now := by unfold err; rw [if_neg q]
  have e0 : ¬ ask x h now = 0 := q
  have r : retry x h now = false := by simp [retry, e, q]
  have i : in_ x h now = false := by simp [in_, e, q]
  have s : soon x h now = false := by simp [soon, i]
  refine ⟨e, by simp [aKind, e, e0], by simp [aEp, r], by simp [aAd, r], by simp [aTi, r], by simp [aTg, r], by simp [aCo, i], s, by simp [next, i]⟩
theorem w_retry {x : St} {h : Hi} {now : Int} (q : ask x h now = 0) (hk : kind x h now = 0) :
    err x h now = 0 ∧ aKind x h now = 0 ∧ aEp x h now = x.ep ∧ aAd x h now = h.a ∧ aTi x h now = now ∧ aTg x h now = TagM.tag x.key [1, h.a, now] ∧ aCo x h now = 0 ∧ soon x h now = false ∧ next x h now = x := by
  have e : err x h now = 0 := by unfold err; rw [if_pos q, if_neg (by omega)]
  have hk0 := hk
  have r : retry x h now = true := by simp [retry, e, hk]
  have i : in_ x h now = false := by simp [in_, e, hk]
  have s : soon x h now = false := by simp [soon, i]
  refine ⟨e, by simp [aKind, e, hk0], by simp [aEp, r], by simp [aAd, r], by simp [aTi, r], by simp [aTg, r], by simp [aCo, i], s, by simp [next, i]⟩
theorem w_busy {x : St} {h : Hi} {now : Int} (q : ask x h now = 0) (hk : kind x h now = 2) :
    err x h now = 0 ∧ aKind x h now = 2 ∧ aEp x h now = 0 ∧ aAd x h now = 0 ∧ aTi x h now = 0 ∧ aTg x h now = 0 ∧ aCo x h now = 0 ∧ soon x h now = false ∧ next x h now = x := by
  have e : err x h now = 0 := by unfold err; rw [if_pos q, if_neg (by omega)]
  have hk0 := hk
  have r : retry x h now = false := by simp [retry, e, hk]
  have i : in_ x h now = false := by simp [in_, e, hk]
  have s : soon x h now = false := by simp [soon, i]
  refine ⟨e, by simp [aKind, e, hk0], by simp [aEp, r], by simp [aAd, r], by simp [aTi, r], by simp [aTg, r], by simp [aCo, i], s, by simp [next, i]⟩
theorem w_full {x : St} {h : Hi} {now : Int} (q : ask x h now = 0) (hk : kind x h now = 1) (hf : 4096 ≤ x.k) :
    err x h now = 4 ∧ aKind x h now = 0 ∧ aEp x h now = 0 ∧ aAd x h now = 0 ∧ aTi x h now = 0 ∧ aTg x h now = 0 ∧ aCo x h now = 0 ∧ soon x h now = false ∧ next x h now = x := by
  have e : err x h now = 4 := by unfold err; rw [if_pos q, if_pos ⟨hk, hf⟩]
  have r : retry x h now = false := by simp [retry, e]
  have i : in_ x h now = false := by simp [in_, e]
  have s : soon x h now = false := by simp [soon, i]
  refine ⟨e, by simp [aKind, e], by simp [aEp, r], by simp [aAd, r], by simp [aTi, r], by simp [aTg, r], by simp [aCo, i], s, by simp [next, i]⟩
theorem w_in0 {x : St} {h : Hi} {now : Int} (q : ask x h now = 0) (hk : kind x h now = 1) (hf : x.k < 4096) (hm : may x h now = false) :
    err x h now = 0 ∧ aKind x h now = 1 ∧ aEp x h now = 0 ∧ aAd x h now = 0 ∧ aTi x h now = 0 ∧ aTg x h now = 0 ∧ aCo x h now = x.k ∧ soon x h now = false ∧ next x h now = { x with L := x.L ++ [(0, x.k)], k := x.k + 1 } := by
  have e : err x h now = 0 := by unfold err; rw [if_pos q, if_neg (by omega)]
  have hk0 := hk
  have r : retry x h now = false := by simp [retry, e, hk]
  have i : in_ x h now = true := by simp [in_, e, hk]
  have s : soon x h now = false := by simp [soon, hm]
  refine ⟨e, by simp [aKind, e, hk0], by simp [aEp, r], by simp [aAd, r], by simp [aTi, r], by simp [aTg, r], by simp [aCo, i], s, by simp [next, i, s]⟩
theorem w_in1 {x : St} {h : Hi} {now : Int} (q : ask x h now = 0) (hk : kind x h now = 1) (hf : x.k < 4096) (hs : ¬ SpentM.spendErr x.N h.kn h.ku now = 0) :
    err x h now = 0 ∧ aKind x h now = 1 ∧ aEp x h now = 0 ∧ aAd x h now = 0 ∧ aTi x h now = 0 ∧ aTg x h now = 0 ∧ aCo x h now = x.k ∧ soon x h now = false ∧ next x h now = { x with L := x.L ++ [(0, x.k)], k := x.k + 1 } := by
  have e : err x h now = 0 := by unfold err; rw [if_pos q, if_neg (by omega)]
  have hk0 := hk
  have r : retry x h now = false := by simp [retry, e, hk]
  have i : in_ x h now = true := by simp [in_, e, hk]
  have s : soon x h now = false := by simp [soon, hs]
  refine ⟨e, by simp [aKind, e, hk0], by simp [aEp, r], by simp [aAd, r], by simp [aTi, r], by simp [aTg, r], by simp [aCo, i], s, by simp [next, i, s]⟩
theorem w_in2 {x : St} {h : Hi} {now : Int} (q : ask x h now = 0) (hk : kind x h now = 1) (hf : x.k < 4096) (hm : may x h now = true) (hs : SpentM.spendErr x.N h.kn h.ku now = 0) :
    err x h now = 0 ∧ aKind x h now = 1 ∧ aEp x h now = 0 ∧ aAd x h now = 0 ∧ aTi x h now = 0 ∧ aTg x h now = 0 ∧ aCo x h now = x.k ∧ soon x h now = true ∧ next x h now = { x with L := x.L ++ [(0, x.k)], k := x.k + 1, N := SpentM.left x.N now ++ [(h.kn, h.ku)], K := SpentM.left x.N now ++ [(h.kn, h.ku)] } := by
  have e : err x h now = 0 := by unfold err; rw [if_pos q, if_neg (by omega)]
  have hk0 := hk
  have r : retry x h now = false := by simp [retry, e, hk]
  have i : in_ x h now = true := by simp [in_, e, hk]
  have s : soon x h now = true := by simp [soon, i, hm, hs]
  refine ⟨e, by simp [aKind, e, hk0], by simp [aEp, r], by simp [aAd, r], by simp [aTi, r], by simp [aTg, r], by simp [aCo, i], s, by simp [next, i, s, spent]⟩
end Go.Proofs.YthaicpepgianpakGreatDoor.ServM
