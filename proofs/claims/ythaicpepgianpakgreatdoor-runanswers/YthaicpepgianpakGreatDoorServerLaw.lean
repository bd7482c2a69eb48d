/-
  Small helpers for laws about servers: a hello's contract at hand, blocks of the law's own beside a server.
-/
import Derived.Test.YthaicpepgianpakGreatDoorServerHello
namespace Go.Proofs.YthaicpepgianpakGreatDoor
open Go.RowKit

theorem SLink.off {w w' : World} {F F' : List Nat} {a : Nat} (h : SLink w w' F F') (hn : a ∉ F) (hl : a < w.heap.size) : a ∉ F' := fun hm => (h.1 a hm).elim hn (fun q => absurd hl (by omega))
/-- What lay below B0 is as it was, where the server is newer. -/
theorem SStep.below0 {B B0 : Nat} {w0 w w' : World} {s : Nat} {F : List Nat} {x y : ServM.St} (hs : SStep B w w' s F y) (h : SOwn B w s F x) (hb : Below B0 w0 w) (hB : B0 ≤ w.heap.size) (h0 : B0 ≤ B) : Below B0 w0 w' := by
  obtain ⟨_, _, _, h4⟩ := hs
  exact h4.below hb hB (fun k hk => Nat.le_trans h0 (h.all k hk).1)
theorem SOwn.alloc {B : Nat} {w : World} {s : Nat} {F : List Nat} {x : ServM.St} (h : SOwn B w s F x) (o : Obj) : SOwn B (w.alloc o) s F x := h.later (below_alloc (Below.refl _ _) o)
theorem SOwn.drew {B : Nat} {w : World} {s : Nat} {F : List Nat} {x : ServM.St} (h : SOwn B w s F x) : SOwn B w.drew s F x := h.later (below_drew (Below.refl _ _))
/-- Pull, both ways. -/
theorem pull_some {x : ServM.St} (g : ServM.Good x) (h : ¬ x.L = []) : ∃ m r, x.L = (0, m) :: r ∧ 0 ≤ m ∧ m < x.k ∧ r.length < 8 ∧ ServM.pull x = { x with L := r } := by
  cases hx : x.L with
  | nil => exact absurd hx h
  | cons c r =>
    have hc := g.conns c (by rw [hx]; exact List.mem_cons_self ..)
    have hl := g.len
    rw [hx] at hl
    simp at hl
    obtain ⟨a, b⟩ := c
    obtain ⟨rfl, h1, h2⟩ := hc
    exact ⟨b, r, rfl, h1, h2, by omega, by unfold ServM.pull; rw [hx]; rfl⟩
theorem pull_nil {x : ServM.St} (h : x.L = []) : ServM.pull x = x := by
  obtain ⟨ep, key, old, life, L, n, m, N, K, k⟩ := x
  obtain rfl : L = [] := h
  rfl

namespace ServM
/-- What a pull tells. -/
def pE (x : St) : Int := if x.L = [] then 5 else 0
def pA (x : St) : Int := (x.L.headD (0, 0)).1
def pB (x : St) : Int := (x.L.headD (0, 0)).2
theorem t_yes {x : St} {u : Int} (hu : TokenM.timeB u = true) (hn : ¬ x.n = 1000) :
    tErr x u = 0 ∧ tEp x u = x.ep ∧ tNo x u = x.n ∧ tUn x u = u ∧ tTg x u = TagM.tag x.key [2, x.n, u] ∧ tick x u = { x with n := x.n + 1, m := IssueM.up x.n x.m } := by
  have e : tErr x u = 0 := by unfold tErr; rw [if_pos hu, if_neg hn]
  exact ⟨e, if_pos e, if_pos e, if_pos e, if_pos e, if_pos e⟩
theorem t_no {x : St} {u : Int} (hu : TokenM.timeB u = false) :
    tErr x u = 1 ∧ tEp x u = 0 ∧ tNo x u = 0 ∧ tUn x u = 0 ∧ tTg x u = 0 ∧ tick x u = x := by
  have e : tErr x u = 1 := by unfold tErr; rw [if_neg (by rw [hu]; simp)]
  have h : ¬ tErr x u = 0 := by omega
  exact ⟨e, if_neg h, if_neg h, if_neg h, if_neg h, if_neg h⟩
theorem may_now {x : St} {h : Hi} {now : Int} (hm : may x h now = true) : now ≤ h.ku := by
  unfold may JudgeM.may at hm
  simp only [Bool.and_eq_true, decide_eq_true_eq] at hm
  have hr := hm.2.1.2
  unfold JudgeM.rightB at hr
  simp only [Bool.and_eq_true, decide_eq_true_eq] at hr
  have hc := hr.2
  unfold TicketM.checkErr at hc
  split at hc
  · split at hc
    · split at hc
      · unfold TicketM.lastErr at hc
        split at hc
        · split at hc <;> omega
        · omega
      · exact absurd hc ‹_›
    · omega
  · exact absurd hc ‹_›
/-- What a loop of hellos by one ticket keeps: what was told, and how often its early bytes were taken. -/
def Inv (u : Int) (x : St) (cn so : Int) : Prop := cn < x.k ∧ ((so = 0 ∧ x.N = [] ∧ x.K = []) ∨ (so = 1 ∧ x.N = [(0, u)] ∧ x.K = [(0, u)]))
theorem Inv.bd {u : Int} {x : St} {cn so : Int} (h : Inv u x cn so) : 0 ≤ so ∧ so ≤ 1 := by
  rcases h.2 with ⟨e, _⟩ | ⟨e, _⟩ <;> omega
theorem Inv.crash {u : Int} {x : St} {cn so : Int} (h : Inv u x cn so) : Inv u (crash x) cn so :=
  ⟨h.1, h.2.imp (fun ⟨a, _, c⟩ => ⟨a, c, c⟩) (fun ⟨a, _, c⟩ => ⟨a, c, c⟩)⟩
theorem Inv.turn {u : Int} {x : St} {cn so : Int} (h : Inv u x cn so) : Inv u (turn x) cn so := by
  unfold ServM.turn
  split <;> exact h
theorem Inv.tick {u v : Int} {x : St} {cn so : Int} (h : Inv u x cn so) : Inv u (tick x v) cn so := by
  unfold ServM.tick
  split <;> exact h
theorem Inv.pull {u : Int} {x : St} {cn so : Int} (h : Inv u x cn so) : Inv u (pull x) cn so := h
theorem inv_ways {u : Int} {x : St} {cn so : Int} {h : Hi} {now : Int} (g : Good x) (hk : h.kn = 0) (hu : h.ku = u) (i : Inv u x cn so) :
    (¬ err x h now = 0 ∧ next x h now = x) ∨
    (err x h now = 0 ∧ ¬ aKind x h now = 1 ∧ soon x h now = false ∧ next x h now = x) ∨
    (err x h now = 0 ∧ aKind x h now = 1 ∧ soon x h now = false ∧ aCo x h now = x.k ∧ x.k < 4096 ∧ Inv u (next x h now) x.k so) ∨
    (err x h now = 0 ∧ aKind x h now = 1 ∧ soon x h now = true ∧ aCo x h now = x.k ∧ x.k < 4096 ∧ now ≤ u ∧ so = 0 ∧ Inv u (next x h now) x.k 1) := by
  by_cases q : ask x h now = 0
  · rcases kind_ways x h now with k | k | k
    · obtain ⟨e1, e2, e3, e4, e5, e6, e7, e8, e9⟩ := w_retry q k
      exact .inr (.inl ⟨e1, by omega, e8, e9⟩)
    · by_cases hf : x.k < 4096
      · by_cases hm : may x h now = true
        · by_cases hs : SpentM.spendErr x.N h.kn h.ku now = 0
          · obtain ⟨e1, e2, e3, e4, e5, e6, e7, e8, e9⟩ := w_in2 q k hf hm hs
            have hn := may_now hm
            have ht : TokenM.timeB now = true := (JudgeM.ans_zero.1 q).2.2.1
            rcases i.2 with ⟨i1, i2, i3⟩ | ⟨i1, i2, i3⟩
            · refine .inr (.inr (.inr ⟨e1, e2, e8, e7, hf, by omega, i1, ?_⟩))
              rw [e9]
              refine ⟨by show x.k < x.k + 1; omega, .inr ⟨rfl, ?_, ?_⟩⟩
              · show SpentM.left x.N now ++ [(h.kn, h.ku)] = _
                rw [i2, hk, hu]; rfl
              · show SpentM.left x.N now ++ [(h.kn, h.ku)] = _
                rw [i2, hk, hu]; rfl
            · exfalso
              have hg := g.now
              rw [i2] at hs hg
              rw [hk, hu] at hs
              have := SpentM.again_there (n := 0) (till := u) (now := now) hg (by simp) ht (by omega)
              omega
          · obtain ⟨e1, e2, e3, e4, e5, e6, e7, e8, e9⟩ := w_in1 q k hf hs
            refine .inr (.inr (.inl ⟨e1, e2, e8, e7, hf, ?_⟩))
            rw [e9]
            exact ⟨by show x.k < x.k + 1; omega, i.2⟩
        · obtain ⟨e1, e2, e3, e4, e5, e6, e7, e8, e9⟩ := w_in0 q k hf (by simpa using hm)
          refine .inr (.inr (.inl ⟨e1, e2, e8, e7, hf, ?_⟩))
          rw [e9]
          exact ⟨by show x.k < x.k + 1; omega, i.2⟩
      · obtain ⟨e1, e2, e3, e4, e5, e6, e7, e8, e9⟩ := w_full q k (by omega)
        exact .inl ⟨by omega, e9⟩
    · obtain ⟨e1, e2, e3, e4, e5, e6, e7, e8, e9⟩ := w_busy q k
      exact .inr (.inl ⟨e1, by omega, e8, e9⟩)
  · obtain ⟨e1, e2, e3, e4, e5, e6, e7, e8, e9⟩ := w_err q
    exact .inl ⟨by omega, e9⟩
/-- One shows a ticket that was made, in time. -/
theorem may_made {x : St} {h : Hi} {now : Int} (hq : ask x h now = 0) (hk : kind x h now = 1) (hr : TokenM.makeErr x.ep x.key x.old h.kn h.ku = 0) (he : h.ke = x.ep) (hg : h.kg = TagM.tag x.key [2, h.kn, h.ku]) (hn : TokenM.timeB now = true) (hu : now ≤ h.ku) (hs : ¬ h.ku = 0) (hz : JudgeM.mayB h.s.size = true) : may x h now = true := by
  unfold may JudgeM.may
  have hb : JudgeM.rightB x.ep x.key x.old h.ke h.kn h.ku h.kg now = true := by
    unfold JudgeM.rightB
    rw [he, hg, TicketM.check_made hr hn, if_neg (by omega)]
    simp [JudgeM.noneB, hs]
  rw [hb, hz]
  have hk' := hk
  unfold kind at hk'
  unfold ask at hq
  rw [hk', hq]
  rfl
theorem kind_calm {x : St} {h : Hi} {now : Int} (hq : ask x h now = 0) (hl : x.L.length < 4) : kind x h now = 1 := by
  unfold kind
  unfold ask at hq
  rw [JudgeM.kind_yes hq]
  exact LoadM.kind_calm (by omega) (by omega) _ _
end ServM
theorem spull_any {B s : Nat} {F : List Nat} {x : ServM.St} (w : World) (g : ServM.Good x) (h0 : SOwn B w s F x) :
    Calls Tryz.prog 37 #[.pointer (some ⟨s, 0, none⟩)] w fun e w' => e = .returned (.tuple #[.agg #[.int .i64 (ServM.pA x), .int .i64 (ServM.pB x)], errV (ServM.pE x)]) ∧ SStep B w w' s F (ServM.pull x) := by
  by_cases h : x.L = []
  · rw [pull_nil h, show ServM.pE x = 5 from if_pos h, errV_pos (by omega), show ServM.pA x = 0 by unfold ServM.pA; rw [h]; rfl, show ServM.pB x = 0 by unfold ServM.pB; rw [h]; rfl]
    exact spull_none w h0 h
  · obtain ⟨m, r, e, _, _, hr, hp⟩ := pull_some g h
    rw [hp, show ServM.pE x = 0 from if_neg h, errV_zero rfl, show ServM.pA x = 0 by unfold ServM.pA; rw [e]; rfl, show ServM.pB x = m by unfold ServM.pB; rw [e]; rfl]
    exact spull_yes w h0 e hr
theorem Kept.fresh8 {F : List Nat} {W W' : World} {v0 v1 v2 v3 v4 v5 v6 v7 : Value} {T : TypeId} (hk : Kept F (W.alloc (.cells #[v0, v1, v2, v3, v4, v5, v6, v7] T)).drew W') (hF : W.heap.size ∉ F) : Held W' W.heap.size [v0, v1, v2, v3, v4, v5, v6, v7] :=
  hk.held ((Held.fresh (w := W) [v0, v1, v2, v3, v4, v5, v6, v7] T rfl).drew) hF
end Go.Proofs.YthaicpepgianpakGreatDoor
