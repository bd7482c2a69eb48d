/-
  What stands between two lines of a session: the server, the Builder, the desk and its map, apart; and what a call on each leaves.
-/
import Derived.Test.YthaicpepgianpakGreatDoorRunAnswer
import Derived.Test.YthaicpepgianpakGreatDoorRunBuild
import Derived.Test.YthaicpepgianpakGreatDoorRunLoop
import Derived.Test.YthaicpepgianpakGreatDoorServerTwo
namespace Go.Proofs.YthaicpepgianpakGreatDoor
open Go.RowKit
set_option linter.unusedVariables false

namespace RunM
theorem name_len (E : Int) : (name E).length ≤ 9 := by
  unfold name
  repeat' split
  all_goals decide
theorem nat_lt {n : Int} (h : 0 ≤ n ∧ n < 1000000) : n.toNat < 1000000 := by omega
theorem row4_len {a b c d : Int} (ha : 0 ≤ a ∧ a < 1000000) (hb : 0 ≤ b ∧ b < 1000000) (hc : 0 ≤ c ∧ c < 1000000) (hd : 0 ≤ d ∧ d < 1000000) : (row [a.toNat, b.toNat, c.toNat, d.toNat]).length ≤ 28 :=
  row_len _ (by intro n hn; simp only [List.mem_cons, List.not_mem_nil, or_false] at hn; omega)
theorem greet_len {x : ServM.St} {h : ServM.Hi} {now : Int} (g : ServM.Good x) (ha : 0 ≤ h.a ∧ h.a < 1000000) (hn : 0 ≤ now ∧ now < 1000000) : (greet x h now).length ≤ 60 := by
  obtain ⟨b1, b2, b3, b4, b5⟩ := hello_bds g ha hn
  have h1 := row4_len b1 b2 b3 b4
  have h2 : (digits (ConnM.turn (ServM.aCo x h now)).toNat).length ≤ 6 := digits_len (by have := ConnM.turn_hi (x := ServM.aCo x h now) (by omega); omega)
  have h3 := name_len (ServM.err x h now)
  have l1 : tRetry.length = 6 := rfl
  have l2 : tBusy.length = 4 := rfl
  have l3 : tWelcome.length = 8 := rfl
  unfold greet
  repeat' split
  all_goals (try rw [List.length_append])
  all_goals omega
theorem ticket_len {x : ServM.St} {u : Int} (g : ServM.Good x) (hu : 0 ≤ u ∧ u < 1000000) : (ticket x u).length ≤ 60 := by
  obtain ⟨b1, b2, b3, b4⟩ := ticket_bds g hu
  have h1 := row4_len b1 b2 b3 b4
  have h3 := name_len (ServM.tErr x u)
  unfold ticket
  split <;> omega
theorem pull_len {x : ServM.St} (g : ServM.Good x) : (pull x).length ≤ 60 := by
  unfold pull
  split
  · have := name_len 5; omega
  · rename_i c t hc
    have h := g.conns c (by rw [hc]; exact List.mem_cons_self ..)
    have hk := g.k1
    have := ConnM.turn_hi (x := 4096 * c.1 + c.2) (by omega)
    have := digits_len (n := (ConnM.turn (4096 * c.1 + c.2)).toNat) (by omega)
    omega
theorem turned_len (x : ServM.St) : (turned x).length ≤ 60 := by
  have h3 := name_len (RingM.turnErr x.ep x.key x.old)
  have l1 : tOk.length = 2 := rfl
  unfold turned
  split <;> omega
theorem getD_lt {ns : List Nat} (h : ∀ n ∈ ns, n < 1000000) (k : Nat) : 0 ≤ ((ns.getD k 0 : Nat) : Int) ∧ ((ns.getD k 0 : Nat) : Int) < 1000000 := by
  refine ⟨by omega, ?_⟩
  by_cases hk : k < ns.length
  · have := h ns[k] (List.getElem_mem hk)
    simp [List.getD, hk]; omega
  · simp [List.getD, List.getElem?_eq_none (Nat.le_of_not_lt hk)]
theorem act_len {x : ServM.St} (g : ServM.Good x) (w : List UInt8) {n : List Nat} (hn : ∀ k ∈ n, k < 1000000) : (act x w n).2.length ≤ 60 := by
  have l1 : tOk.length = 2 := rfl
  have l2 : tBad.length = 3 := rfl
  have h8 := g.len
  have hd := digits_len (n := x.L.length) (by omega)
  unfold act
  repeat' split
  · exact greet_len g (getD_lt hn 0) (getD_lt hn 1)
  · exact greet_len g (getD_lt hn 0) (getD_lt hn 5)
  · exact ticket_len g (getD_lt hn 0)
  · exact pull_len g
  · exact turned_len x
  · exact Nat.le_trans (Nat.le_of_eq l1) (by omega)
  · exact Nat.le_trans hd (by omega)
  · exact Nat.le_trans (Nat.le_of_eq l2) (by omega)
theorem line_len {x : ServM.St} (g : ServM.Good x) (l : List UInt8) : (line x l).2.length ≤ 60 := by
  have l2 : tBad.length = 3 := rfl
  unfold line
  split
  · exact Nat.le_trans (Nat.le_of_eq l2) (by omega)
  · unfold pieces
    split
    · split
      · exact Nat.le_trans (Nat.le_of_eq l2) (by omega)
      · rename_i n hn
        exact act_len g _ (nums_lt hn)
    · exact Nat.le_trans (Nat.le_of_eq l2) (by omega)
theorem out_len {x : ServM.St} (g : ServM.Good x) (a : List (List UInt8)) : (out x a).length ≤ 61 * a.length := by
  induction a generalizing x with
  | nil => simp [out]
  | cons l r ih =>
    have h1 := line_len g l
    have h2 := ih (line_good g l)
    simp only [out, List.length_append, List.length_cons]
    omega
end RunM

theorem SAt.cel {B : Nat} {w : World} {s q i b v : Nat} {o : Option Nat} {R : List Nat} {c : Int} {x : ServM.St} (h : SAt B w s q i b v o R c x) : ∀ k, k ∈ foot s q i b v o R → Cel w k := fun k hk => by
  rcases foot_iff.1 hk with e | e | e | e
  · rw [List.mem_singleton.1 e]; exact ⟨_, _, _, h.me⟩
  · obtain ⟨_, u, h1, h2, h3⟩ := h.que
    rcases List.mem_cons.1 e with e | e
    · rw [e]; exact ⟨_, _, _, h2⟩
    · have e : o = some k := by simpa using e
      rw [← h1] at e
      rcases h3.2 with ⟨rfl, _⟩ | ⟨g, cap, cur, rfl, _, hg, _⟩
      · simp [Value.ownBlock] at e
      · simp only [Value.ownBlock, Option.some.injEq] at e
        rw [← e]; exact ⟨_, _, _, hg⟩
  · rcases List.mem_cons.1 e with e | e
    · rw [e]; exact cel_cell (h.iss.1.1 0 _ rfl).1
    · rw [List.mem_singleton.1 e]; exact cel_cell (h.iss.2.1.1 0 _ rfl).1
  · rcases List.mem_cons.1 e with e | e
    · rw [e]
      obtain ⟨_, ⟨a, n, c, a', n', c', h1, _⟩, _⟩ := h.vau
      exact ⟨_, _, _, h1⟩
    · exact (h.vau.2.2 k e).2.2.2
theorem SOwn.cel {B : Nat} {w : World} {s : Nat} {F : List Nat} {x : ServM.St} (h : SOwn B w s F x) : ∀ k, k ∈ F → Cel w k := by
  obtain ⟨q, i, b, v, o, R, c, h1, rfl⟩ := h
  exact h1.cel
/-- Where only rows of cells were written, all else lies as it lay. -/
theorem others {F : List Nat} {w w' : World} (hk : Kept F w w') (hc : ∀ k, k ∈ F → Cel w k) : KeepsOthers w w' :=
  ⟨hk.size, fun k o ho hn => by
    have hl := (Array.getElem?_eq_some_iff.1 ho).1
    rw [hk.block k hl (fun hm => by
      obtain ⟨cs, T, fr, e⟩ := hc k hm
      rw [ho] at e
      cases e
      cases hn)]
    exact ho⟩
/-- The desk's own cells. -/
def deskC (s mb : Nat) : Obj := .cells #[.pointer (some ⟨s, 0, none⟩), .map (some mb)] 34 (0, 0)
/-- Between two lines: the server is x, what was answered so far is out. -/
structure RunInv (B s mb db bb : Nat) (x : ServM.St) (out : List UInt8) (F : List Nat) (o : Option Nat) (w : World) : Prop where
  srv : SOwn B w s F x
  bld : BOwn B w bb o out
  desk : w.heap[db]? = some (deskC s mb)
  map : MapIs w mb
  env : Env B w
  mF : mb ∉ F
  dF : db ∉ F
  bF : bb ∉ F
  oF : ∀ k, o = some k → k ∉ F
def RunAt (B s mb db bb : Nat) (x : ServM.St) (out : List UInt8) (w : World) : Prop := ∃ F o, RunInv B s mb db bb x out F o w
theorem RunInv.dlt {B s mb db bb : Nat} {x : ServM.St} {out : List UInt8} {F : List Nat} {o : Option Nat} {w : World} (h : RunInv B s mb db bb x out F o w) : db < w.heap.size := (Array.getElem?_eq_some_iff.1 h.desk).1
/-- The desk is none of the Builder's blocks. -/
theorem RunInv.apart {B s mb db bb : Nat} {x : ServM.St} {out : List UInt8} {F : List Nat} {o : Option Nat} {w : World} (h : RunInv B s mb db bb x out F o w) : db ∉ bb :: o.toList ∧ mb ∉ bb :: o.toList := by
  have hd := h.desk
  obtain ⟨es, clock, hm, _⟩ := h.map
  obtain ⟨_, p, v, h1, _, h2, h3⟩ := h.bld
  refine ⟨fun hk => ?_, fun hk => ?_⟩
  · rcases List.mem_cons.1 hk with e | e
    · rw [e, h2] at hd
      simp only [deskC, Option.some.injEq, Obj.cells.injEq] at hd
      exact absurd hd.2.1 (by decide)
    · have e : o = some db := by simpa using e
      rw [← h1] at e
      exact row_not h3 (cs := #[.pointer (some ⟨s, 0, none⟩), .map (some mb)]) (T := 34) (fr := (0, 0)) hd (by decide) e
  · rcases List.mem_cons.1 hk with e | e
    · rw [e, h2] at hm; cases hm
    · have e : o = some mb := by simpa using e
      rw [← h1] at e
      rcases h3.2 with ⟨rfl, _⟩ | ⟨g, cap, cur, rfl, _, hg, _⟩
      · simp [Value.ownBlock] at e
      · simp only [Value.ownBlock, Option.some.injEq] at e
        rw [← e, hg] at hm; cases hm
/-- Steps on other blocks, no elder than B, leave it. -/
theorem RunInv.kept {B s mb db bb : Nat} {x : ServM.St} {out : List UInt8} {F K : List Nat} {o : Option Nat} {w w' : World} (h : RunInv B s mb db bb x out F o w) (hk : Kept K w w') (hb : Below B w w') (h1 : ∀ k, k ∈ F → k ∉ K) (h2 : bb ∉ K) (h3 : ∀ k, o = some k → k ∉ K) (h4 : db ∉ K) (h5 : mb ∉ K) : RunInv B s mb db bb x out F o w' :=
  ⟨h.srv.kept hk h1, h.bld.kept hk h2 h3, by rw [hk.block db h.dlt h4]; exact h.desk, h.map.kept hk h5, h.env.step hb, h.mF, h.dF, h.bF, h.oF⟩
theorem RunInv.later {B s mb db bb : Nat} {x : ServM.St} {out : List UInt8} {F : List Nat} {o : Option Nat} {w w' : World} (h : RunInv B s mb db bb x out F o w) (hb : Below w.heap.size w w') : RunInv B s mb db bb x out F o w' :=
  h.kept (K := []) (Kept.of hb) (hb.mono h.env.size) (by simp) (by simp) (by simp) (by simp) (by simp)
theorem RunAt.later {B s mb db bb : Nat} {x : ServM.St} {out : List UInt8} {w w' : World} (h : RunAt B s mb db bb x out w) (hb : Below w.heap.size w w') : RunAt B s mb db bb x out w' := by
  obtain ⟨F, o, h⟩ := h
  exact ⟨F, o, h.later hb⟩
theorem RunAt.env {B s mb db bb : Nat} {x : ServM.St} {out : List UInt8} {w : World} (h : RunAt B s mb db bb x out w) : Env B w := by
  obtain ⟨F, o, h⟩ := h
  exact h.env
/-- A turn of a block that is no row of cells, and that none of them is. -/
theorem RunAt.own {B C s mb db bb : Nat} {x : ServM.St} {out : List UInt8} {w w' : World} {row : Option Nat} (h : RunAt B s mb db bb x out w) (hg : w.grownBy w' row) (hB : B ≤ C) (hm : mb < C) (hr : ∀ r, row = some r → C ≤ r ∧ ∃ ob : Obj, w.heap[r]? = some ob ∧ ob.isCells = false) : RunAt B s mb db bb x out w' := by
  obtain ⟨F, o, h⟩ := h
  have hk : Kept row.toList w w' := ⟨hg.os, hg.tape, hg.output, hg.size, fun k hk hn => hg.block k hk (fun e => hn (by rw [← e]; simp))⟩
  have hb : Below B w w' := (Below.refl B w).grown hg h.env.size (fun k e => Nat.le_trans hB (hr k e).1)
  have hc : ∀ k, (∃ cs T fr, w.heap[k]? = some (.cells cs T fr)) → k ∉ row.toList := fun k hk hm => by
    have e : row = some k := by simpa using hm
    obtain ⟨_, ob, h1, h2⟩ := hr k e
    obtain ⟨cs, T, fr, h3⟩ := hk
    rw [h1] at h3
    cases h3
    cases h2
  refine ⟨F, o, h.kept hk hb (fun k hf => hc k (h.srv.cel k hf)) (hc bb (h.bld.cel bb (List.mem_cons_self ..))) (fun k e => hc k (h.bld.cel k (List.mem_cons_of_mem _ (by simp [e])))) (hc db ⟨_, _, _, h.desk⟩) (fun hk => ?_)⟩
  have e : row = some mb := by simpa using hk
  have := (hr mb e).1
  omega
/-- A call on the server. -/
theorem RunAt.call {B s mb db bb : Nat} {x y : ServM.St} {out : List UInt8} {w : World} {P : Program} {f : Nat} {args : Array Value} {A : Ending → Prop} (h : RunAt B s mb db bb x out w)
    (hc : ∀ F, SOwn B w s F x → MapIs w mb → Env B w → Calls P f args w fun e w' => A e ∧ SStep B w w' s F y) : Calls P f args w fun e w' => A e ∧ RunAt B s mb db bb y out w' ∧ KeepsOthers w w' ∧ Below B w w' := by
  obtain ⟨F, o, h⟩ := h
  refine (hc F h.srv h.map h.env).mono ?_
  rintro e w' ⟨ha, F', own, lk⟩
  have out' : ∀ k, k < w.heap.size → k ∉ F → k ∉ F' := fun k hl hn hm => (lk.1 k hm).elim hn (fun q => absurd hl (by omega))
  have hbl : Below B w w' := SStep.below ⟨F', own, lk⟩ h.srv (Below.refl _ _) h.env.size
  have hml := h.map.lt
  refine ⟨ha, ⟨F', o, own, h.bld.kept lk.2 h.bF h.oF, by rw [lk.2.block db h.dlt h.dF]; exact h.desk, h.map.kept lk.2 h.mF, h.env.step hbl, out' mb hml h.mF, out' db h.dlt h.dF, out' bb h.bld.lt h.bF, fun k e => out' k (h.bld.row e).2 (h.oF k e)⟩, others lk.2 h.srv.cel, hbl⟩
/-- A write to the Builder. -/
theorem RunAt.write {B s mb db bb : Nat} {x : ServM.St} {out out' : List UInt8} {w : World} {P : Program} {f : Nat} {args : Array Value} {A : Ending → Prop} (h : RunAt B s mb db bb x out w)
    (hc : ∀ o, BOwn B w bb o out → Calls P f args w fun e w' => A e ∧ BStep B w w' bb o out') : Calls P f args w fun e w' => A e ∧ RunAt B s mb db bb x out' w' ∧ KeepsOthers w w' ∧ Below B w w' := by
  obtain ⟨F, o, h⟩ := h
  refine (hc o h.bld).mono ?_
  rintro e w' ⟨ha, o', own, hat, hk⟩
  have hF : ∀ k, k ∈ F → k ∉ bb :: o.toList := fun k hf hm => by
    rcases List.mem_cons.1 hm with e | e
    · exact h.bF (e ▸ hf)
    · exact h.oF k (by simpa using e) hf
  obtain ⟨a1, a2⟩ := h.apart
  have hbl : Below B w w' := hk.below (Below.refl _ _) h.env.size (fun k hm => by
    rcases List.mem_cons.1 hm with e | e
    · rw [e]; exact h.bld.1
    · exact (h.bld.row (by simpa using e)).1)
  refine ⟨ha, ⟨F, o', h.srv.kept hk hF, own, by rw [hk.block db h.dlt a1]; exact h.desk, h.map.kept hk a2, h.env.step hbl, h.mF, h.dF, h.bF, fun k e hf => ?_⟩, others hk h.bld.cel, hbl⟩
  rcases hat k e with q | q
  · exact h.oF k q hf
  · have := (h.srv.all k hf).2; omega
end Go.Proofs.YthaicpepgianpakGreatDoor
