/-
  Texts joined: RunState RunOpen.
-/
import Derived.Test.YthaicpepgianpakGreatDoorRunAnswer
import Derived.Test.YthaicpepgianpakGreatDoorRunBuild
import Derived.Test.YthaicpepgianpakGreatDoorRunLoop
import Derived.Test.YthaicpepgianpakGreatDoorServerTwo
namespace Go.Proofs.YthaicpepgianpakGreatDoor
open Go.RowKit
set_option linter.unusedVariables false

namespace RunM
theorem name_len (E : Int) : (name E).length ≤ 9 := by
  unfold name
  repeat' split
  all_goals decide
theorem nat_lt {n : Int} (h : 0 ≤ n ∧ n < 1000000) : n.toNat < 1000000 := by omega
theorem row4_len {a b c d : Int} (ha : 0 ≤ a ∧ a < 1000000) (hb : 0 ≤ b ∧ b < 1000000) (hc : 0 ≤ c ∧ c < 1000000) (hd : 0 ≤ d ∧ d < 1000000) : (row [a.toNat, b.toNat, c.toNat, d.toNat]).length ≤ 28 :=
  row_len _ (by intro n hn; simp only [List.mem_cons, List.not_mem_nil, or_false] at hn; omega)
theorem greet_len {x : ServM.St} {h : ServM.Hi} {now : Int} (g : ServM.Good x) (ha : 0 ≤ h.a ∧ h.a < 1000000) (hn : 0 ≤ now ∧ now < 1000000) : (greet x h now).length ≤ 60 := by
  obtain ⟨b1, b2, b3, b4, b5⟩ := hello_bds g ha hn
  have h1 := row4_len b1 b2 b3 b4
  have h2 : (digits (ConnM.turn (ServM.aCo x h now)).toNat).length ≤ 6 := digits_len (by have := ConnM.turn_hi (x := ServM.aCo x h now) (by omega); omega)
  have h3 := name_len (ServM.err x h now)
  have l1 : tRetry.length = 6 := rfl
  have l2 : tBusy.length = 4 := rfl
  have l3 : tWelcome.length = 8 := rfl
  unfold greet
  repeat' split
  all_goals (try rw [List.length_append])
  all_goals omega
theorem ticket_len {x : ServM.St} {u : Int} (g : ServM.Good x) (hu : 0 ≤ u ∧ u < 1000000) : (ticket x u).length ≤ 60 := by
  obtain ⟨b1, b2, b3, b4⟩ := ticket_bds g hu
  have h1 := row4_len b1 b2 b3 b4
  have h3 := name_len (ServM.tErr x u)
  unfold ticket
  split <;> omega
theorem pull_len {x : ServM.St} (g : ServM.Good x) : (pull x).length ≤ 60 := by
  unfold pull
  split
  · have := name_len 5; omega
  · rename_i c t hc
    have h := g.conns c (by rw [hc]; exact List.mem_cons_self ..)
    have hk := g.k1
    have := ConnM.turn_hi (x := 4096 * c.1 + c.2) (by omega)
    have := digits_len (n := (ConnM.turn (4096 * c.1 + c.2)).toNat) (by omega)
    omega
theorem turned_len (x : ServM.St) : (turned x).length ≤ 60 := by
  have h3 := name_len (RingM.turnErr x.ep x.key x.old)
  have l1 : tOk.length = 2 := rfl
  unfold turned
  split <;> omega
theorem getD_lt {ns : List Nat} (h : ∀ n ∈ ns, n < 1000000) (k : Nat) : 0 ≤ ((ns.getD k 0 : Nat) : Int) ∧ ((ns.getD k 0 : Nat) : Int) < 1000000 := by
  refine ⟨by omega, ?_⟩
  by_cases hk : k < ns.length
  · have := h ns[k] (List.getElem_mem hk)
    simp [List.getD, hk]; omega
  · simp [List.getD, List.getElem?_eq_none (Nat.le_of_not_lt hk)]
theorem act_len {x : ServM.St} (g : ServM.Good x) (w : List UInt8) {n : List Nat} (hn : ∀ k ∈ n, k < 1000000) : (act x w n).2.length ≤ 60 := by
  have l1 : tOk.length = 2 := rfl
  have l2 : tBad.length = 3 := rfl
  have h8 := g.len
  have hd := digits_len (n := x.L.length) (by omega)
  unfold act
  repeat' split
  · exact greet_len g (getD_lt hn 0) (getD_lt hn 1)
  · exact greet_len g (getD_lt hn 0) (getD_lt hn 5)
  · exact ticket_len g (getD_lt hn 0)
  · exact pull_len g
  · exact turned_len x
  · exact Nat.le_trans (Nat.le_of_eq l1) (by omega)
  · exact Nat.le_trans hd (by omega)
  · exact Nat.le_trans (Nat.le_of_eq l2) (by omega)
theorem line_len {x : ServM.St} (g : ServM.Good x) (l : List UInt8) : (line x l).2.length ≤ 60 := by
  have l2 : tBad.length = 3 := rfl
  unfold line
  split
  · exact Nat.le_trans (Nat.le_of_eq l2) (by omega)
  · unfold pieces
    split
    · split
      · exact Nat.le_trans (Nat.le_of_eq l2) (by omega)
      · rename_i n hn
        exact act_len g _ (nums_lt hn)
    · exact Nat.le_trans (Nat.le_of_eq l2) (by omega)
theorem out_len {x : ServM.St} (g : ServM.Good x) (a : List (List UInt8)) : (out x a).length ≤ 61 * a.length := by
  induction a generalizing x with
  | nil => simp [out]
  | cons l r ih =>
    have h1 := line_len g l
    have h2 := ih (line_good g l)
    simp only [out, List.length_append, List.length_cons]
    omega
end RunM

theorem SAt.cel {B : Nat} {w : World} {s q i b v : Nat} {o : Option Nat} {R : List Nat} {c : Int} {x : ServM.St} (h : SAt B w s q i b v o R c x) : ∀ k, k ∈ foot s q i b v o R → Cel w k := fun k hk => by
  rcases foot_iff.1 hk with e | e | e | e
  · rw [List.mem_singleton.1 e]; exact ⟨_, _, _, h.me⟩
  · obtain ⟨_, u, h1, h2, h3⟩ := h.que
    rcases List.mem_cons.1 e with e | e
    · rw [e]; exact ⟨_, _, _, h2⟩
    · have e : o = some k := by simpa using e
      rw [← h1] at e
      rcases h3.2 with ⟨rfl, _⟩ | ⟨g, cap, cur, rfl, _, hg, _⟩
      · simp [Value.ownBlock] at e
      · simp only [Value.ownBlock, Option.some.injEq] at e
        rw [← e]; exact ⟨_, _, _, hg⟩
  · rcases List.mem_cons.1 e with e | e
    · rw [e]; exact cel_cell (h.iss.1.1 0 _ rfl).1
    · rw [List.mem_singleton.1 e]; exact cel_cell (h.iss.2.1.1 0 _ rfl).1
  · rcases List.mem_cons.1 e with e | e
    · rw [e]
      obtain ⟨_, ⟨a, n, c, a', n', c', h1, _⟩, _⟩ := h.vau
      exact ⟨_, _, _, h1⟩
    · exact (h.vau.2.2 k e).2.2.2
theorem SOwn.cel {B : Nat} {w : World} {s : Nat} {F : List Nat} {x : ServM.St} (h : SOwn B w s F x) : ∀ k, k ∈ F → Cel w k := by
  obtain ⟨q, i, b, v, o, R, c, h1, rfl⟩ := h
  exact h1.cel
/-- Where only rows of cells were written, all else lies as it lay. -/
theorem others {F : List Nat} {w w' : World} (hk : Kept F w w') (hc : ∀ k, k ∈ F → Cel w k) : KeepsOthers w w' :=
  ⟨hk.size, fun k o ho hn => by
    have hl := (Array.getElem?_eq_some_iff.1 ho).1
    rw [hk.block k hl (fun hm => by
      obtain ⟨cs, T, fr, e⟩ := hc k hm
      rw [ho] at e
      cases e
      cases hn)]
    exact ho⟩
/-- The desk's own cells. -/
def deskC (s mb : Nat) : Obj := .cells #[.pointer (some ⟨s, 0, none⟩), .map (some mb)] 34 (0, 0)
/-- Between two lines: the server is x, what was answered so far is out. -/
structure RunInv (B s mb db bb : Nat) (x : ServM.St) (out : List UInt8) (F : List Nat) (o : Option Nat) (w : World) : Prop where
  srv : SOwn B w s F x
  bld : BOwn B w bb o out
  desk : w.heap[db]? = some (deskC s mb)
  map : MapIs w mb
  env : Env B w
  mF : mb ∉ F
  dF : db ∉ F
  bF : bb ∉ F
  oF : ∀ k, o = some k → k ∉ F
def RunAt (B s mb db bb : Nat) (x : ServM.St) (out : List UInt8) (w : World) : Prop := ∃ F o, RunInv B s mb db bb x out F o w
theorem RunInv.dlt {B s mb db bb : Nat} {x : ServM.St} {out : List UInt8} {F : List Nat} {o : Option Nat} {w : World} (h : RunInv B s mb db bb x out F o w) : db < w.heap.size := (Array.getElem?_eq_some_iff.1 h.desk).1
/-- The desk is none of the Builder's blocks. -/
theorem RunInv.apart {B s mb db bb : Nat} {x : ServM.St} {out : List UInt8} {F : List Nat} {o : Option Nat} {w : World} (h : RunInv B s mb db bb x out F o w) : db ∉ bb :: o.toList ∧ mb ∉ bb :: o.toList := by
  have hd := h.desk
  obtain ⟨es, clock, hm, _⟩ := h.map
  obtain ⟨_, p, v, h1, _, h2, h3⟩ := h.bld
  refine ⟨fun hk => ?_, fun hk => ?_⟩
  · rcases List.mem_cons.1 hk with e | e
    · rw [e, h2] at hd
      simp only [deskC, Option.some.injEq, Obj.cells.injEq] at hd
      exact absurd hd.2.1 (by decide)
    · have e : o = some db := by simpa using e
      rw [← h1] at e
      exact row_not h3 (cs := #[.pointer (some ⟨s, 0, none⟩), .map (some mb)]) (T := 34) (fr := (0, 0)) hd (by decide) e
  · rcases List.mem_cons.1 hk with e | e
    · rw [e, h2] at hm; cases hm
    · have e : o = some mb := by simpa using e
      rw [← h1] at e
      rcases h3.2 with ⟨rfl, _⟩ | ⟨g, cap, cur, rfl, _, hg, _⟩
      · simp [Value.ownBlock] at e
      · simp only [Value.ownBlock, Option.some.injEq] at e
        rw [← e, hg] at hm; cases hm
/-- Steps on other blocks, no elder than B, leave it. -/
theorem RunInv.kept {B s mb db bb : Nat} {x : ServM.St} {out : List UInt8} {F K : List Nat} {o : Option Nat} {w w' : World} (h : RunInv B s mb db bb x out F o w) (hk : Kept K w w') (hb : Below B w w') (h1 : ∀ k, k ∈ F → k ∉ K) (h2 : bb ∉ K) (h3 : ∀ k, o = some k → k ∉ K) (h4 : db ∉ K) (h5 : mb ∉ K) : RunInv B s mb db bb x out F o w' :=
  ⟨h.srv.kept hk h1, h.bld.kept hk h2 h3, by rw [hk.block db h.dlt h4]; exact h.desk, h.map.kept hk h5, h.env.step hb, h.mF, h.dF, h.bF, h.oF⟩
theorem RunInv.later {B s mb db bb : Nat} {x : ServM.St} {out : List UInt8} {F : List Nat} {o : Option Nat} {w w' : World} (h : RunInv B s mb db bb x out F o w) (hb : Below w.heap.size w w') : RunInv B s mb db bb x out F o w' :=
  h.kept (K := []) (Kept.of hb) (hb.mono h.env.size) (by simp) (by simp) (by simp) (by simp) (by simp)
theorem RunAt.later {B s mb db bb : Nat} {x : ServM.St} {out : List UInt8} {w w' : World} (h : RunAt B s mb db bb x out w) (hb : Below w.heap.size w w') : RunAt B s mb db bb x out w' := by
  obtain ⟨F, o, h⟩ := h
  exact ⟨F, o, h.later hb⟩
theorem RunAt.env {B s mb db bb : Nat} {x : ServM.St} {out : List UInt8} {w : World} (h : RunAt B s mb db bb x out w) : Env B w := by
  obtain ⟨F, o, h⟩ := h
  exact h.env
/-- A turn of a block that is no row of cells, and that none of them is. -/
theorem RunAt.own {B C s mb db bb : Nat} {x : ServM.St} {out : List UInt8} {w w' : World} {row : Option Nat} (h : RunAt B s mb db bb x out w) (hg : w.grownBy w' row) (hB : B ≤ C) (hm : mb < C) (hr : ∀ r, row = some r → C ≤ r ∧ ∃ ob : Obj, w.heap[r]? = some ob ∧ ob.isCells = false) : RunAt B s mb db bb x out w' := by
  obtain ⟨F, o, h⟩ := h
  have hk : Kept row.toList w w' := ⟨hg.os, hg.tape, hg.output, hg.size, fun k hk hn => hg.block k hk (fun e => hn (by rw [← e]; simp))⟩
  have hb : Below B w w' := (Below.refl B w).grown hg h.env.size (fun k e => Nat.le_trans hB (hr k e).1)
  have hc : ∀ k, (∃ cs T fr, w.heap[k]? = some (.cells cs T fr)) → k ∉ row.toList := fun k hk hm => by
    have e : row = some k := by simpa using hm
    obtain ⟨_, ob, h1, h2⟩ := hr k e
    obtain ⟨cs, T, fr, h3⟩ := hk
    rw [h1] at h3
    cases h3
    cases h2
  refine ⟨F, o, h.kept hk hb (fun k hf => hc k (h.srv.cel k hf)) (hc bb (h.bld.cel bb (List.mem_cons_self ..))) (fun k e => hc k (h.bld.cel k (List.mem_cons_of_mem _ (by simp [e])))) (hc db ⟨_, _, _, h.desk⟩) (fun hk => ?_)⟩
  have e : row = some mb := by simpa using hk
  have := (hr mb e).1
  omega
/-- A call on the server. -/
theorem RunAt.call {B s mb db bb : Nat} {x y : ServM.St} {out : List UInt8} {w : World} {P : Program} {f : Nat} {args : Array Value} {A : Ending → Prop} (h : RunAt B s mb db bb x out w)
    (hc : ∀ F, SOwn B w s F x → MapIs w mb → Env B w → Calls P f args w fun e w' => A e ∧ SStep B w w' s F y) : Calls P f args w fun e w' => A e ∧ RunAt B s mb db bb y out w' ∧ KeepsOthers w w' ∧ Below B w w' := by
  obtain ⟨F, o, h⟩ := h
  refine (hc F h.srv h.map h.env).mono ?_
  rintro e w' ⟨ha, F', own, lk⟩
  have out' : ∀ k, k < w.heap.size → k ∉ F → k ∉ F' := fun k hl hn hm => (lk.1 k hm).elim hn (fun q => absurd hl (by omega))
  have hbl : Below B w w' := SStep.below ⟨F', own, lk⟩ h.srv (Below.refl _ _) h.env.size
  have hml := h.map.lt
  refine ⟨ha, ⟨F', o, own, h.bld.kept lk.2 h.bF h.oF, by rw [lk.2.block db h.dlt h.dF]; exact h.desk, h.map.kept lk.2 h.mF, h.env.step hbl, out' mb hml h.mF, out' db h.dlt h.dF, out' bb h.bld.lt h.bF, fun k e => out' k (h.bld.row e).2 (h.oF k e)⟩, others lk.2 h.srv.cel, hbl⟩
/-- A write to the Builder. -/
theorem RunAt.write {B s mb db bb : Nat} {x : ServM.St} {out out' : List UInt8} {w : World} {P : Program} {f : Nat} {args : Array Value} {A : Ending → Prop} (h : RunAt B s mb db bb x out w)
    (hc : ∀ o, BOwn B w bb o out → Calls P f args w fun e w' => A e ∧ BStep B w w' bb o out') : Calls P f args w fun e w' => A e ∧ RunAt B s mb db bb x out' w' ∧ KeepsOthers w w' ∧ Below B w w' := by
  obtain ⟨F, o, h⟩ := h
  refine (hc o h.bld).mono ?_
  rintro e w' ⟨ha, o', own, hat, hk⟩
  have hF : ∀ k, k ∈ F → k ∉ bb :: o.toList := fun k hf hm => by
    rcases List.mem_cons.1 hm with e | e
    · exact h.bF (e ▸ hf)
    · exact h.oF k (by simpa using e) hf
  obtain ⟨a1, a2⟩ := h.apart
  have hbl : Below B w w' := hk.below (Below.refl _ _) h.env.size (fun k hm => by
    rcases List.mem_cons.1 hm with e | e
    · rw [e]; exact h.bld.1
    · exact (h.bld.row (by simpa using e)).1)
  refine ⟨ha, ⟨F, o', h.srv.kept hk hF, own, by rw [hk.block db h.dlt a1]; exact h.desk, h.map.kept hk a2, h.env.step hbl, h.mF, h.dF, h.bF, fun k e hf => ?_⟩, others hk h.bld.cel, hbl⟩
  rcases hat k e with q | q
  · exact h.oF k q hf
  · have := (h.srv.all k hf).2; omega
end Go.Proofs.YthaicpepgianpakGreatDoor
namespace Go.Proofs.YthaicpepgianpakGreatDoor
open Go.RowKit
set_option linter.unusedVariables false

theorem keyOf_word (L : List UInt8) (h : L.length ≤ 100) : keyOf Tryz.prog 9 (.string (RunM.bs L)) = some (.string L) := Go.WideMaps.keyOf_string_mk Tryz.underlying9 (by rw [RunM.bs_size]; unfold maxLen; omega)
theorem put_word {w : World} {b n : Nat} {D : DataW Unit} (h : w.ownsMap Tryz.prog 9 (plainElem (H := Unit) Tryz.prog 3) b n D) (hn : n < 100) (L : List UInt8) (hL : L.length ≤ 100) (k : Int) (hk : (Lit.int .i64 k).wf = true) :
    ∃ w', (Instr.mapUpdate 32 (.map (some b)) (.string ⟨L.toArray⟩) (.int .i64 k)).run Tryz.prog w = .ok () w' ∧ w'.ownsMap Tryz.prog 9 (plainElem (H := Unit) Tryz.prog 3) b (n + 1) (D.put (.string L) (iv k)) ∧ w.grownBy w' (some b) :=
  h.update keyLaw Tryz.underlying32 (by unfold maxLen; omega) (keyOf_word L hL) (plainElem_int Tryz.underlying3 hk)
theorem grows9 {w w' : World} {b : Nat} (h : w.grownBy w' (some b)) : Kept [b] w w' := ⟨h.os, h.tape, h.output, h.size, fun k hk hn => h.block k hk (fun e => hn (by rw [Option.some.inj e]; exact List.mem_singleton.2 rfl))⟩

set_option maxRecDepth 100000 in
set_option maxHeartbeats 4000000 in
theorem ropen_any (w : World) : Calls Tryz.prog 11 #[] w fun e w' => ∃ s mb F, e = .returned (.tuple #[.agg #[.pointer (some ⟨s, 0, none⟩), .map (some mb)], .nilIface]) ∧ SOwn w.heap.size w' s F RunM.new ∧ MapIs w' mb ∧ mb ∉ F ∧ w.heap.size ≤ mb ∧ Below w.heap.size w w' := by
  have C := hide (fun W => snew_yes (seed := 7) (life := 50) W (by omega) (by omega) rfl)
  have hmm := @run_makeMap Tryz.prog
  go_enter Tryz.func11, Tryz.ntmps11
  go_wp2_with fail
  refine (unhide C _).mono ?_
  rintro e w1 ⟨s, F, rfl, hs, hb1⟩
  have HR := (Held.fresh (w := w) [.pointer none, .map none] 34 rfl).later hb1
  have HB1 := hide (bel3 (Below.refl _ _) (show Below w.heap.size w (w.alloc _) from (by (repeat' (first | exact Below.refl _ _ | refine Below.alloc ?_ ?_ _ | refine Below.setCell ?_ ?_ _ | refine Below.drew ?_)); all_goals (first | exact Nat.le_refl _ | omega | (simp; done) | (simp; omega)))) hb1)
  have hw1 : w.heap.size < w1.heap.size := HR.2
  have hF : ∀ k, k ∈ F → w.heap.size < k ∧ k < w1.heap.size := fun k hk => by have q := hs.all k hk; simp at q; omega
  have HS := hide (hs.down (B' := w.heap.size) (by simp))
  clear hs hb1
  obtain ⟨m1, r1, o1, g1⟩ := put_word (World.ownsMap_made w1 Tryz.prog 9 (plainElem (H := Unit) Tryz.prog 3)) (by omega) RunM.wHello (by decide) 2 (by decide)
  obtain ⟨m2, r2, o2, g2⟩ := put_word o1 (by omega) RunM.wAgain (by decide) 6 (by decide)
  obtain ⟨m3, r3, o3, g3⟩ := put_word o2 (by omega) RunM.wTicket (by decide) 1 (by decide)
  obtain ⟨m4, r4, o4, g4⟩ := put_word o3 (by omega) RunM.wPull (by decide) 0 (by decide)
  obtain ⟨m5, r5, o5, g5⟩ := put_word o4 (by omega) RunM.wTurn (by decide) 0 (by decide)
  obtain ⟨m6, r6, o6, g6⟩ := put_word o5 (by omega) RunM.wCrash (by decide) 0 (by decide)
  obtain ⟨m7, r7, o7, g7⟩ := put_word o6 (by omega) RunM.wWaiting (by decide) 0 (by decide)
  have hk : Kept [w1.heap.size] w1 m7 := (((((((Kept.refl [w1.heap.size] w1).alloc (.map #[] 0)).trans (grows9 g1)).trans (grows9 g2)).trans (grows9 g3)).trans (grows9 g4)).trans (grows9 g5)).trans ((grows9 g6).trans (grows9 g7))
  have HR7 := hk.held HR (fun hm => by have := List.mem_singleton.1 hm; omega)
  have HM := hide (show MapIs m7 w1.heap.size from o7)
  have HS7 := hide ((unhide HS).kept hk (fun k hf hm => by have := (hF k hf).2; rw [List.mem_singleton.1 hm] at this; omega))
  have HB7 := hide ((unhide HB1).trans (hk.below (B := w.heap.size) (Below.refl _ _) (by omega) (fun k hm => by rw [List.mem_singleton.1 hm]; omega)))
  have HF := hide hF
  obtain ⟨⟨d0, d1⟩, f0, f1⟩ := HR7.c2
  have dl := HR7.2
  clear HR o1 o2 o3 o4 o5 o6 o7 g1 g2 g3 g4 g5 g6 g7 hk HR7 hF HS HB1
  simp only [RunM.wHello, RunM.wAgain, RunM.wTicket, RunM.wPull, RunM.wTurn, RunM.wCrash, RunM.wWaiting] at r1 r2 r3 r4 r5 r6 r7
  go_wp2
  have hk2 : Kept [w.heap.size] m7 ((m7.setCell ⟨w.heap.size, 0, none⟩ (.pointer (some ⟨s, 0, none⟩))).setCell ⟨w.heap.size, 1, none⟩ (.map (some w1.heap.size))) := ((Kept.refl [w.heap.size] m7).setCell (.inl (List.mem_singleton.2 rfl)) _).setCell (.inl (List.mem_singleton.2 rfl)) _
  exact bodyPost_ret (v := .tuple #[.agg #[.pointer (some ⟨s, 0, none⟩), .map (some w1.heap.size)], .nilIface]) (by simp [results, Tryz.results11, go_sem, d0, d1]) rfl ⟨s, w1.heap.size, F, rfl, (unhide HS7).kept hk2 (fun k hf hm => by have := (unhide HF k hf).1; rw [List.mem_singleton.1 hm] at this; omega), (unhide HM).kept hk2 (fun hm => by have := List.mem_singleton.1 hm; omega), fun hm => by have := (unhide HF _ hm).2; omega, by omega, hk2.below (unhide HB7) (unhide HB7).size (fun k hm => by rw [List.mem_singleton.1 hm]; exact Nat.le_refl _)⟩
end Go.Proofs.YthaicpepgianpakGreatDoor
