/-
  The program's server in memory: its own block, its queue's, its issuer's, its vault's, all apart; what a call on it leaves.
-/
import Derived.Test.YthaicpepgianpakGreatDoorServerMath
import Derived.Test.YthaicpepgianpakGreatDoorQueueWalks
import Derived.Test.YthaicpepgianpakGreatDoorIssueWalks
import Derived.Test.YthaicpepgianpakGreatDoorVaultOwn
import Derived.Test.YthaicpepgianpakGreatDoorJudgeWalks
namespace Go.Proofs.YthaicpepgianpakGreatDoor
open Go.RowKit
set_option linter.unusedVariables false

/-- No block of the one is one of the other. -/
def Apart (F G : List Nat) : Prop := ∀ k, k ∈ F → k ∉ G
theorem Apart.symm {F G : List Nat} (h : Apart F G) : Apart G F := fun k hg hf => h k hf hg
theorem Apart.step {F G F' : List Nat} {z : Nat} (h : Apart F G) (hs : ∀ k, k ∈ F' → k ∈ F ∨ z ≤ k) (hz : ∀ k, k ∈ G → k < z) : Apart F' G := fun k hk hg => by
  rcases hs k hk with q | q
  · exact h k q hg
  · have := hz k hg; omega
/-- Its cells. -/
def scells (x : ServM.St) (q i v : Nat) : Array Value :=
  #[.int .i64 x.ep, .int .i64 x.key, .int .i64 x.old, .pointer (some ⟨q, 0, none⟩), .pointer (some ⟨i, 0, none⟩), .pointer (some ⟨v, 0, none⟩), .int .i64 x.life, .int .i64 x.k]
structure SAt (B : Nat) (w : World) (s q i b v : Nat) (o : Option Nat) (R : List Nat) (c : Int) (x : ServM.St) : Prop where
  base : B ≤ s
  me : w.heap[s]? = some (.cells (scells x q i v) 121 (0, 0))
  que : QAt 153 B w q o x.L
  iss : IAt w i b x.n x.m c
  ib : B ≤ i ∧ B ≤ b
  vau : VOwn B w v R x.N x.K
  c0 : 0 ≤ c
  cn : c ≤ x.n
  sq : Apart [s] (q :: o.toList)
  si : Apart [s] [i, b]
  sv : Apart [s] (v :: R)
  qi : Apart (q :: o.toList) [i, b]
  qv : Apart (q :: o.toList) (v :: R)
  iv : Apart [i, b] (v :: R)
/-- All its blocks. -/
def foot (s q i b v : Nat) (o : Option Nat) (R : List Nat) : List Nat := [s] ++ ((q :: o.toList) ++ ([i, b] ++ (v :: R)))
theorem foot_iff {s q i b v k : Nat} {o : Option Nat} {R : List Nat} : k ∈ foot s q i b v o R ↔ k ∈ [s] ∨ k ∈ q :: o.toList ∨ k ∈ [i, b] ∨ k ∈ v :: R := by
  unfold foot
  rw [List.mem_append, List.mem_append, List.mem_append]
theorem in_s {s q i b v k : Nat} {o : Option Nat} {R : List Nat} (h : k ∈ [s]) : k ∈ foot s q i b v o R := foot_iff.2 (.inl h)
theorem in_q {s q i b v k : Nat} {o : Option Nat} {R : List Nat} (h : k ∈ q :: o.toList) : k ∈ foot s q i b v o R := foot_iff.2 (.inr (.inl h))
theorem in_i {s q i b v k : Nat} {o : Option Nat} {R : List Nat} (h : k ∈ [i, b]) : k ∈ foot s q i b v o R := foot_iff.2 (.inr (.inr (.inl h)))
theorem in_v {s q i b v k : Nat} {o : Option Nat} {R : List Nat} (h : k ∈ v :: R) : k ∈ foot s q i b v o R := foot_iff.2 (.inr (.inr (.inr h)))
/-- It lies at s; its blocks are those of F; nothing of it lies below B. -/
def SOwn (B : Nat) (w : World) (s : Nat) (F : List Nat) (x : ServM.St) : Prop :=
  ∃ q i b v o R c, SAt B w s q i b v o R c x ∧ F = foot s q i b v o R
/-- What a call on it leaves. -/
def SLink (w w' : World) (F F' : List Nat) : Prop := (∀ k, k ∈ F' → k ∈ F ∨ w.heap.size ≤ k) ∧ Kept F w w'
def SStep (B : Nat) (w w' : World) (s : Nat) (F : List Nat) (x : ServM.St) : Prop := ∃ F', SOwn B w' s F' x ∧ SLink w w' F F'
theorem SLink.trans {w w1 w' : World} {F F1 F2 : List Nat} (h : SLink w w1 F F1) (k : SLink w1 w' F1 F2) : SLink w w' F F2 := by
  obtain ⟨a2, a3⟩ := h
  obtain ⟨b2, b3⟩ := k
  have hs := a3.size
  refine ⟨fun k hk => ?_, a3.step b3 a2⟩
  rcases b2 k hk with q | q
  · exact a2 k q
  · exact .inr (by omega)

theorem SAt.inS {B : Nat} {w : World} {s q i b v : Nat} {o : Option Nat} {R : List Nat} {c : Int} {x : ServM.St} (h : SAt B w s q i b v o R c x) : ∀ k, k ∈ [s] → B ≤ k ∧ k < w.heap.size := fun k hk => by
  rw [List.mem_singleton.1 hk]
  exact ⟨h.base, (Array.getElem?_eq_some_iff.1 h.me).1⟩
theorem SAt.inQ {B : Nat} {w : World} {s q i b v : Nat} {o : Option Nat} {R : List Nat} {c : Int} {x : ServM.St} (h : SAt B w s q i b v o R c x) : ∀ k, k ∈ q :: o.toList → B ≤ k ∧ k < w.heap.size := fun k hk => by
  rcases List.mem_cons.1 hk with e | e
  · rw [e]; exact ⟨h.que.1, h.que.lt⟩
  · exact h.que.row (by simpa using e)
theorem SAt.inI {B : Nat} {w : World} {s q i b v : Nat} {o : Option Nat} {R : List Nat} {c : Int} {x : ServM.St} (h : SAt B w s q i b v o R c x) : ∀ k, k ∈ [i, b] → B ≤ k ∧ k < w.heap.size := fun k hk => by
  rcases List.mem_cons.1 hk with e | e
  · rw [e]; exact ⟨h.ib.1, h.iss.lt.1⟩
  · rw [List.mem_singleton.1 e]; exact ⟨h.ib.2, h.iss.lt.2⟩
theorem SAt.inV {B : Nat} {w : World} {s q i b v : Nat} {o : Option Nat} {R : List Nat} {c : Int} {x : ServM.St} (h : SAt B w s q i b v o R c x) : ∀ k, k ∈ v :: R → B ≤ k ∧ k < w.heap.size := fun k hk => by
  rcases List.mem_cons.1 hk with e | e
  · rw [e]; exact ⟨h.vau.1, h.vau.lt⟩
  · exact ⟨(h.vau.2.2 k e).1, (h.vau.2.2 k e).2.1⟩
theorem SAt.all {B : Nat} {w : World} {s q i b v : Nat} {o : Option Nat} {R : List Nat} {c : Int} {x : ServM.St} (h : SAt B w s q i b v o R c x) : ∀ k, k ∈ foot s q i b v o R → B ≤ k ∧ k < w.heap.size := fun k hk => by
  rcases foot_iff.1 hk with e | e | e | e
  · exact h.inS k e
  · exact h.inQ k e
  · exact h.inI k e
  · exact h.inV k e
theorem SAt.kept {B : Nat} {w w' : World} {s q i b v : Nat} {o : Option Nat} {R : List Nat} {c : Int} {x : ServM.St} {F : List Nat} (h : SAt B w s q i b v o R c x) (hk : Kept F w w') (hF : ∀ k, k ∈ foot s q i b v o R → k ∉ F) : SAt B w' s q i b v o R c x :=
  ⟨h.base, by rw [hk.block s (h.inS s (List.mem_singleton.2 rfl)).2 (hF s (in_s (List.mem_singleton.2 rfl)))]; exact h.me,
    h.que.kept hk (hF q (in_q (List.mem_cons_self ..))) (fun k e => hF k (in_q (List.mem_cons_of_mem _ (by simp [e])))),
    h.iss.kept hk (hF i (in_i (List.mem_cons_self ..))) (hF b (in_i (List.mem_cons_of_mem _ (List.mem_singleton.2 rfl)))), h.ib,
    h.vau.kept hk (hF v (in_v (List.mem_cons_self ..))) (fun g hg => hF g (in_v (List.mem_cons_of_mem _ hg))),
    h.c0, h.cn, h.sq, h.si, h.sv, h.qi, h.qv, h.iv⟩
theorem SOwn.all {B : Nat} {w : World} {s : Nat} {F : List Nat} {x : ServM.St} (h : SOwn B w s F x) : ∀ k, k ∈ F → B ≤ k ∧ k < w.heap.size := by
  obtain ⟨q, i, b, v, o, R, c, h1, rfl⟩ := h
  exact h1.all
theorem SOwn.mem {B : Nat} {w : World} {s : Nat} {F : List Nat} {x : ServM.St} (h : SOwn B w s F x) : s ∈ F := by
  obtain ⟨q, i, b, v, o, R, c, h1, rfl⟩ := h
  exact in_s (List.mem_singleton.2 rfl)
theorem SOwn.lt {B : Nat} {w : World} {s : Nat} {F : List Nat} {x : ServM.St} (h : SOwn B w s F x) : s < w.heap.size := (h.all s h.mem).2
theorem SOwn.out {B : Nat} {w : World} {s : Nat} {F : List Nat} {x : ServM.St} (h : SOwn B w s F x) {k : Nat} (hk : w.heap.size ≤ k) : k ∉ F := fun hm => by
  have := (h.all k hm).2; omega
theorem SOwn.kept {B : Nat} {G : List Nat} {w w' : World} {s : Nat} {F : List Nat} {x : ServM.St} (h : SOwn B w s F x) (hk : Kept G w w') (hF : ∀ k, k ∈ F → k ∉ G) : SOwn B w' s F x := by
  obtain ⟨q, i, b, v, o, R, c, h1, rfl⟩ := h
  exact ⟨q, i, b, v, o, R, c, h1.kept hk hF, rfl⟩
theorem SOwn.later {B : Nat} {w w' : World} {s : Nat} {F : List Nat} {x : ServM.St} (h : SOwn B w s F x) (hb : Below w.heap.size w w') : SOwn B w' s F x :=
  h.kept (Kept.of (F := []) hb) (by simp)
/-- Stores into newer blocks leave it. -/
theorem SOwn.far {B : Nat} {w : World} {s d : Nat} {F : List Nat} {x : ServM.St} (h : SOwn B w s F x) (hd : d ∉ F) (j : Nat) (u : Value) : SOwn B (w.setCell ⟨d, j, none⟩ u) s F x :=
  h.kept ((Kept.refl [d] w).setCell (.inl (List.mem_singleton.2 rfl)) u) (fun k hk hm => hd (by rw [← List.mem_singleton.1 hm]; exact hk))
theorem SStep.same {B : Nat} {w w' : World} {s : Nat} {F : List Nat} {x : ServM.St} (h : SOwn B w s F x) (hb : Below w.heap.size w w') : SStep B w w' s F x :=
  ⟨F, h.later hb, fun _ hk => .inl hk, Kept.of hb⟩
theorem SStep.behind {B : Nat} {w w1 w' : World} {s : Nat} {F : List Nat} {x : ServM.St} (hb : Below w.heap.size w w1) (h : SStep B w1 w' s F x) : SStep B w w' s F x := by
  obtain ⟨F', h1, h2, h3⟩ := h
  exact ⟨F', h1, fun k hk => (h2 k hk).imp_right (fun q => Nat.le_trans hb.size q), (Kept.of hb).trans h3⟩
theorem SStep.ahead {B : Nat} {w w1 w' : World} {s : Nat} {F : List Nat} {x : ServM.St} (h : SStep B w w1 s F x) (hb : Below w1.heap.size w1 w') : SStep B w w' s F x := by
  obtain ⟨F', h1, h2, h3⟩ := h
  exact ⟨F', h1.later hb, h2, h3.trans (Kept.of hb)⟩
theorem SStep.trans {B : Nat} {w w1 w' : World} {s : Nat} {F : List Nat} {x y : ServM.St} (h : SStep B w w1 s F x) (h' : ∀ F', SOwn B w1 s F' x → SStep B w1 w' s F' y) : SStep B w w' s F y := by
  obtain ⟨F1, a1, a2, a3⟩ := h
  obtain ⟨F2, b1, b2, b3⟩ := h' F1 a1
  have hs := a3.size
  refine ⟨F2, b1, fun k hk => ?_, a3.step b3 a2⟩
  rcases b2 k hk with q | q
  · exact a2 k q
  · exact .inr (by omega)
theorem SStep.below {B : Nat} {w0 w w' : World} {s : Nat} {F : List Nat} {x y : ServM.St} (hs : SStep B w w' s F y) (h : SOwn B w s F x) (hb : Below B w0 w) (hB : B ≤ w.heap.size) : Below B w0 w' := by
  obtain ⟨_, _, _, h4⟩ := hs
  exact h4.below hb hB (fun k hk => (h.all k hk).1)
theorem SStep.size {B : Nat} {w w' : World} {s : Nat} {F : List Nat} {y : ServM.St} (hs : SStep B w w' s F y) : w.heap.size ≤ w'.heap.size := by
  obtain ⟨_, _, _, h4⟩ := hs
  exact h4.size
/-- A block of the caller's own stays. -/
theorem SStep.held {B : Nat} {w w' : World} {s d : Nat} {F : List Nat} {x : ServM.St} {vs : List Value} (hs : SStep B w w' s F x) (hd : d ∉ F) (hh : Held w d vs) : Held w' d vs := by
  obtain ⟨_, _, _, h4⟩ := hs
  exact h4.held hh hd
/-- Stores into a block that the call made itself, behind the step. -/
theorem SStep.far {B : Nat} {w W w1 w2 : World} {s d : Nat} {F : List Nat} {x y : ServM.St} (hs : SStep B W w1 s F y) (hw : Below w.heap.size w W) (h : SOwn B w s F x) (hd : w.heap.size ≤ d) (hd2 : d < W.heap.size) (hk : Kept [d] w1 w2) : SStep B w w2 s F y := by
  obtain ⟨F', h1, h2, h3⟩ := hs
  refine ⟨F', h1.kept hk (fun k hk' hm => ?_), fun k hk' => (h2 k hk').imp_right (fun q => Nat.le_trans hw.size q), ((Kept.of hw).trans h3).step hk (fun i hi => .inr (by rw [List.mem_singleton.1 hi]; exact hd))⟩
  rw [List.mem_singleton.1 hm] at hk'
  rcases h2 d hk' with q | q
  · have := (h.all d q).2; omega
  · omega

/-- Steps of its parts. -/
theorem SAt.queAt {B : Nat} {w w' : World} {s q i b v : Nat} {o : Option Nat} {R : List Nat} {c : Int} {x : ServM.St} {L' : List (Int × Int)} (h : SAt B w s q i b v o R c x) (hs : QStep 153 B w w' q o L') : ∃ o', SAt B w' s q i b v o' R c { x with L := L' } ∧ SLink w w' (foot s q i b v o R) (foot s q i b v o' R) := by
  obtain ⟨o', h1, h2, h3⟩ := hs
  have hst : ∀ k, k ∈ q :: o'.toList → k ∈ q :: o.toList ∨ w.heap.size ≤ k := fun k hk => by
    rcases List.mem_cons.1 hk with e | e
    · exact .inl (by rw [e]; exact List.mem_cons_self ..)
    · exact (h2 k (by simpa using e)).imp_left (fun e => List.mem_cons_of_mem _ (by simp [e]))
  refine ⟨o', ⟨h.base, ?_, h1, ?_, h.ib, ?_, h.c0, h.cn, ?_, h.si, h.sv, ?_, ?_, h.iv⟩, fun k hk => ?_, h3.mono (fun k hk => .inl (in_q hk))⟩
  · rw [h3.block s (h.inS s (List.mem_singleton.2 rfl)).2 (h.sq s (List.mem_singleton.2 rfl))]; exact h.me
  · exact h.iss.kept h3 (h.qi.symm i (List.mem_cons_self ..)) (h.qi.symm b (List.mem_cons_of_mem _ (List.mem_singleton.2 rfl)))
  · exact h.vau.kept h3 (h.qv.symm v (List.mem_cons_self ..)) (fun g hg => h.qv.symm g (List.mem_cons_of_mem _ hg))
  · exact (h.sq.symm.step hst (fun k hk => (h.inS k hk).2)).symm
  · exact h.qi.step hst (fun k hk => (h.inI k hk).2)
  · exact h.qv.step hst (fun k hk => (h.inV k hk).2)
  · rcases foot_iff.1 hk with e | e | e | e
    · exact .inl (in_s e)
    · exact (hst k e).imp_left in_q
    · exact .inl (in_i e)
    · exact .inl (in_v e)
theorem SAt.issAt {B : Nat} {w w' : World} {s q i b v : Nat} {o : Option Nat} {R : List Nat} {c : Int} {x : ServM.St} {n' m' c' : Int} (h : SAt B w s q i b v o R c x) (h1 : IAt w' i b n' m' c') (h3 : Kept [i, b] w w') (c0 : 0 ≤ c') (cn : c' ≤ n') : SAt B w' s q i b v o R c' { x with n := n', m := m' } ∧ SLink w w' (foot s q i b v o R) (foot s q i b v o R) :=
  ⟨⟨h.base, by rw [h3.block s (h.inS s (List.mem_singleton.2 rfl)).2 (h.si s (List.mem_singleton.2 rfl))]; exact h.me,
    h.que.kept h3 (h.qi q (List.mem_cons_self ..)) (fun k e => h.qi k (List.mem_cons_of_mem _ (by simp [e]))), h1, h.ib,
    h.vau.kept h3 (h.iv.symm v (List.mem_cons_self ..)) (fun g hg => h.iv.symm g (List.mem_cons_of_mem _ hg)), c0, cn, h.sq, h.si, h.sv, h.qi, h.qv, h.iv⟩,
    fun _ hk => .inl hk, h3.mono (fun _ hk => .inl (in_i hk))⟩
theorem SAt.vauAt {B : Nat} {w w' : World} {s q i b v : Nat} {o : Option Nat} {R : List Nat} {c : Int} {x : ServM.St} {N' K' : List (Int × Int)} (h : SAt B w s q i b v o R c x) (hs : VStep B w w' v R N' K') : ∃ R', SAt B w' s q i b v o R' c { x with N := N', K := K' } ∧ SLink w w' (foot s q i b v o R) (foot s q i b v o R') := by
  obtain ⟨R', h1, h2, h3⟩ := hs
  have hst : ∀ k, k ∈ v :: R' → k ∈ v :: R ∨ w.heap.size ≤ k := fun k hk => by
    rcases List.mem_cons.1 hk with e | e
    · exact .inl (by rw [e]; exact List.mem_cons_self ..)
    · exact (h2 k e).imp_left (List.mem_cons_of_mem _)
  have hv : ∀ {G : List Nat}, Apart G (v :: R) → ∀ k, k ∈ G → k ∉ [v] := fun ha k hk hm => ha k hk (by rw [List.mem_singleton.1 hm]; exact List.mem_cons_self ..)
  refine ⟨R', ⟨h.base, ?_, ?_, ?_, h.ib, h1, h.c0, h.cn, h.sq, h.si, ?_, h.qi, ?_, ?_⟩, fun k hk => ?_, h3.mono (fun k hk => .inl (in_v (by rw [List.mem_singleton.1 hk]; exact List.mem_cons_self ..)))⟩
  · rw [h3.block s (h.inS s (List.mem_singleton.2 rfl)).2 (hv h.sv s (List.mem_singleton.2 rfl))]; exact h.me
  · exact h.que.kept h3 (hv h.qv q (List.mem_cons_self ..)) (fun k e => hv h.qv k (List.mem_cons_of_mem _ (by simp [e])))
  · exact h.iss.kept h3 (hv h.iv i (List.mem_cons_self ..)) (hv h.iv b (List.mem_cons_of_mem _ (List.mem_singleton.2 rfl)))
  · exact (h.sv.symm.step hst (fun k hk => (h.inS k hk).2)).symm
  · exact (h.qv.symm.step hst (fun k hk => (h.inQ k hk).2)).symm
  · exact (h.iv.symm.step hst (fun k hk => (h.inI k hk).2)).symm
  · rcases foot_iff.1 hk with e | e | e | e
    · exact .inl (in_s e)
    · exact .inl (in_q e)
    · exact .inl (in_i e)
    · exact (hst k e).imp_left in_v
/-- Stores into its own block: its numbers turn, its parts do not. -/
theorem SAt.meAt {B : Nat} {w w' : World} {s q i b v : Nat} {o : Option Nat} {R : List Nat} {c : Int} {x : ServM.St} {y : ServM.St} (h : SAt B w s q i b v o R c x) (h3 : Kept [s] w w') (hm : w'.heap[s]? = some (.cells (scells y q i v) 121 (0, 0))) (eL : y.L = x.L) (en : y.n = x.n) (em : y.m = x.m) (eN : y.N = x.N) (eK : y.K = x.K) :
    SAt B w' s q i b v o R c y ∧ SLink w w' (foot s q i b v o R) (foot s q i b v o R) :=
  ⟨⟨h.base, hm,
    eL ▸ h.que.kept h3 (h.sq.symm q (List.mem_cons_self ..)) (fun k e => h.sq.symm k (List.mem_cons_of_mem _ (by simp [e]))),
    by rw [en, em]; exact h.iss.kept h3 (h.si.symm i (List.mem_cons_self ..)) (h.si.symm b (List.mem_cons_of_mem _ (List.mem_singleton.2 rfl))), h.ib,
    by rw [eN, eK]; exact h.vau.kept h3 (h.sv.symm v (List.mem_cons_self ..)) (fun g hg => h.sv.symm g (List.mem_cons_of_mem _ hg)), h.c0, by rw [en]; exact h.cn, h.sq, h.si, h.sv, h.qi, h.qv, h.iv⟩,
    fun _ hk => .inl hk, h3.mono (fun _ hk => .inl (in_s hk))⟩
/-- A queue of its own, newly made, in the place of its queue. -/
theorem SAt.newQueue {B : Nat} {w : World} {s q i b v : Nat} {o : Option Nat} {R : List Nat} {c : Int} {x : ServM.St} {W : World} {q' : Nat} (h : SAt B w s q i b v o R c x) (hq : QAt 153 w.heap.size W q' none []) (hb : Below w.heap.size w W) (hB : B ≤ w.heap.size) :
    SAt B (W.setCell ⟨s, 3, none⟩ (.pointer (some ⟨q', 0, none⟩))) s q' i b v none R c { x with L := [] } ∧ SLink w (W.setCell ⟨s, 3, none⟩ (.pointer (some ⟨q', 0, none⟩))) (foot s q i b v o R) (foot s q' i b v none R) := by
  have hs := (h.inS s (List.mem_singleton.2 rfl)).2
  have hk : Kept [s] W (W.setCell ⟨s, 3, none⟩ (.pointer (some ⟨q', 0, none⟩))) := (Kept.refl [s] W).setCell (.inl (List.mem_singleton.2 rfl)) _
  have hk2 : Kept [s] w (W.setCell ⟨s, 3, none⟩ (.pointer (some ⟨q', 0, none⟩))) := (Kept.of hb).trans hk
  have hqq := hq.1
  have away : ∀ {G : List Nat}, (∀ k, k ∈ G → k < w.heap.size) → Apart (q' :: (none : Option Nat).toList) G := fun hG k hk hg => by
    have e : k = q' := by simpa using hk
    have := hG k hg
    omega
  refine ⟨⟨h.base, ?_, ?_, ?_, h.ib, ?_, h.c0, h.cn, ?_, h.si, h.sv, ?_, ?_, h.iv⟩, fun k hk => ?_, hk2.mono (fun k hk => .inl (in_s hk))⟩
  · rw [heap_put ((hb.block s hs).trans h.me) _]; rfl
  · exact (hq.down hB).kept hk (by simp; omega) (by simp)
  · exact h.iss.kept hk2 (h.si.symm i (List.mem_cons_self ..)) (h.si.symm b (List.mem_cons_of_mem _ (List.mem_singleton.2 rfl)))
  · exact h.vau.kept hk2 (h.sv.symm v (List.mem_cons_self ..)) (fun g hg => h.sv.symm g (List.mem_cons_of_mem _ hg))
  · exact (away (fun k hk => (h.inS k hk).2)).symm
  · exact away (fun k hk => (h.inI k hk).2)
  · exact away (fun k hk => (h.inV k hk).2)
  · rcases foot_iff.1 hk with e | e | e | e
    · exact .inl (in_s e)
    · exact .inr (by have e : k = q' := by simpa using e
                     omega)
    · exact .inl (in_i e)
    · exact .inl (in_v e)
theorem SAt.own {B : Nat} {w : World} {s q i b v : Nat} {o : Option Nat} {R : List Nat} {c : Int} {x : ServM.St} (h : SAt B w s q i b v o R c x) : SOwn B w s (foot s q i b v o R) x := ⟨q, i, b, v, o, R, c, h, rfl⟩
theorem SAt.later {B : Nat} {w w' : World} {s q i b v : Nat} {o : Option Nat} {R : List Nat} {c : Int} {x : ServM.St} (h : SAt B w s q i b v o R c x) (hb : Below w.heap.size w w') : SAt B w' s q i b v o R c x :=
  h.kept (Kept.of (F := []) hb) (by simp)
theorem SAt.queStep {B : Nat} {w w' : World} {s q i b v : Nat} {o : Option Nat} {R : List Nat} {c : Int} {x : ServM.St} {L' : List (Int × Int)} (h : SAt B w s q i b v o R c x) (hs : QStep 153 B w w' q o L') : SStep B w w' s (foot s q i b v o R) { x with L := L' } := by
  obtain ⟨o', h1, h2⟩ := h.queAt hs
  exact ⟨_, h1.own, h2⟩
theorem SAt.vauStep {B : Nat} {w w' : World} {s q i b v : Nat} {o : Option Nat} {R : List Nat} {c : Int} {x : ServM.St} {N' K' : List (Int × Int)} (h : SAt B w s q i b v o R c x) (hs : VStep B w w' v R N' K') : SStep B w w' s (foot s q i b v o R) { x with N := N', K := K' } := by
  obtain ⟨R', h1, h2⟩ := h.vauAt hs
  exact ⟨_, h1.own, h2⟩
/-- Its cells, read. -/
theorem SAt.nums {B : Nat} {w : World} {s q i b v : Nat} {o : Option Nat} {R : List Nat} {c : Int} {x : ServM.St} (h : SAt B w s q i b v o R c x) :
    (w.cell? ⟨s, 0, none⟩ = some (.int .i64 x.ep) ∧ w.cell? ⟨s, 1, none⟩ = some (.int .i64 x.key) ∧ w.cell? ⟨s, 2, none⟩ = some (.int .i64 x.old) ∧ w.cell? ⟨s, 3, none⟩ = some (.pointer (some ⟨q, 0, none⟩)) ∧ w.cell? ⟨s, 4, none⟩ = some (.pointer (some ⟨i, 0, none⟩)) ∧ w.cell? ⟨s, 5, none⟩ = some (.pointer (some ⟨v, 0, none⟩)) ∧ w.cell? ⟨s, 6, none⟩ = some (.int .i64 x.life) ∧ w.cell? ⟨s, 7, none⟩ = some (.int .i64 x.k)) ∧ (∀ j, w.frozen? ⟨s, j, none⟩ = false) ∧ s < w.heap.size :=
  ⟨⟨by rw [Go.Lib.cell_of_heap h.me]; rfl, by rw [Go.Lib.cell_of_heap h.me]; rfl, by rw [Go.Lib.cell_of_heap h.me]; rfl, by rw [Go.Lib.cell_of_heap h.me]; rfl, by rw [Go.Lib.cell_of_heap h.me]; rfl, by rw [Go.Lib.cell_of_heap h.me]; rfl, by rw [Go.Lib.cell_of_heap h.me]; rfl, by rw [Go.Lib.cell_of_heap h.me]; rfl⟩, fun j => Go.Lib.frozen_of_heap h.me j, (h.inS s (List.mem_singleton.2 rfl)).2⟩
end Go.Proofs.YthaicpepgianpakGreatDoor
