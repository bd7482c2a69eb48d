/-
  The program's server and the document's, side by side, with blocks of the law's own: what a call on either leaves.
-/
import Derived.Test.YthaicpepgianpakGreatDoorServerLaw
import Derived.Test.YthaicpepgianpakGreatDoorRefHello
namespace Go.Proofs.YthaicpepgianpakGreatDoor
open Go.RowKit
set_option linter.unusedVariables false

theorem VOwn.down {B B' : Nat} {w : World} {v : Nat} {R : List Nat} {L K : List (Int × Int)} (h : VOwn B w v R L K) (hB : B' ≤ B) : VOwn B' w v R L K :=
  ⟨Nat.le_trans hB h.1, h.2.1, fun g hg => ⟨Nat.le_trans hB (h.2.2 g hg).1, (h.2.2 g hg).2⟩⟩
theorem SOwn.down {B B' : Nat} {w : World} {s : Nat} {F : List Nat} {x : ServM.St} (h : SOwn B w s F x) (hB : B' ≤ B) : SOwn B' w s F x := by
  obtain ⟨q, i, b, v, o, R, c, h1, rfl⟩ := h
  exact ⟨q, i, b, v, o, R, c, ⟨Nat.le_trans hB h1.base, h1.me, h1.que.down hB, h1.iss, ⟨Nat.le_trans hB h1.ib.1, Nat.le_trans hB h1.ib.2⟩, h1.vau.down hB, h1.c0, h1.cn, h1.sq, h1.si, h1.sv, h1.qi, h1.qv, h1.iv⟩, rfl⟩
theorem MAt.down {B B' : Nat} {w : World} {m : Nat} {o : Option Nat} {R : List Nat} {x : ServM.St} (h : MAt B w m o R x) (hB : B' ≤ B) : MAt B' w m o R x := by
  obtain ⟨h0, v, a1, n1, c1, a2, n2, c2, h1, h2, h3, p1, p2, r1, r2, hr⟩ := h
  exact ⟨Nat.le_trans hB h0, v, a1, n1, c1, a2, n2, c2, h1, h2, own_base h3 hB, p1, p2, r1, r2, fun g hg => ⟨Nat.le_trans hB (hr g hg).1, (hr g hg).2⟩⟩
def mfoot (m : Nat) (o : Option Nat) (R : List Nat) : List Nat := m :: (o.toList ++ R)
theorem mfoot_iff {m k : Nat} {o : Option Nat} {R : List Nat} : k ∈ mfoot m o R ↔ k = m ∨ o = some k ∨ k ∈ R := by
  unfold mfoot
  rw [List.mem_cons, List.mem_append]
  cases o with
  | none => simp
  | some q => simp [eq_comm]
theorem MAt.all {B : Nat} {w : World} {m : Nat} {o : Option Nat} {R : List Nat} {x : ServM.St} (h : MAt B w m o R x) : ∀ k, k ∈ mfoot m o R → B ≤ k ∧ k < w.heap.size := fun k hk => by
  rcases mfoot_iff.1 hk with e | e | e
  · rw [e]; exact ⟨h.1, h.lt⟩
  · exact h.row e
  · obtain ⟨_, _, _, _, _, _, _, _, _, _, _, _, _, _, _, hr⟩ := h
    exact ⟨(hr k e).1, (hr k e).2.1⟩
theorem MAt.keptF {B : Nat} {F : List Nat} {w w' : World} {m : Nat} {o : Option Nat} {R : List Nat} {x : ServM.St} (h : MAt B w m o R x) (hk : Kept F w w') (ha : ∀ k, k ∈ mfoot m o R → k ∉ F) : MAt B w' m o R x :=
  h.kept hk (ha m (mfoot_iff.2 (.inl rfl))) (fun k e => ha k (mfoot_iff.2 (.inr (.inl e)))) (fun g hg => ha g (mfoot_iff.2 (.inr (.inr hg))))
/-- Both, apart; the blocks of G are none of theirs. -/
def Duo (B : Nat) (w : World) (s m : Nat) (G : List Nat) (x y : ServM.St) : Prop :=
  ∃ F o R, SOwn B w s F x ∧ MAt B w m o R y ∧ Apart F (mfoot m o R) ∧ ∀ g, g ∈ G → g < w.heap.size ∧ g ∉ F ∧ g ∉ mfoot m o R
/-- What was written is newer than B, and none of G. -/
def Lets (B : Nat) (G : List Nat) (w w' : World) : Prop := ∃ K, Kept K w w' ∧ ∀ k, k ∈ K → k < w.heap.size → B ≤ k ∧ k ∉ G
theorem Lets.of {B : Nat} {G : List Nat} {w w' : World} (hb : Below w.heap.size w w') : Lets B G w w' := ⟨[], Kept.of hb, by simp⟩
theorem Lets.refl (B : Nat) (G : List Nat) (w : World) : Lets B G w w := ⟨[], Kept.refl _ _, by simp⟩
theorem Lets.size {B : Nat} {G : List Nat} {w w' : World} (h : Lets B G w w') : w.heap.size ≤ w'.heap.size := by
  obtain ⟨K, h1, _⟩ := h
  exact h1.size
theorem Lets.trans {B : Nat} {G : List Nat} {w w1 w' : World} (h : Lets B G w w1) (k : Lets B G w1 w') : Lets B G w w' := by
  obtain ⟨K1, a1, a2⟩ := h
  obtain ⟨K2, b1, b2⟩ := k
  have hs := a1.size
  refine ⟨K1 ++ K2, (a1.mono (fun k hk => .inl (List.mem_append_left _ hk))).trans (b1.mono (fun k hk => .inl (List.mem_append_right _ hk))), fun k hk hl => ?_⟩
  rcases List.mem_append.1 hk with q | q
  · exact a2 k q hl
  · exact b2 k q (by omega)
theorem Lets.drew {B : Nat} {G : List Nat} {w w' : World} (h : Lets B G w w') : Lets B G w w'.drew := h.trans (Lets.of (below_drew (Below.refl _ _)))
theorem Lets.alloc {B : Nat} {G : List Nat} {w w' : World} (h : Lets B G w w') (o : Obj) : Lets B G w (w'.alloc o) := h.trans (Lets.of (below_alloc (Below.refl _ _) o))
theorem Lets.setCell {B : Nat} {G : List Nat} {w w' : World} (h : Lets B G w w') {p : Addr} (hp : w.heap.size ≤ p.block) (u : Value) : Lets B G w (w'.setCell p u) := by
  obtain ⟨K, a1, a2⟩ := h
  refine ⟨p.block :: K, (a1.mono (fun k hk => .inl (List.mem_cons_of_mem _ hk))).setCell (.inl (List.mem_cons_self ..)) u, fun k hk hl => ?_⟩
  rcases List.mem_cons.1 hk with q | q
  · omega
  · exact a2 k q hl
theorem Lets.held {B g : Nat} {G : List Nat} {w w' : World} {vs : List Value} (h : Lets B G w w') (hg : g ∈ G) (hh : Held w g vs) : Held w' g vs := by
  obtain ⟨K, a1, a2⟩ := h
  exact a1.held hh (fun hm => (a2 g hm hh.2).2 hg)
theorem Lets.below {B : Nat} {G : List Nat} {w0 w w' : World} (h : Lets B G w w') (hb : Below B w0 w) (hB : B ≤ w.heap.size) : Below B w0 w' := by
  obtain ⟨K, a1, a2⟩ := h
  refine a1.below hb hB (fun k hk => ?_)
  by_cases hl : k < w.heap.size
  · exact (a2 k hk hl).1
  · omega
theorem Lets.cell {B b o : Nat} {G : List Nat} {w w' : World} {u : Value} (h : Lets B G w w') (hb : b < B) (hc : w.cell? ⟨b, o, none⟩ = some u) : w'.cell? ⟨b, o, none⟩ = some u := by
  obtain ⟨K, a1, a2⟩ := h
  have hl : b < w.heap.size := World.block_lt_of_cell? _ _ hc
  rw [a1.cell hl (fun hm => by have := (a2 b hm hl).1; omega)]
  exact hc
def DStep (B : Nat) (w w' : World) (s m : Nat) (G : List Nat) (x y : ServM.St) : Prop := Duo B w' s m G x y ∧ Lets B G w w'
theorem Duo.kept {B : Nat} {K G : List Nat} {w w' : World} {s m : Nat} {x y : ServM.St} (h : Duo B w s m G x y) (hk : Kept K w w') (hK : ∀ k, k ∈ K → k ∈ G ∨ w.heap.size ≤ k) : Duo B w' s m G x y := by
  obtain ⟨F, o, R, h1, h2, h3, h4⟩ := h
  refine ⟨F, o, R, h1.kept hk (fun k hf hm => ?_), h2.keptF hk (fun k hf hm => ?_), h3, fun g hg => ⟨Nat.lt_of_lt_of_le (h4 g hg).1 hk.size, (h4 g hg).2⟩⟩
  · rcases hK k hm with q | q
    · exact (h4 k q).2.1 hf
    · have := (h1.all k hf).2; omega
  · rcases hK k hm with q | q
    · exact (h4 k q).2.2 hf
    · have := (h2.all k hf).2; omega
theorem Duo.later {B : Nat} {G : List Nat} {w w' : World} {s m : Nat} {x y : ServM.St} (h : Duo B w s m G x y) (hb : Below w.heap.size w w') : Duo B w' s m G x y :=
  h.kept (K := []) (Kept.of hb) (by simp)
theorem Duo.drew {B : Nat} {G : List Nat} {w : World} {s m : Nat} {x y : ServM.St} (h : Duo B w s m G x y) : Duo B w.drew s m G x y := h.later (below_drew (Below.refl _ _))
theorem Duo.alloc {B : Nat} {G : List Nat} {w : World} {s m : Nat} {x y : ServM.St} (h : Duo B w s m G x y) (ob : Obj) : Duo B (w.alloc ob) s m G x y := h.later (below_alloc (Below.refl _ _) ob)
/-- A new block is none of theirs. -/
theorem Duo.more {B g : Nat} {G : List Nat} {w w' : World} {s m : Nat} {x y : ServM.St} (h : Duo B w s m G x y) (hb : Below w.heap.size w w') (hg : w.heap.size ≤ g) (hl : g < w'.heap.size) : Duo B w' s m (g :: G) x y := by
  obtain ⟨F, o, R, h1, h2, h3, h4⟩ := h
  refine ⟨F, o, R, h1.later hb, h2.later hb, h3, fun k hk => ?_⟩
  rcases List.mem_cons.1 hk with e | e
  · rw [e]
    exact ⟨hl, h1.out hg, fun hm => by have := (h2.all g hm).2; omega⟩
  · exact ⟨Nat.lt_of_lt_of_le (h4 k e).1 hb.size, (h4 k e).2⟩
theorem Duo.less {B : Nat} {G G' : List Nat} {w : World} {s m : Nat} {x y : ServM.St} (h : Duo B w s m G x y) (hs : ∀ g, g ∈ G' → g ∈ G) : Duo B w s m G' x y := by
  obtain ⟨F, o, R, h1, h2, h3, h4⟩ := h
  exact ⟨F, o, R, h1, h2, h3, fun g hg => h4 g (hs g hg)⟩
theorem Duo.lt {B : Nat} {G : List Nat} {w : World} {s m : Nat} {x y : ServM.St} (h : Duo B w s m G x y) : s < w.heap.size ∧ m < w.heap.size := by
  obtain ⟨F, o, R, h1, h2, h3, h4⟩ := h
  exact ⟨h1.lt, h2.lt⟩
/-- A call on the program's server. -/
theorem Duo.s {B : Nat} {G : List Nat} {w : World} {s m : Nat} {x y x' : ServM.St} {P : Program} {f : Nat} {args : Array Value} {A : Ending → Prop} (h : Duo B w s m G x y)
    (hc : ∀ F, SOwn B w s F x → Calls P f args w fun e w' => A e ∧ SStep B w w' s F x') : Calls P f args w fun e w' => A e ∧ DStep B w w' s m G x' y := by
  obtain ⟨F, o, R, h1, h2, h3, h4⟩ := h
  refine (hc F h1).mono ?_
  rintro e w' ⟨ha, F', own, lk⟩
  refine ⟨ha, ⟨F', o, R, own, h2.keptF lk.2 (fun k hk hf => h3 k hf hk), h3.step lk.1 (fun k hk => (h2.all k hk).2), fun g hg => ⟨Nat.lt_of_lt_of_le (h4 g hg).1 lk.2.size, lk.off (h4 g hg).2.1 (h4 g hg).1, (h4 g hg).2.2⟩⟩, F, lk.2, fun k hk _ => ⟨(h1.all k hk).1, fun hg => (h4 k hg).2.1 hk⟩⟩
/-- A call on the document's. -/
theorem Duo.m {B : Nat} {G : List Nat} {w : World} {s m : Nat} {x y y' : ServM.St} {P : Program} {f : Nat} {args : Array Value} {A : Ending → Prop} (h : Duo B w s m G x y)
    (hc : ∀ o R, MAt B w m o R y → Calls P f args w fun e w' => A e ∧ MStep B w w' m o R y') : Calls P f args w fun e w' => A e ∧ DStep B w w' s m G x y' := by
  obtain ⟨F, o, R, h1, h2, h3, h4⟩ := h
  refine (hc o R h2).mono ?_
  rintro e w' ⟨ha, o', R', mat, ho, hr, hk⟩
  have hin : ∀ k, k ∈ m :: o.toList → k ∈ mfoot m o R := fun k q => by
    rcases List.mem_cons.1 q with e | e
    · exact mfoot_iff.2 (.inl e)
    · exact mfoot_iff.2 (.inr (.inl (by simpa using e)))
  have hst : ∀ k, k ∈ mfoot m o' R' → k ∈ mfoot m o R ∨ w.heap.size ≤ k := fun k hk' => by
    rcases mfoot_iff.1 hk' with e | e | e
    · exact .inl (mfoot_iff.2 (.inl e))
    · exact (ho k e).imp_left (fun q => mfoot_iff.2 (.inr (.inl q)))
    · exact (hr k e).imp_left (fun q => mfoot_iff.2 (.inr (.inr q)))
  refine ⟨ha, ⟨F, o', R', h1.kept hk (fun k hf hm => h3 k hf (hin k hm)), mat, (h3.symm.step hst (fun k hf => (h1.all k hf).2)).symm, fun g hg => ⟨Nat.lt_of_lt_of_le (h4 g hg).1 hk.size, (h4 g hg).2.1, fun hm => ?_⟩⟩, m :: o.toList, hk, fun k hm _ => ⟨(h2.all k (hin k hm)).1, fun hg => (h4 k hg).2.2 (hin k hm)⟩⟩
  rcases hst g hm with q | q
  · exact (h4 g hg).2.2 q
  · have := (h4 g hg).1; omega
/-- Stores into the document's own block: its ring is another one. -/
theorem Duo.ring {B : Nat} {G : List Nat} {w : World} {s m : Nat} {x y : ServM.St} {a b c : Int} (h : Duo B w s m G x y) :
    DStep B w (((w.setCell ⟨m, 0, none⟩ (.int .i64 a)).setCell ⟨m, 1, none⟩ (.int .i64 b)).setCell ⟨m, 2, none⟩ (.int .i64 c)) s m G x { y with ep := a, key := b, old := c } := by
  obtain ⟨F, o, R, h1, h2, h3, h4⟩ := h
  have hk : Kept [m] w (((w.setCell ⟨m, 0, none⟩ (.int .i64 a)).setCell ⟨m, 1, none⟩ (.int .i64 b)).setCell ⟨m, 2, none⟩ (.int .i64 c)) := (((Kept.refl [m] w).setCell (.inl (List.mem_singleton.2 rfl)) _).setCell (.inl (List.mem_singleton.2 rfl)) _).setCell (.inl (List.mem_singleton.2 rfl)) _
  have hm : m ∈ mfoot m o R := mfoot_iff.2 (.inl rfl)
  refine ⟨⟨F, o, R, h1.kept hk (fun k hf hm' => h3 k hf (by rw [List.mem_singleton.1 hm']; exact hm)), ?_, h3, fun g hg => ⟨Nat.lt_of_lt_of_le (h4 g hg).1 hk.size, (h4 g hg).2⟩⟩, [m], hk, fun k hk' _ => ?_⟩
  · exact ((h2.set (y := { y with ep := a }) (fun _ _ _ _ _ _ _ => rfl) rfl rfl rfl).set (y := { y with ep := a, key := b }) (fun _ _ _ _ _ _ _ => rfl) rfl rfl rfl).set (fun _ _ _ _ _ _ _ => rfl) rfl rfl rfl
  · rw [List.mem_singleton.1 hk']
    exact ⟨h2.1, fun hg => (h4 m hg).2.2 hm⟩
/-- The document's numbers, read. -/
theorem Duo.nums {B : Nat} {G : List Nat} {w : World} {s m : Nat} {x y : ServM.St} (h : Duo B w s m G x y) :
    (w.cell? ⟨m, 0, none⟩ = some (.int .i64 y.ep) ∧ w.cell? ⟨m, 1, none⟩ = some (.int .i64 y.key) ∧ w.cell? ⟨m, 2, none⟩ = some (.int .i64 y.old)) ∧ (∀ j, w.frozen? ⟨m, j, none⟩ = false) ∧ m < w.heap.size := by
  obtain ⟨F, o, R, h1, h2, h3, h4⟩ := h
  obtain ⟨q0, q1, q2, _, _, qf, ql⟩ := h2.nums
  exact ⟨⟨q0, q1, q2⟩, qf, ql⟩
theorem Duo.wait {B : Nat} {G : List Nat} {w : World} {s m : Nat} {x y : ServM.St} (h : Duo B w s m G x y) : ∃ a cap, w.cell? ⟨m, 4, none⟩ = some (.slice a y.L.length cap) ∧ PRow w a y.L.length cap y.L := by
  obtain ⟨F, o, R, h1, h2, h3, h4⟩ := h
  exact h2.wait
theorem Duo.waits {B : Nat} {G : List Nat} {w : World} {s m : Nat} {x y : ServM.St} (h : Duo B w s m G x y) (hl : x.L.length ≤ 8) :
    Calls Tryz.prog 41 #[.pointer (some ⟨s, 0, none⟩)] w fun e w' => e = .returned (.int .i64 x.L.length) ∧ Below w.heap.size w w' := by
  obtain ⟨F, o, R, h1, h2, h3, h4⟩ := h
  exact swait_any w h1 hl
/-- Both, newly made. -/
theorem Duo.new {B B1 s m : Nat} {F : List Nat} {w w' : World} {x : ServM.St} (h1 : SOwn B1 w s F x) (hb : Below w.heap.size w w') (h2 : MAt w.heap.size w' m none [] x) (hB : B ≤ B1) (hB2 : B ≤ w.heap.size) : Duo B w' s m [] x x :=
  ⟨F, none, [], (h1.later hb).down hB, h2.down hB2, fun k hf hm => by
    have := (h1.all k hf).2
    have := (h2.all k hm).1
    omega, by simp⟩
end Go.Proofs.YthaicpepgianpakGreatDoor
