/-
  What the reference's server comes to, said of the plain server: NewServer, its queue's Offer and Out, its blocks' Next, Hello, Ticket, Crash.
-/
import Derived.Test.YthaicpepgianpakGreatDoorServerMath
import Derived.Test.YthaicpepgianpakGreatDoorJoinedRefConn
import Derived.Test.YthaicpepgianpakGreatDoorJoinedRunAs
import Derived.Test.YthaicpepgianpakGreatDoorRefSpent
import Derived.Test.YthaicpepgianpakGreatDoorJudgeWalks
import Derived.Test.YthaicpepgianpakGreatDoorBlockWalks
import Derived.Deep.RegionHeld3
import Derived.Deep.DrawnRows
import Derived.Deep.Cut
namespace Go.Proofs.YthaicpepgianpakGreatDoor
open Go.RowKit
set_option linter.unusedVariables false

/-- Its cells. -/
def mcells (x : ServM.St) (v : Value) (a1 : Option Addr) (n1 c1 : Nat) (a2 : Option Addr) (n2 c2 : Nat) : Array Value :=
  #[.int .i64 x.ep, .int .i64 x.key, .int .i64 x.old, .int .i64 x.life, v, .int .i64 x.n, .int .i64 x.m, .slice a1 n1 c1, .slice a2 n2 c2, .int .i64 x.k]
/-- It lies at m; its conns' row is the block o, if it has one; what is spent lies in the blocks of R; nothing of it lies below B. -/
def MAt (B : Nat) (w : World) (m : Nat) (o : Option Nat) (R : List Nat) (x : ServM.St) : Prop :=
  B ≤ m ∧ ∃ v a1 n1 c1 a2 n2 c2, v.ownBlock = o ∧ w.heap[m]? = some (.cells (mcells x v a1 n1 c1 a2 n2 c2) 64 (0, 0)) ∧ w.ownsRow B 78 2 v x.L.length (flat x.L) ∧
    PRow w a1 n1 c1 x.N ∧ PRow w a2 n2 c2 x.K ∧ InR R a1 ∧ InR R a2 ∧ ∀ g, g ∈ R → B ≤ g ∧ g < w.heap.size ∧ g ≠ m ∧ o ≠ some g
/-- What a call on it leaves. -/
def MStep (B : Nat) (w w' : World) (m : Nat) (o : Option Nat) (R : List Nat) (x : ServM.St) : Prop :=
  ∃ o' R', MAt B w' m o' R' x ∧ (∀ k, o' = some k → o = some k ∨ w.heap.size ≤ k) ∧ (∀ g, g ∈ R' → g ∈ R ∨ w.heap.size ≤ g) ∧ Kept (m :: o.toList) w w'

theorem MAt.lt {B : Nat} {w : World} {m : Nat} {o : Option Nat} {R : List Nat} {x : ServM.St} (h : MAt B w m o R x) : m < w.heap.size := by
  obtain ⟨_, _, _, _, _, _, _, _, _, h2, _⟩ := h
  exact (Array.getElem?_eq_some_iff.1 h2).1
theorem MAt.row {B : Nat} {w : World} {m : Nat} {o : Option Nat} {R : List Nat} {x : ServM.St} (h : MAt B w m o R x) {k : Nat} (hk : o = some k) : B ≤ k ∧ k < w.heap.size := by
  obtain ⟨_, v, _, _, _, _, _, _, h1, _, h3, _⟩ := h
  exact h3.lt k (h1.trans hk)
theorem MAt.apart {B : Nat} {w : World} {m : Nat} {o : Option Nat} {R : List Nat} {x : ServM.St} (h : MAt B w m o R x) : o ≠ some m := by
  obtain ⟨_, v, _, _, _, _, _, _, h1, h2, h3, _⟩ := h
  rw [← h1]
  exact row_not h3 h2 (by decide)
theorem MAt.kept {B : Nat} {F : List Nat} {w w' : World} {m : Nat} {o : Option Nat} {R : List Nat} {x : ServM.St} (h : MAt B w m o R x) (hk : Kept F w w') (hm : m ∉ F) (ho : ∀ k, o = some k → k ∉ F) (hR : ∀ g, g ∈ R → g ∉ F) : MAt B w' m o R x := by
  have hl := h.lt
  obtain ⟨h0, v, a1, n1, c1, a2, n2, c2, h1, h2, h3, p1, p2, r1, r2, hr⟩ := h
  exact ⟨h0, v, a1, n1, c1, a2, n2, c2, h1, by rw [hk.block m hl hm]; exact h2, own_keptIn h3 hk (fun g hg => ho g (h1 ▸ hg)), p1.keptIn r1 hk hR, p2.keptIn r2 hk hR, r1, r2, fun g hg => ⟨(hr g hg).1, Nat.lt_of_lt_of_le (hr g hg).2.1 hk.size, (hr g hg).2.2⟩⟩
theorem MAt.later {B : Nat} {w w' : World} {m : Nat} {o : Option Nat} {R : List Nat} {x : ServM.St} (h : MAt B w m o R x) (hb : Below w.heap.size w w') : MAt B w' m o R x :=
  h.kept (F := []) (Kept.of hb) (by simp) (by simp) (by simp)
theorem MStep.same {B : Nat} {w w' : World} {m : Nat} {o : Option Nat} {R : List Nat} {x : ServM.St} (h : MAt B w m o R x) (hb : Below w.heap.size w w') : MStep B w w' m o R x :=
  ⟨o, R, h.later hb, fun _ hk => .inl hk, fun _ hg => .inl hg, Kept.of hb⟩
theorem MStep.behind {B : Nat} {w w1 w' : World} {m : Nat} {o : Option Nat} {R : List Nat} {x : ServM.St} (hb : Below w.heap.size w w1) (h : MStep B w1 w' m o R x) : MStep B w w' m o R x := by
  obtain ⟨o', R', h1, h2, h3, h4⟩ := h
  exact ⟨o', R', h1, fun k hk => (h2 k hk).imp_right (fun q => Nat.le_trans hb.size q), fun k hk => (h3 k hk).imp_right (fun q => Nat.le_trans hb.size q), (Kept.of hb).trans h4⟩
theorem MStep.ahead {B : Nat} {w w1 w' : World} {m : Nat} {o : Option Nat} {R : List Nat} {x : ServM.St} (h : MStep B w w1 m o R x) (hb : Below w1.heap.size w1 w') : MStep B w w' m o R x := by
  obtain ⟨o', R', h1, h2, h3, h4⟩ := h
  exact ⟨o', R', h1.later hb, h2, h3, h4.trans (Kept.of hb)⟩
/-- Two steps, one behind the other. -/
theorem MStep.trans {B : Nat} {w w1 w' : World} {m : Nat} {o : Option Nat} {R : List Nat} {x y : ServM.St} (h : MStep B w w1 m o R x) (h' : ∀ o' R', MAt B w1 m o' R' x → MStep B w1 w' m o' R' y) : MStep B w w' m o R y := by
  obtain ⟨o1, R1, a1, a2, a3, a4⟩ := h
  obtain ⟨o2, R2, b1, b2, b3, b4⟩ := h' o1 R1 a1
  have hs := a4.size
  refine ⟨o2, R2, b1, fun k hk => ?_, fun g hg => ?_, a4.step b4 (fun i hi => ?_)⟩
  · rcases b2 k hk with q | q
    · exact a2 k q
    · exact .inr (by omega)
  · rcases b3 g hg with q | q
    · exact a3 g q
    · exact .inr (by omega)
  · rcases List.mem_cons.1 hi with q | q
    · exact .inl (by rw [q]; exact List.mem_cons_self ..)
    · rcases a2 i (by simpa using q) with q | q
      · exact .inl (List.mem_cons_of_mem _ (by simp [q]))
      · exact .inr q
theorem MStep.below {B : Nat} {w0 w w' : World} {m : Nat} {o : Option Nat} {R : List Nat} {x y : ServM.St} (hs : MStep B w w' m o R y) (h : MAt B w m o R x) (hb : Below B w0 w) (hB : B ≤ w.heap.size) : Below B w0 w' := by
  obtain ⟨_, _, _, _, _, h4⟩ := hs
  refine h4.below hb hB (fun k hk => ?_)
  rcases List.mem_cons.1 hk with rfl | hk
  · exact h.1
  · exact (h.row (by simpa using hk)).1
/-- A number of it is stored anew: x is as it was before, y as it is behind. -/
theorem MAt.set {B : Nat} {w : World} {m i : Nat} {u : Value} {o : Option Nat} {R : List Nat} {x y : ServM.St} (h : MAt B w m o R x)
    (e : ∀ v a1 n1 c1 a2 n2 c2, (mcells x v a1 n1 c1 a2 n2 c2).setIfInBounds i u = mcells y v a1 n1 c1 a2 n2 c2) (eL : y.L = x.L) (eN : y.N = x.N) (eK : y.K = x.K) : MAt B (w.setCell ⟨m, i, none⟩ u) m o R y := by
  have hk : Kept [m] w (w.setCell ⟨m, i, none⟩ u) := (Kept.refl [m] w).setCell (.inl (List.mem_singleton.2 rfl)) _
  have hne := h.apart
  obtain ⟨h0, v, a1, n1, c1, a2, n2, c2, h1, h2, h3, p1, p2, r1, r2, hr⟩ := h
  refine ⟨h0, v, a1, n1, c1, a2, n2, c2, h1, ?_, ?_, ?_, ?_, r1, r2, fun g hg => ⟨(hr g hg).1, Nat.lt_of_lt_of_le (hr g hg).2.1 hk.size, (hr g hg).2.2⟩⟩
  · rw [heap_put h2 u, e]
  · rw [eL]; exact own_keptIn h3 hk (fun g hg hm => hne (by rw [← h1, hg, List.mem_singleton.1 hm]))
  · rw [eN]; exact p1.keptIn r1 hk (fun g hg hm => (hr g hg).2.2.1 (List.mem_singleton.1 hm))
  · rw [eK]; exact p2.keptIn r2 hk (fun g hg hm => (hr g hg).2.2.1 (List.mem_singleton.1 hm))
theorem MAt.put {B : Nat} {w : World} {m i : Nat} {u : Value} {o : Option Nat} {R : List Nat} {x y : ServM.St} (h : MAt B w m o R x)
    (e : ∀ v a1 n1 c1 a2 n2 c2, (mcells x v a1 n1 c1 a2 n2 c2).setIfInBounds i u = mcells y v a1 n1 c1 a2 n2 c2) (eL : y.L = x.L) (eN : y.N = x.N) (eK : y.K = x.K) : MStep B w (w.setCell ⟨m, i, none⟩ u) m o R y :=
  ⟨o, R, h.set e eL eN eK, fun _ hk => .inl hk, fun _ hg => .inl hg, (Kept.refl (m :: o.toList) w).setCell (.inl (List.mem_cons_self ..)) _⟩
/-- Both rows of what is spent are another one, in new memory. -/
theorem MAt.setRows {B : Nat} {w : World} {m n c : Nat} {a : Option Addr} {o : Option Nat} {R : List Nat} {x : ServM.St} {N : List (Int × Int)} (h : MAt B w m o R x) (hp : PRow w a n c N) (R' : List Nat) (hR : InR R' a) (hr : ∀ g, g ∈ R' → B ≤ g ∧ g < w.heap.size ∧ g ≠ m ∧ o ≠ some g) :
    MAt B ((w.setCell ⟨m, 7, none⟩ (.slice a n c)).setCell ⟨m, 8, none⟩ (.slice a n c)) m o R' { x with N := N, K := N } := by
  have hk : Kept [m] w ((w.setCell ⟨m, 7, none⟩ (.slice a n c)).setCell ⟨m, 8, none⟩ (.slice a n c)) := ((Kept.refl [m] w).setCell (.inl (List.mem_singleton.2 rfl)) _).setCell (.inl (List.mem_singleton.2 rfl)) _
  have hne := h.apart
  obtain ⟨h0, v, a1, n1, c1, a2, n2, c2, h1, h2, h3, p1, p2, r1, r2, _⟩ := h
  have hRm : ∀ g, g ∈ R' → g ∉ [m] := fun g hg hm => (hr g hg).2.2.1 (List.mem_singleton.1 hm)
  exact ⟨h0, v, a, n, c, a, n, c, h1, by rw [heap_put (heap_put h2 _) _]; rfl, own_keptIn h3 hk (fun g hg hm => hne (by rw [← h1, hg, List.mem_singleton.1 hm])), hp.keptIn hR hk hRm, hp.keptIn hR hk hRm, hR, hR, fun g hg => ⟨(hr g hg).1, Nat.lt_of_lt_of_le (hr g hg).2.1 hk.size, (hr g hg).2.2⟩⟩
/-- Its conns' row is another, stored into its cell. -/
theorem MAt.putRow {B : Nat} {w w1 : World} {m : Nat} {v v' : Value} {R : List Nat} {x : ServM.St} {L' : List (Int × Int)} {a1 a2 : Option Addr} {n1 c1 n2 c2 : Nat} (h0 : B ≤ m) (h2 : w.heap[m]? = some (.cells (mcells x v a1 n1 c1 a2 n2 c2) 64 (0, 0)))
    (hne : v.ownBlock ≠ some m) (p1 : PRow w a1 n1 c1 x.N) (p2 : PRow w a2 n2 c2 x.K) (r1 : InR R a1) (r2 : InR R a2) (hr : ∀ g, g ∈ R → B ≤ g ∧ g < w.heap.size ∧ g ≠ m ∧ v.ownBlock ≠ some g)
    (hk : Kept v.ownBlock.toList w w1) (hown : w1.ownsRow B 78 2 v' L'.length (flat L')) (hf : ∀ k, v'.ownBlock = some k → v.ownBlock = some k ∨ w.heap.size ≤ k) :
    MStep B w (w1.setCell ⟨m, 4, none⟩ v') m v.ownBlock R { x with L := L' } := by
  have hl : m < w.heap.size := (Array.getElem?_eq_some_iff.1 h2).1
  have k2 : w1.heap[m]? = some (.cells (mcells x v a1 n1 c1 a2 n2 c2) 64 (0, 0)) := by rw [hk.block m hl (by simpa using hne)]; exact h2
  have hne' : v'.ownBlock ≠ some m := row_not hown k2 (by decide)
  have hk' : Kept [m] w1 (w1.setCell ⟨m, 4, none⟩ v') := (Kept.refl [m] w1).setCell (.inl (List.mem_singleton.2 rfl)) _
  have hb : Kept (m :: v.ownBlock.toList) w (w1.setCell ⟨m, 4, none⟩ v') := (hk.mono (fun k hk => .inl (List.mem_cons_of_mem _ hk))).step hk' (fun i hi => .inl (by rw [List.mem_singleton.1 hi]; exact List.mem_cons_self ..))
  have hRn : ∀ g, g ∈ R → g ∉ m :: v.ownBlock.toList := by
    intro g hg hm
    rcases List.mem_cons.1 hm with q | q
    · exact (hr g hg).2.2.1 q
    · exact (hr g hg).2.2.2 (by simpa using q)
  refine ⟨v'.ownBlock, R, ⟨h0, v', a1, n1, c1, a2, n2, c2, rfl, ?_, own_keptIn hown hk' (fun g hg hm => hne' (by rw [hg, List.mem_singleton.1 hm])), p1.keptIn r1 hb hRn, p2.keptIn r2 hb hRn, r1, r2, fun g hg => ⟨(hr g hg).1, Nat.lt_of_lt_of_le (hr g hg).2.1 hb.size, (hr g hg).2.2.1, fun q => ?_⟩⟩, hf, fun _ hg => .inl hg, hb⟩
  · rw [heap_put k2 v']; rfl
  · rcases hf g q with q | q
    · exact (hr g hg).2.2.2 q
    · have := (hr g hg).2.1; omega

theorem mgrew_heap {w w1 : World} {m : Nat} {cs : Array Value} {T : TypeId} {o : Option Nat} {ob : Obj} (h2 : w.heap[m]? = some (.cells cs T (0, 0))) (hne : o ≠ some m) (hg : (w.drew.alloc ob).grownBy w1 o) : w1.heap[m]? = some (.cells cs T (0, 0)) := by
  have hl : m < w.heap.size := (Array.getElem?_eq_some_iff.1 h2).1
  rw [hg.block m (by simp; omega) (Ne.symm hne), Below.heap_alloc _ _ _ (show m < w.drew.heap.size from hl)]
  exact h2
theorem mgrew_cell {w w1 : World} {m : Nat} {v : Value} {x : ServM.St} {a1 a2 : Option Addr} {n1 c1 n2 c2 : Nat} {o : Option Nat} {ob : Obj} (h2 : w.heap[m]? = some (.cells (mcells x v a1 n1 c1 a2 n2 c2) 64 (0, 0))) (hne : o ≠ some m) (hg : (w.drew.alloc ob).grownBy w1 o) : w1.cell? ⟨m, 4, none⟩ = some v ∧ w1.frozen? ⟨m, 4, none⟩ = false ∧ m < w1.heap.size := by
  have k2 := mgrew_heap h2 hne hg
  exact ⟨by rw [Go.Lib.cell_of_heap k2]; rfl, Go.Lib.frozen_of_heap k2 4, (Array.getElem?_eq_some_iff.1 k2).1⟩
/-- Behind an append of one to its row (the pair lay in a block of its own), stored into its cell. -/
theorem MAt.grew {B g n cap : Nat} {w w1 : World} {m : Nat} {v : Value} {R : List Nat} {x : ServM.St} {a1 a2 : Option Addr} {n1 c1 n2 c2 : Nat} {s t : Int} {ob : Obj} (hn : x.L.length = n) (h0 : B ≤ m) (h2 : w.heap[m]? = some (.cells (mcells x v a1 n1 c1 a2 n2 c2) 64 (0, 0)))
    (hne : v.ownBlock ≠ some m) (p1 : PRow w a1 n1 c1 x.N) (p2 : PRow w a2 n2 c2 x.K) (r1 : InR R a1) (r2 : InR R a2) (hr : ∀ g, g ∈ R → B ≤ g ∧ g < w.heap.size ∧ g ≠ m ∧ v.ownBlock ≠ some g)
    (hown : w1.ownsRow B 78 2 (.slice (some ⟨g, 0, none⟩) (n + 1) cap) (n + 1) (flat x.L ++ [.int .i64 s, .int .i64 t])) (hg : (w.drew.alloc ob).grownBy w1 v.ownBlock) (hat : v.ownBlock = some g ∨ g = w.heap.size + 1) :
    MStep B w (w1.setCell ⟨m, 4, none⟩ (.slice (some ⟨g, 0, none⟩) (n + 1) cap)) m v.ownBlock R { x with L := x.L ++ [(s, t)] } := by
  subst hn
  refine MAt.putRow h0 h2 hne p1 p2 r1 r2 hr (((Kept.refl _ w).drew.alloc ob).trans (grown_kept hg)) ?_ (fun k hk => ?_)
  · rw [flat_append, List.length_append]; exact hown
  · simp only [Value.ownBlock, Option.some.injEq] at hk
    subst hk
    rcases hat with q | q
    · exact .inl q
    · exact .inr (by omega)

set_option maxHeartbeats 3200000 in
set_option maxRecDepth 8000 in
theorem roffer_in {B m : Nat} {o : Option Nat} {R : List Nat} {x : ServM.St} (s t : Int) (w : World) (h : MAt B w m o R x) (hl : x.L.length ≤ 8) (hBw : B ≤ w.heap.size) (hz : QueueM.offerErr x.L (s, t) = 0) :
    Calls Tryz.prog 71 #[.pointer (some ⟨m, 4, none⟩), .agg #[.int .i64 s, .int .i64 t]] w fun e w' => e = .returned (.int .i64 0) ∧ MStep B w w' m o R { x with L := x.L ++ [(s, t)] } := by
  have hbw := h.lt
  obtain ⟨hbad, hm, hf⟩ := QueueM.offer_zero hz
  have C := hide (fun w => rconn_any s t w)
  rw [conn_ok, decide_eq_false hbad] at C
  obtain ⟨hB, v, a1, n1, c1, a2, n2, c2, rfl, h2, h3, p1, p2, r1, r2, hr⟩ := h
  have c0 : w.cell? ⟨m, 4, none⟩ = some v := by rw [Go.Lib.cell_of_heap h2]; rfl
  have hne : v.ownBlock ≠ some m := row_not h3 h2 (by decide)
  have H2 := hide h2
  have H3 := hide h3
  have HN := hide hne
  have HP1 := hide p1
  have HP2 := hide p2
  have HR1 := hide r1
  have HR2 := hide r2
  have HR := hide hr
  obtain ⟨a, cap, rfl, hp⟩ := own_row h3
  have HC0 := hide c0
  have Q := hide (fun W (hW : Below w.heap.size w W) => rplace_at s t W (cell_later hW c0) (hp.later hW) hl)
  rw [QueueM.place_no hm] at Q
  clear h2 h3 hp c0 hne p1 p2 r1 r2 hr hz hbad hm
  generalize hn : x.L.length = n at HC0 hl H2 H3 HN HR hf
  have HLN := hide hn
  clear hn
  have hn8 : (n : Int) < 8 := by omega
  obtain ⟨i0, hi0, hz0, hz1, hz2⟩ := info_parts infoConn
  go_enter Tryz.func71, Tryz.ntmps71
  go_wp2_with fail
  refine (unhide C _).mono ?_
  rintro e w1 ⟨rfl, hb1⟩
  have HB1 := hide (bel3 (Below.refl _ _) (show Below w.heap.size w (w.alloc _) from (by (repeat' (first | exact Below.refl _ _ | refine Below.alloc ?_ ?_ _ | refine Below.setCell ?_ ?_ _ | refine Below.drew ?_)); all_goals (first | exact Nat.le_refl _ | omega | (simp; done) | (simp; omega)))) hb1)
  have HQ1 := hide ((Held.fresh (w := w) [.int .i64 s, .int .i64 t] 78 rfl).later hb1)
  clear hb1
  obtain ⟨p0, p1⟩ := (unhide HQ1).c2.1
  have pl1 := (unhide HQ1).2
  go_wp2_with fail
  refine (unhide Q _ (unhide HB1)).mono ?_
  rintro e w2 ⟨rfl, hb2⟩
  have HB2 := hide (bel3 (unhide HB1) (Below.refl _ _) hb2)
  have HQ2 := hide ((unhide HQ1).later hb2)
  clear hb2 p0 p1 pl1
  have hb2 := (unhide HB2).size
  have HOx := hide (own_later (unhide H3) (unhide HB2))
  have H2x := hide (((unhide HB2).block m hbw).trans (unhide H2))
  have c0 := cell_later (unhide HB2) (unhide HC0)
  obtain ⟨p0, p1⟩ := (unhide HQ2).c2.1
  have pl := (unhide HQ2).2
  have hbl : m < w2.heap.size := by omega
  go_wp2_with fail
  go_region_law ((refine step_append_lies _ (by rfl) _ _ _ (by rfl) B 78 i0 _ 2 16 Tryz.underlying57 hi0 hz0 hz1 hz2 rfl (by omega) (.slice a n cap) n (flat x.L) (by rfl) (((unhide HOx).alloc _).drew) ⟨w2.heap.size, 0, none⟩ 1 1 [.int .i64 s, .int .i64 t] (by rfl) (by rfl) (World.news_of_block (cs := #[.int .i64 s, .int .i64 t]) (t := 78) (fr := (0, 0)) (heap_alloc_new w2 _)) (by simp [Value.oneCell']) (by omega) (by unfold maxLen; omega) (by omega) (by simp; omega) (w2.heap.size + 1) (by simp) ?_; intro gg cp w3 hown1 hgrow hat hlt; obtain ⟨d0, f0, bl3⟩ := mgrew_cell (unhide H2x) (unhide HN) hgrow))
  all_goals
    have HS := hide (MStep.behind (unhide HB2) (MAt.grew (unhide HLN) hB (unhide H2x) (unhide HN) ((unhide HP1).later (unhide HB2)) ((unhide HP2).later (unhide HB2)) (unhide HR1) (unhide HR2) (fun g hg => ⟨(unhide HR g hg).1, Nat.lt_of_lt_of_le (unhide HR g hg).2.1 hb2, (unhide HR g hg).2.2⟩) hown1 hgrow hat))
    clear hown1 hgrow hat hlt
    go_wp2
    go_ret
    exact ⟨rfl, unhide HS⟩


set_option maxHeartbeats 3200000 in
set_option maxRecDepth 8000 in
theorem rout_in {B m i : Nat} {o : Option Nat} {R : List Nat} {x : ServM.St} (w : World) (h : MAt B w m o R x) (hi : i < x.L.length) (hl : x.L.length ≤ 8) :
    Calls Tryz.prog 24 #[.pointer (some ⟨m, 4, none⟩), .int .i64 i] w fun e w' => e = .returned (.tuple #[]) ∧ MStep B w w' m o R { x with L := x.L.eraseIdx i } := by
  have hb := h.lt
  obtain ⟨i0, hi0, hz0, hz1, hz2⟩ := info_parts infoConn
  obtain ⟨hB, v, q1, k1, d1, q2, k2, d2, rfl, h2, h3, p1, p2, r1, r2, hr⟩ := h
  have HP1 := hide p1
  have HP2 := hide p2
  have HR1 := hide r1
  have HR2 := hide r2
  have HR := hide hr
  clear p1 p2 r1 r2 hr
  generalize hxL : x.L = L at h3 hi hl ⊢
  have HX := hide hxL
  clear hxL
  have c0 : w.cell? ⟨m, 4, none⟩ = some v := by rw [Go.Lib.cell_of_heap h2]; rfl
  have hne : v.ownBlock ≠ some m := row_not h3 h2 (by decide)
  have hcap : ∀ a n c, v = .slice a n c → n ≤ c ∧ c ≤ 9223372036854775807 := by
    intro a n c hv
    rcases h3.2 with ⟨e, h0⟩ | ⟨g, cap, cur, e, _, _, q1, q2, _⟩
    · omega
    · rw [hv] at e
      simp only [Value.slice.injEq] at e
      obtain ⟨_, rfl, rfl⟩ := e
      unfold maxLen at q2
      omega
  obtain ⟨g, cap, rfl, _, _⟩ := own_shape h3 (by omega)
  obtain ⟨hnc, hcm⟩ := hcap _ _ _ rfl
  have hgl := (h3.lt g rfl).2
  have hcells := h3.cells (g := g) rfl
  have n1 : ∀ j u, (flat (L.take i))[j]? = some u → w.cell? ((⟨g, 0, none⟩ : Addr).add j) = some u := fun j u hu => by
    rw [flat_take, List.getElem?_take] at hu
    split at hu
    · exact hcells j u hu
    · cases hu
  have n2 : ∀ j u, (flat (L.drop (i + 1)))[j]? = some u → w.cell? ⟨g, (i + 1) * 2 + j, none⟩ = some u := fun j u hu => by
    rw [flat_drop, List.getElem?_drop] at hu
    have q := hcells _ u hu
    rw [Go.WideShapes.add_plain, Nat.zero_add] at q
    exact q
  have l1 : (flat (L.take i)).length = i * 2 := by rw [flat_length, List.length_take, Nat.min_eq_left (by omega)]
  have l2 : (flat (L.drop (i + 1))).length = (L.length - (i + 1)) * 2 := by rw [flat_length, List.length_drop]
  obtain ⟨A, hA, hsrc⟩ : ∃ A : Addr, (if cap = i + 1 then some (⟨g, 0, none⟩ : Addr) else some ⟨g, (i + 1) * 2, none⟩) = some A ∧ Hid (∀ W, Below w.heap.size w W → ∀ t u, (flat (L.drop (i + 1)))[t]? = some u → W.cell? (A.add t) = some u) := by
    by_cases h : cap = i + 1
    · refine ⟨⟨g, 0, none⟩, by simp [h], fun W _ t u hu => ?_⟩
      have := (List.getElem?_eq_some_iff.1 hu).1
      omega
    · refine ⟨⟨g, (i + 1) * 2, none⟩, by simp [h], fun W hW t u hu => ?_⟩
      rw [Addr.add_lit]
      exact cell_later hW (n2 t u hu)
  have HL := hide (show (L.eraseIdx i).length = i + (L.length - (i + 1)) by rw [List.length_eraseIdx, if_pos hi]; omega)
  have HE := hide (show flat (L.eraseIdx i) = flat (L.take i) ++ flat (L.drop (i + 1)) by rw [QueueM.erase_eq, flat_append])
  have H2 := hide h2
  have HN := hide hne
  have N1 := hide n1
  have L1 := hide l1
  have L2 := hide l2
  have O1 := hide (flat_one (L.take i))
  have O2 := hide (flat_one (L.drop (i + 1)))
  clear h2 h3 hne n1 n2 l1 l2 hcells hcap
  generalize L.length = n at c0 hl hi H2 HN HR L2 HL hnc ⊢
  generalize flat (L.take i) = xs at HE N1 L1 O1
  generalize flat (L.drop (i + 1)) = ys at HE L2 O2 hsrc
  have hic : (i : Int) ≤ (cap : Int) := by omega
  have hin : (i : Int) < (n : Int) := by omega
  have hi1 : (i : Int) + 1 ≤ (n : Int) := by omega
  have hw1 : ((i : Int) + 1).toNat = i + 1 := by omega
  go_enter Tryz.func24, Tryz.ntmps24
  go_wp2_with (at_builtin; refine wpList_append_own _ rfl _ _ 57 rfl w.heap.size 78 i0 (.agg #[.int .i64 0, .int .i64 0]) 2 16 Tryz.underlying57 hi0 hz0 hz1 hz2 rfl (by decide) (.slice none 0 0) 0 [] rfl (World.ownsRow_nil _ _ _ _) ⟨g, 0, none⟩ i cap xs rfl (unhide L1) (unhide N1) (unhide O1) ?c3 ?c4 ?c5 ?_)
  case c3 => unfold maxLen; omega
  case c4 => omega
  case c5 => exact Nat.le_refl _
  intro v1 w1 hown1 hgrow1 _
  have hown1 : w1.ownsRow w.heap.size 78 2 v1 i xs := by simpa using hown1
  have HB1 := hide ((Below.refl w.heap.size w).grown hgrow1 (Nat.le_refl _) (fun k hk => by simp [Value.ownBlock] at hk))
  have HO1 := hide hown1
  obtain ⟨a1, cap1, rfl⟩ := own_slice hown1
  have c1 := cell_later (unhide HB1) c0
  have hb1 : m < w1.heap.size := World.block_lt_of_cell? _ _ c1
  have hz1' := (unhide HB1).size
  have HS1 := hide (unhide hsrc w1 (unhide HB1))
  clear hown1 hgrow1 c0 hsrc N1
  go_wp2_with (at_builtin; refine wpList_append_own _ rfl _ _ 57 rfl w.heap.size 78 i0 (.agg #[.int .i64 0, .int .i64 0]) 2 16 Tryz.underlying57 hi0 hz0 hz1 hz2 rfl (by decide) _ i xs rfl (unhide HO1) A (n - (i + 1)) (cap - (i + 1)) ys rfl (unhide L2) (unhide HS1) (unhide O2) ?c3 ?c4 ?c5 ?_)
  case c3 => unfold maxLen; omega
  case c4 => omega
  case c5 => omega
  intro v2 w2 hown2 hgrow2 _
  have HB2 := hide ((unhide HB1).grown hgrow2 hz1' (fun k hk => ((unhide HO1).lt k hk).1))
  have hlt2 := hown2.lt
  have hown3 : w2.ownsRow B 78 2 v2 (L.eraseIdx i).length (flat (L.eraseIdx i)) := by rw [unhide HL, unhide HE]; exact own_base hown2 (by omega)
  have RR := hide (MAt.putRow (L' := L.eraseIdx i) hB (unhide H2) (unhide HN) (unhide HP1) (unhide HP2) (unhide HR1) (unhide HR2) (unhide HR) (Kept.of (unhide HB2)) hown3 (fun k hk => .inr (hlt2 k hk).1))
  obtain ⟨a2, cap2, rfl⟩ := own_slice hown2
  have kk2 : w2.heap[m]? = _ := ((unhide HB2).block m hb).trans (unhide H2)
  have d0 : w2.cell? ⟨m, 4, none⟩ = some (.slice (some ⟨g, 0, none⟩) n cap) := by rw [Go.Lib.cell_of_heap kk2]; rfl
  have f0 : w2.frozen? ⟨m, 4, none⟩ = false := Go.Lib.frozen_of_heap kk2 4
  have hb2 : m < w2.heap.size := World.block_lt_of_cell? _ _ d0
  clear hown2 hgrow2 hown3 hlt2 kk2
  go_wp2
  go_end0
  exact ⟨rfl, unhide RR⟩


set_option maxHeartbeats 1600000 in
/-- A number that is told. -/
theorem rbnext_in {m : Nat} {n mm : Int} (w : World) (c5 : w.cell? ⟨m, 5, none⟩ = some (.int .i64 n)) (c6 : w.cell? ⟨m, 6, none⟩ = some (.int .i64 mm)) (f5 : w.frozen? ⟨m, 5, none⟩ = false) (f6 : w.frozen? ⟨m, 6, none⟩ = false) (hl : m < w.heap.size) (h0 : 0 ≤ n) (h1 : n ≤ mm) (h2 : mm ≤ 1000) (h3 : mm % 8 = 0) (h4 : ¬ n = 1000) :
    Calls Tryz.prog 45 #[.pointer (some ⟨m, 5, none⟩)] w fun e w' => e = .returned (.tuple #[.int .i64 n, .int .i64 0]) ∧ ∃ q, (¬ n = mm ∧ w' = (w.drewN q).setCell ⟨m, 5, none⟩ (.int .i64 (n + 1))) ∨ (n = mm ∧ w' = ((w.drewN q).setCell ⟨m, 6, none⟩ (.int .i64 (mm + 8))).setCell ⟨m, 5, none⟩ (.int .i64 (n + 1))) := by
  have e2 : n + 1 - 1 = n := by omega
  by_cases e : n = mm
  · subst e
    have e1 : n ≤ n := by omega
    have e3 : ¬ 1000 < n + 8 := by omega
    go_enter Tryz.func45, Tryz.ntmps45
    go_wp2
    go_quiet (fail)
    go_wp2
    go_ret2
    exact ⟨by first | rfl | exact ret_pair (by omega), _, .inr ⟨by simp, rfl⟩⟩
  · have e1 : ¬ mm ≤ n := by omega
    go_enter Tryz.func45, Tryz.ntmps45
    go_wp2
    go_quiet (fail)
    go_wp2
    go_ret2
    exact ⟨by first | rfl | exact ret_pair (by omega), _, .inl ⟨e, rfl⟩⟩
theorem rbnext_end {m : Nat} (w : World) (c5 : w.cell? ⟨m, 5, none⟩ = some (.int .i64 1000)) (c6 : w.cell? ⟨m, 6, none⟩ = some (.int .i64 1000)) (_hl : m < w.heap.size) :
    Calls Tryz.prog 45 #[.pointer (some ⟨m, 5, none⟩)] w fun e w' => e = .returned (.tuple #[.int .i64 0, .int .i64 4]) ∧ Below w.heap.size w w' := by
  go_enter Tryz.func45, Tryz.ntmps45
  go_wp2
  go_quiet (fail)
  go_wp2
  go_ret2
  exact ⟨rfl, below_drewN (Below.refl _ _) _⟩
/-- The same, said of the server. -/
theorem rnext_in {B m : Nat} {o : Option Nat} {R : List Nat} {x : ServM.St} (w : World) (h : MAt B w m o R x) (g : ServM.Good x) (hn : ¬ x.n = 1000) :
    Calls Tryz.prog 45 #[.pointer (some ⟨m, 5, none⟩)] w fun e w' => e = .returned (.tuple #[.int .i64 x.n, .int .i64 0]) ∧ MStep B w w' m o R { x with n := x.n + 1, m := IssueM.up x.n x.m } := by
  have hl := h.lt
  have h' := h
  obtain ⟨_, v, a1, n1, c1, a2, n2, c2, _, h2, _⟩ := h'
  refine (rbnext_in w (n := x.n) (mm := x.m) (by rw [Go.Lib.cell_of_heap h2]; rfl) (by rw [Go.Lib.cell_of_heap h2]; rfl) (Go.Lib.frozen_of_heap h2 5) (Go.Lib.frozen_of_heap h2 6) hl g.n0 g.nm g.m1 g.m8 hn).mono ?_
  rintro e w' ⟨rfl, q, hw⟩
  refine ⟨rfl, ?_⟩
  have hd : Below w.heap.size w (w.drewN q) := below_drewN (Below.refl _ _) q
  rcases hw with ⟨e, rfl⟩ | ⟨e, rfl⟩
  · rw [IssueM.up_less e]
    exact MStep.behind hd ((h.later hd).put (fun _ _ _ _ _ _ _ => rfl) rfl rfl rfl)
  · rw [show IssueM.up x.n x.m = x.m + 8 by rw [e]; exact IssueM.up_same _]
    refine MStep.behind hd ?_
    exact MStep.trans ((h.later hd).put (y := { x with m := x.m + 8 }) (fun _ _ _ _ _ _ _ => rfl) rfl rfl rfl) (fun o' R' h1 => h1.put (fun _ _ _ _ _ _ _ => rfl) rfl rfl rfl)

/-- Its numbers, read. -/
theorem MAt.nums {B : Nat} {w : World} {m : Nat} {o : Option Nat} {R : List Nat} {x : ServM.St} (h : MAt B w m o R x) :
    w.cell? ⟨m, 0, none⟩ = some (.int .i64 x.ep) ∧ w.cell? ⟨m, 1, none⟩ = some (.int .i64 x.key) ∧ w.cell? ⟨m, 2, none⟩ = some (.int .i64 x.old) ∧ w.cell? ⟨m, 3, none⟩ = some (.int .i64 x.life) ∧ w.cell? ⟨m, 9, none⟩ = some (.int .i64 x.k) ∧ (∀ j, w.frozen? ⟨m, j, none⟩ = false) ∧ m < w.heap.size := by
  have hl := h.lt
  obtain ⟨_, v, a1, n1, c1, a2, n2, c2, _, h2, _⟩ := h
  exact ⟨by rw [Go.Lib.cell_of_heap h2]; rfl, by rw [Go.Lib.cell_of_heap h2]; rfl, by rw [Go.Lib.cell_of_heap h2]; rfl, by rw [Go.Lib.cell_of_heap h2]; rfl, by rw [Go.Lib.cell_of_heap h2]; rfl, fun j => Go.Lib.frozen_of_heap h2 j, hl⟩
theorem MAt.wait {B : Nat} {w : World} {m : Nat} {o : Option Nat} {R : List Nat} {x : ServM.St} (h : MAt B w m o R x) : ∃ a cap, w.cell? ⟨m, 4, none⟩ = some (.slice a x.L.length cap) ∧ PRow w a x.L.length cap x.L := by
  obtain ⟨_, v, a1, n1, c1, a2, n2, c2, _, h2, h3, _⟩ := h
  obtain ⟨a, cap, rfl, hp⟩ := own_row h3
  exact ⟨a, cap, by rw [Go.Lib.cell_of_heap h2]; rfl, hp⟩

/-- A block that is newer than the world w, and elder than w0, is none of its. -/
theorem MAt.away {B : Nat} {w : World} {m b z : Nat} {o o' : Option Nat} {R R' : List Nat} {x : ServM.St} (h : MAt B w m o R x) (Ho : ∀ k, o' = some k → o = some k ∨ z ≤ k) (HR : ∀ g, g ∈ R' → g ∈ R ∨ z ≤ g) (h1 : w.heap.size ≤ b) (h2 : b < z) : b ≠ m ∧ o' ≠ some b ∧ b ∉ R' := by
  have hl := h.lt
  refine ⟨by omega, fun e => ?_, fun e => ?_⟩
  · rcases Ho b e with q | q
    · have := (h.row q).2; omega
    · omega
  · obtain ⟨_, _, _, _, _, _, _, _, _, _, _, _, _, _, _, hr⟩ := h
    rcases HR b e with q | q
    · have := (hr b q).2.1; omega
    · omega
theorem MAt.out {B : Nat} {w : World} {m : Nat} {o : Option Nat} {R : List Nat} {x : ServM.St} (h : MAt B w m o R x) : ∀ b, w.heap.size ≤ b → b ∉ m :: o.toList := by
  intro b hb hm
  have hl := h.lt
  rcases List.mem_cons.1 hm with q | q
  · omega
  · have := (h.row (k := b) (by simpa using q)).2; omega

/-- What a call leaves, said of its last world: its own newer block b was written last. -/
theorem MStep.fin {B : Nat} {w w3 W : World} {m b z : Nat} {o o3 : Option Nat} {R R3 : List Nat} {x y : ServM.St} (h : MAt B w m o R x) (HO : ∀ k, o3 = some k → o = some k ∨ z ≤ k) (HR : ∀ g, g ∈ R3 → g ∈ R ∨ z ≤ g) (hm : MAt B w3 m o3 R3 y) (hk : Kept (m :: o.toList) w w3)
    (hb : w.heap.size ≤ b) (hz : b < z) (hW : Kept [b] w3 W) : MStep B w W m o R y := by
  obtain ⟨e1, e2, e3⟩ := h.away HO HR hb hz
  exact ⟨o3, R3, hm.kept hW (by simpa using Ne.symm e1) (fun k hk hm => e2 (by rw [hk, List.mem_singleton.1 hm])) (fun g hg hm => e3 (by rw [← List.mem_singleton.1 hm]; exact hg)),
    fun k hk => (HO k hk).imp_right (fun q => by omega), fun g hg => (HR g hg).imp_right (fun q => by omega), hk.step hW (fun i hi => .inr (by rw [List.mem_singleton.1 hi]; exact hb))⟩

theorem mnew_any {seed : Int} (life : Int) (w : World) (h0 : 0 ≤ seed) (h1 : seed < 999983) :
    Calls Tryz.prog 8 #[.int .i64 seed, .int .i64 life] w fun e w' => ∃ m, e = .returned (.pointer (some ⟨m, 0, none⟩)) ∧ MAt w.heap.size w' m none [] (ServM.new seed life) ∧ Below w.heap.size w w' := by
  go_enter Tryz.func8, Tryz.ntmps8
  go_wp2_with fail
  refine (tag1 seed 0 _ _ (by simp) h0 h1 (by omega) (by omega)).mono ?_
  rintro e w' ⟨rfl, hw⟩
  obtain rfl := hw.symm
  clear hw
  go_wp2
  go_ret
  exact ⟨_, rfl, ⟨by simp, .slice none 0 0, none, 0, 0, none, 0, 0, rfl, (by
    have e := heap_alloc_new (w.alloc (.cells #[.int .i64 0] 3)) (.cells (mcells (ServM.new seed life) (.slice none 0 0) none 0 0 none 0 0) 64)
    rw [show (w.alloc (.cells #[.int .i64 0] 3)).heap.size = w.heap.size + 1 by simp] at e
    exact e), World.ownsRow_nil _ _ _ _, nil_row _, nil_row _, nil_in _, nil_in _, by simp⟩, (by (repeat' (first | exact Below.refl _ _ | refine Below.alloc ?_ ?_ _ | refine Below.setCell ?_ ?_ _ | refine Below.drew ?_)); all_goals (first | exact Nat.le_refl _ | omega | (simp; done) | (simp; omega)))⟩
theorem mcrash_any {B m : Nat} {o : Option Nat} {R : List Nat} {x : ServM.St} (w : World) (h : MAt B w m o R x) :
    Calls Tryz.prog 27 #[.pointer (some ⟨m, 0, none⟩)] w fun e w' => e = .returned (.tuple #[]) ∧ MStep B w w' m o R (ServM.crash x) := by
  have hl := h.lt
  have hap := h.apart
  obtain ⟨h0, v, a1, n1, c1, a2, n2, c2, e, h2, h3, p1, p2, r1, r2, hr⟩ := h
  have q4 : w.cell? ⟨m, 4, none⟩ = some v := by rw [Go.Lib.cell_of_heap h2]; rfl
  have q5 : w.cell? ⟨m, 5, none⟩ = some (.int .i64 x.n) := by rw [Go.Lib.cell_of_heap h2]; rfl
  have q6 : w.cell? ⟨m, 6, none⟩ = some (.int .i64 x.m) := by rw [Go.Lib.cell_of_heap h2]; rfl
  have q7 : w.cell? ⟨m, 7, none⟩ = some (.slice a1 n1 c1) := by rw [Go.Lib.cell_of_heap h2]; rfl
  have q8 : w.cell? ⟨m, 8, none⟩ = some (.slice a2 n2 c2) := by rw [Go.Lib.cell_of_heap h2]; rfl
  have f4 := Go.Lib.frozen_of_heap h2 4
  have f5 := Go.Lib.frozen_of_heap h2 5
  have f7 := Go.Lib.frozen_of_heap h2 7
  have R' : Hid (MStep B w (((w.setCell ⟨m, 4, none⟩ (.slice none 0 0)).setCell ⟨m, 5, none⟩ (.int .i64 x.m)).setCell ⟨m, 7, none⟩ (.slice a2 n2 c2)) m o R (ServM.crash x)) := by
    have hk : Kept [m] w (((w.setCell ⟨m, 4, none⟩ (.slice none 0 0)).setCell ⟨m, 5, none⟩ (.int .i64 x.m)).setCell ⟨m, 7, none⟩ (.slice a2 n2 c2)) :=
      (((Kept.refl [m] w).setCell (.inl (List.mem_singleton.2 rfl)) _).setCell (.inl (List.mem_singleton.2 rfl)) _).setCell (.inl (List.mem_singleton.2 rfl)) _
    have hRm : ∀ g, g ∈ R → g ∉ [m] := fun g hg hm => (hr g hg).2.2.1 (List.mem_singleton.1 hm)
    exact hide ⟨none, R, ⟨h0, .slice none 0 0, a2, n2, c2, a2, n2, c2, rfl, by rw [heap_put (heap_put (heap_put h2 _) _) _]; rfl, World.ownsRow_nil _ _ _ _, p2.keptIn r2 hk hRm, p2.keptIn r2 hk hRm, r2, r2, fun g hg => ⟨(hr g hg).1, Nat.lt_of_lt_of_le (hr g hg).2.1 hk.size, (hr g hg).2.2.1, by simp⟩⟩, by simp, fun _ hg => .inl hg, hk.mono (fun k hk => .inl (by rw [List.mem_singleton.1 hk]; exact List.mem_cons_self ..))⟩
  clear h2 h3 p1 p2 r1 r2 hr hap e
  go_enter Tryz.func27, Tryz.ntmps27
  go_wp2
  go_end0
  exact ⟨rfl, unhide R'⟩
end Go.Proofs.YthaicpepgianpakGreatDoor
