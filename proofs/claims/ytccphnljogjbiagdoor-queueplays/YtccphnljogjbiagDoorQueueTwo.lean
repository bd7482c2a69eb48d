/-
  The program's queue and the reference's, side by side: a call on one leaves the other, and what else is named.
-/
import Derived.Test.YtccphnljogjbiagDoorRefQueue
namespace Go.Proofs.YtccphnljogjbiagDoor
open Go.RowKit

/-- One lies at b, the other at c; the blocks of G are none of theirs. -/
def Two (B : Nat) (w : World) (b c : Nat) (L M : List (Int × Int)) (G : List Nat) : Prop :=
  ∃ o p, QAt 59 B w b o L ∧ QAt 47 B w c p M ∧ (∀ k, o = some k → p ≠ some k) ∧ ∀ r, r ∈ G → r < w.heap.size ∧ r ≠ b ∧ r ≠ c ∧ o ≠ some r ∧ p ≠ some r
theorem Two.later {B : Nat} {w w' : World} {b c : Nat} {L M : List (Int × Int)} {G : List Nat} (h : Two B w b c L M G) (hb : Below w.heap.size w w') : Two B w' b c L M G := by
  obtain ⟨o, p, h1, h2, h3, h4⟩ := h
  exact ⟨o, p, h1.later hb, h2.later hb, h3, fun r hr => ⟨Nat.lt_of_lt_of_le (h4 r hr).1 hb.size, (h4 r hr).2⟩⟩
theorem Two.bare {B : Nat} {w : World} {b c : Nat} {L M : List (Int × Int)} {G : List Nat} (h : Two B w b c L M G) : Two B w b c L M [] := by
  obtain ⟨o, p, h1, h2, h3, _⟩ := h
  exact ⟨o, p, h1, h2, h3, by simp⟩
theorem Two.fresh {B : Nat} {w : World} {b c : Nat} {L M : List (Int × Int)} (h : Two B w b c L M []) (ob : Obj) : Two B (w.alloc ob) b c L M [w.heap.size] := by
  obtain ⟨o, p, h1, h2, h3, _⟩ := h
  have hb : Below w.heap.size w (w.alloc ob) := Below.alloc (Below.refl _ _) (Nat.le_refl _) _
  have l1 := h1.lt
  have l2 := h2.lt
  refine ⟨o, p, h1.later hb, h2.later hb, h3, fun r hr => ?_⟩
  obtain rfl := List.mem_singleton.1 hr
  exact ⟨by simp, by omega, by omega, fun e => by have := (h1.row e).2; omega, fun e => by have := (h2.row e).2; omega⟩
theorem Two.put {B : Nat} {w : World} {b c r : Nat} {L M : List (Int × Int)} (h : Two B w b c L M [r]) (j : Nat) (u : Value) : Two B (w.setCell ⟨r, j, none⟩ u) b c L M [r] := by
  obtain ⟨o, p, h1, h2, h3, h4⟩ := h
  obtain ⟨q0, q1, q2, q3, q4⟩ := h4 r (List.mem_singleton.2 rfl)
  have hk : Kept [r] w (w.setCell ⟨r, j, none⟩ u) := (Kept.refl [r] w).setCell (.inl (List.mem_singleton.2 rfl)) _
  refine ⟨o, p, h1.kept hk (by simpa using Ne.symm q1) (fun k hk hm => q3 (by rw [hk, List.mem_singleton.1 hm])), h2.kept hk (by simpa using Ne.symm q2) (fun k hk hm => q4 (by rw [hk, List.mem_singleton.1 hm])), h3, fun r' hr => ?_⟩
  obtain rfl := List.mem_singleton.1 hr
  exact ⟨by simpa using q0, q1, q2, q3, q4⟩
theorem QAt.kind {T T' : TypeId} {B b c : Nat} {w : World} {o p : Option Nat} {L M : List (Int × Int)} (h1 : QAt T B w b o L) (h2 : QAt T' B w c p M) (hT : T ≠ T') : b ≠ c := by
  rintro rfl
  obtain ⟨_, _, _, q, _⟩ := h1
  obtain ⟨_, _, _, q', _⟩ := h2
  rw [q] at q'
  simp only [Option.some.injEq, Obj.cells.injEq] at q'
  exact hT q'.2.1
theorem QAt.notRow {T T' : TypeId} {B b c : Nat} {w : World} {o p : Option Nat} {L M : List (Int × Int)} (h1 : QAt T B w b o L) (h2 : QAt T' B w c p M) (hT : T' ≠ 39) : o ≠ some c := by
  obtain ⟨_, v, rfl, _, q⟩ := h1
  obtain ⟨_, _, _, q', _⟩ := h2
  exact row_not q q' hT
/-- A step of one thing keeps the other thing. -/
theorem QStep.other {T T' : TypeId} {B b c : Nat} {w w' : World} {o p : Option Nat} {L L' M : List (Int × Int)} (hs : QStep T B w w' b o L') (h1 : QAt T B w b o L) (h2 : QAt T' B w c p M) (hT : T ≠ T') (hC : T ≠ 39) (hC' : T' ≠ 39) (hap : ∀ k, o = some k → p ≠ some k) :
    QAt T' B w' c p M ∧ ∃ o', QAt T B w' b o' L' ∧ ∀ k, o' = some k → p ≠ some k := by
  obtain ⟨o', q1, q2, q3⟩ := hs
  refine ⟨h2.kept q3 ?_ (fun k hk hm => ?_), o', q1, fun k hk hp => ?_⟩
  · intro hm
    rcases List.mem_cons.1 hm with e | e
    · exact h1.kind h2 hT e.symm
    · exact h1.notRow h2 hC' (by simpa using e)
  · rcases List.mem_cons.1 hm with e | e
    · subst e
      exact h2.notRow h1 hC hk
    · exact hap k (by simpa using e) hk
  · rcases q2 k hk with e | e
    · exact hap k e hp
    · have := (h2.row hp).2
      omega
theorem QStep.away {T : TypeId} {B b r : Nat} {w w' : World} {o : Option Nat} {L' : List (Int × Int)} (hs : QStep T B w w' b o L') (hr : r < w.heap.size) (hb : r ≠ b) (ho : o ≠ some r) :
    w'.heap[r]? = w.heap[r]? ∧ r < w'.heap.size ∧ ∀ o', QAt T B w' b o' L' → (∀ k, o' = some k → o = some k ∨ w.heap.size ≤ k) → o' ≠ some r := by
  obtain ⟨_, _, _, q3⟩ := hs
  refine ⟨q3.block r hr (fun hm => ?_), Nat.lt_of_lt_of_le hr q3.size, fun o' _ hf he => ?_⟩
  · rcases List.mem_cons.1 hm with e | e
    · exact hb e
    · exact ho (by simpa using e)
  · rcases hf r he with e | e
    · exact ho e
    · omega
theorem Two.left {B : Nat} {w w' w0 : World} {b c : Nat} {L L' M : List (Int × Int)} {G : List Nat} {o p : Option Nat} (h1 : QAt 59 B w b o L) (h2 : QAt 47 B w c p M) (h3 : ∀ k, o = some k → p ≠ some k) (h4 : ∀ r, r ∈ G → r < w.heap.size ∧ r ≠ b ∧ r ≠ c ∧ o ≠ some r ∧ p ≠ some r)
    (hs : QStep 59 B w w' b o L') (hb : Below B w0 w) (hB : B ≤ w.heap.size) : Two B w' b c L' M G ∧ (∀ r, r ∈ G → w'.heap[r]? = w.heap[r]?) ∧ Below B w0 w' := by
  have hbb := hs.below h1 hb hB
  obtain ⟨k2, _⟩ := hs.other h1 h2 (by decide) (by decide) (by decide) h3
  have hs' := hs
  obtain ⟨o', q1, q2, q3⟩ := hs'
  refine ⟨⟨o', p, q1, k2, fun k hk hp => ?_, fun r hr => ?_⟩, fun r hr => (hs.away (h4 r hr).1 (h4 r hr).2.1 (h4 r hr).2.2.2.1).1, hbb⟩
  · rcases q2 k hk with e | e
    · exact h3 k e hp
    · have := (h2.row hp).2
      omega
  · obtain ⟨_, a2, a3⟩ := hs.away (h4 r hr).1 (h4 r hr).2.1 (h4 r hr).2.2.2.1
    exact ⟨a2, (h4 r hr).2.1, (h4 r hr).2.2.1, a3 o' q1 q2, (h4 r hr).2.2.2.2⟩
theorem Two.right {B : Nat} {w w' w0 : World} {b c : Nat} {L M M' : List (Int × Int)} {G : List Nat} {o p : Option Nat} (h1 : QAt 59 B w b o L) (h2 : QAt 47 B w c p M) (h3 : ∀ k, o = some k → p ≠ some k) (h4 : ∀ r, r ∈ G → r < w.heap.size ∧ r ≠ b ∧ r ≠ c ∧ o ≠ some r ∧ p ≠ some r)
    (hs : QStep 47 B w w' c p M') (hb : Below B w0 w) (hB : B ≤ w.heap.size) : Two B w' b c L M' G ∧ (∀ r, r ∈ G → w'.heap[r]? = w.heap[r]?) ∧ Below B w0 w' := by
  have hbb := hs.below h2 hb hB
  obtain ⟨k1, _⟩ := hs.other h2 h1 (by decide) (by decide) (by decide) (fun k hk ho => h3 k ho hk)
  have hs' := hs
  obtain ⟨p', q1, q2, q3⟩ := hs'
  refine ⟨⟨o, p', k1, q1, fun k hk hp => ?_, fun r hr => ?_⟩, fun r hr => (hs.away (h4 r hr).1 (h4 r hr).2.2.1 (h4 r hr).2.2.2.2).1, hbb⟩
  · rcases q2 k hp with e | e
    · exact h3 k hk e
    · have := (h1.row hk).2
      omega
  · obtain ⟨_, a2, a3⟩ := hs.away (h4 r hr).1 (h4 r hr).2.2.1 (h4 r hr).2.2.2.2
    exact ⟨a2, (h4 r hr).2.1, (h4 r hr).2.2.1, (h4 r hr).2.2.2.1, a3 p' q1 q2⟩
theorem Held.block {w w' : World} {r : Nat} {vs : List Value} (h : Held w r vs) (hb : w'.heap[r]? = w.heap[r]?) (hs : r < w'.heap.size) : Held w' r vs :=
  ⟨fun i v hv => ⟨(World.cell?_of_block (a := ⟨r, i, none⟩) hb).trans (h.1 i v hv).1, (World.frozen?_of_block (a := ⟨r, i, none⟩) hb).trans (h.1 i v hv).2⟩, hs⟩

theorem t_offer {B : Nat} {w w0 : World} {b c : Nat} {L M : List (Int × Int)} {G : List Nat} (s m : Int) (h : Two B w b c L M G) (hl : L.length ≤ 8) (hb : Below B w0 w) (hB : B ≤ w.heap.size) :
    Calls Tryd.prog 13 #[.pointer (some ⟨b, 0, none⟩), .agg #[.int .i64 s, .int .i64 m]] w fun e w' => e = .returned (errV (QueueM.offerErr L (s, m))) ∧ Two B w' b c (QueueM.offered L (s, m)) M G ∧ (∀ r, r ∈ G → w'.heap[r]? = w.heap[r]?) ∧ Below B w0 w' := by
  obtain ⟨o, p, h1, h2, h3, h4⟩ := h
  exact (qoffer_any s m w h1 hl hB).mono (fun e w' ⟨he, hs⟩ => ⟨he, Two.left h1 h2 h3 h4 hs hb hB⟩)
theorem t_drop {B : Nat} {w w0 : World} {b c : Nat} {L M : List (Int × Int)} {G : List Nat} (s m : Int) (h : Two B w b c L M G) (hl : L.length ≤ 8) (hb : Below B w0 w) (hB : B ≤ w.heap.size) :
    Calls Tryd.prog 16 #[.pointer (some ⟨b, 0, none⟩), .agg #[.int .i64 s, .int .i64 m]] w fun e w' => e = .returned (errV (QueueM.dropErr L (s, m))) ∧ Two B w' b c (QueueM.dropped L (s, m)) M G ∧ (∀ r, r ∈ G → w'.heap[r]? = w.heap[r]?) ∧ Below B w0 w' := by
  obtain ⟨o, p, h1, h2, h3, h4⟩ := h
  exact (qdrop_any s m w h1 hl).mono (fun e w' ⟨he, hs⟩ => ⟨he, Two.left h1 h2 h3 h4 hs hb hB⟩)
theorem t_none {B : Nat} {w w0 : World} {b c : Nat} {M : List (Int × Int)} {G : List Nat} (h : Two B w b c [] M G) (hb : Below B w0 w) (hB : B ≤ w.heap.size) :
    Calls Tryd.prog 14 #[.pointer (some ⟨b, 0, none⟩)] w fun e w' => e = .returned (.tuple #[.agg #[.int .i64 0, .int .i64 0], .iface 53 (.int .i64 5)]) ∧ Two B w' b c [] M G ∧ (∀ r, r ∈ G → w'.heap[r]? = w.heap[r]?) ∧ Below B w0 w' := by
  obtain ⟨o, p, h1, h2, h3, h4⟩ := h
  exact (qpull_none w h1).mono (fun e w' ⟨he, hs⟩ => ⟨he, Two.left h1 h2 h3 h4 (QStep.same h1 hs) hb hB⟩)
theorem t_pull {B : Nat} {w w0 : World} {b c : Nat} {M : List (Int × Int)} {G : List Nat} {s m : Int} {r : List (Int × Int)} (h : Two B w b c ((s, m) :: r) M G) (hl : r.length < 8) (hb : Below B w0 w) (hB : B ≤ w.heap.size) :
    Calls Tryd.prog 14 #[.pointer (some ⟨b, 0, none⟩)] w fun e w' => e = .returned (.tuple #[.agg #[.int .i64 s, .int .i64 m], .nilIface]) ∧ Two B w' b c r M G ∧ (∀ r, r ∈ G → w'.heap[r]? = w.heap[r]?) ∧ Below B w0 w' := by
  obtain ⟨o, p, h1, h2, h3, h4⟩ := h
  exact (qpull_yes w h1 hl).mono (fun e w' ⟨he, hs⟩ => ⟨he, Two.left h1 h2 h3 h4 hs hb hB⟩)
theorem t_all {B : Nat} {w : World} {b c : Nat} {L M : List (Int × Int)} {G : List Nat} (h : Two B w b c L M G) (hl : L.length ≤ 8) :
    Calls Tryd.prog 15 #[.pointer (some ⟨b, 0, none⟩)] w fun e w' => ∃ a cap, e = .returned (.slice a L.length cap) ∧ PRow w' a L.length cap L ∧ Below w.heap.size w w' := by
  obtain ⟨o, p, h1, _⟩ := h
  exact qall_any w h1 hl
theorem t_place {B : Nat} {w : World} {b c : Nat} {L M : List (Int × Int)} {G : List Nat} (s m : Int) (h : Two B w b c L M G) (hl : M.length ≤ 8) :
    Calls Tryd.prog 19 #[.pointer (some ⟨c, 0, none⟩), .agg #[.int .i64 s, .int .i64 m]] w fun e w' => e = .returned (.int .i64 (QueueM.place M (s, m))) ∧ Below w.heap.size w w' := by
  obtain ⟨o, p, _, h2, _⟩ := h
  exact rplace_any s m w h2 hl
theorem t_roffer {B : Nat} {w w0 : World} {b c : Nat} {L M : List (Int × Int)} {G : List Nat} (s m : Int) (h : Two B w b c L M G) (hl : M.length ≤ 8) (hb : Below B w0 w) (hB : B ≤ w.heap.size) :
    Calls Tryd.prog 20 #[.pointer (some ⟨c, 0, none⟩), .agg #[.int .i64 s, .int .i64 m]] w fun e w' => e = .returned (.int .i64 (QueueM.offerErr M (s, m))) ∧ Two B w' b c L (QueueM.offered M (s, m)) G ∧ (∀ r, r ∈ G → w'.heap[r]? = w.heap[r]?) ∧ Below B w0 w' := by
  obtain ⟨o, p, h1, h2, h3, h4⟩ := h
  exact (roffer_any s m w h2 hl hB).mono (fun e w' ⟨he, hs⟩ => ⟨he, Two.right h1 h2 h3 h4 hs hb hB⟩)
theorem t_out {B : Nat} {w w0 : World} {b c : Nat} {L M : List (Int × Int)} {G : List Nat} {i : Nat} (h : Two B w b c L M G) (hi : i < M.length) (hl : M.length ≤ 8) (hb : Below B w0 w) (hB : B ≤ w.heap.size) :
    Calls Tryd.prog 17 #[.pointer (some ⟨c, 0, none⟩), .int .i64 i] w fun e w' => e = .returned (.tuple #[]) ∧ Two B w' b c L (M.eraseIdx i) G ∧ (∀ r, r ∈ G → w'.heap[r]? = w.heap[r]?) ∧ Below B w0 w' := by
  obtain ⟨o, p, h1, h2, h3, h4⟩ := h
  exact (rout_any w h2 hi hl).mono (fun e w' ⟨he, hs⟩ => ⟨he, Two.right h1 h2 h3 h4 hs hb hB⟩)
/-- What the reference's field reads as. -/
theorem t_field {B : Nat} {w : World} {b c : Nat} {L M : List (Int × Int)} {G : List Nat} (h : Two B w b c L M G) : ∃ a cap, w.cell? ⟨c, 0, none⟩ = some (.slice a M.length cap) ∧ PRow w a M.length cap M ∧ c < w.heap.size := by
  obtain ⟨o, p, _, h2, _⟩ := h
  have hl := h2.lt
  obtain ⟨_, v, _, q, q3⟩ := h2
  obtain ⟨a, cap, rfl, hp⟩ := own_row q3
  exact ⟨a, cap, by rw [Go.Lib.cell_of_heap q]; rfl, hp, hl⟩
theorem same_self (n : Int) (w : World) (hg : ErrType w) : Calls Tryd.prog 8 #[errV n, .int .i64 n] w fun e w' => e = .returned (.bool true) ∧ Below w.heap.size w w' := by
  have h := same_any n n w hg
  rw [show (n == n) = true by simp] at h
  exact h
end Go.Proofs.YtccphnljogjbiagDoor
