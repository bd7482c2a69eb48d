/-
  TopKnown holds for every seed, every secret, every list of addresses and every number of shards: of conns that a server told each has a number of its own, and a tag of its own, and goes one way. No condition.
-/
import Derived.Test.YtimilfnbbimipajServerLaw
import Derived.Test.YtimilfnbbimipajOneWalks
import Derived.Test.YtimilfnbbimipajResetWalks
import Derived.ProofKit
import Derived.Lib.SmallJoins
import Derived.Deep.AppendLies
namespace Go.Proofs.Ytimilfnbbimipaj.topKnown
open Go.ChangeShapes Go.WideShapes Go.ChangeAt Go.RowKit Go.Joins
set_option linter.unusedVariables false

theorem own : ownKnob Try.prog.godebug = none := by kernel_rfl
theorem laidOut : laidOutB Try.prog = true := by kernel_rfl
def IsRow (k : IntKind) (w : World) (a : Option Addr) (len cap : Nat) (zs : List Int) : Prop :=
  (a = none ∧ len = 0 ∧ cap = 0 ∧ zs = []) ∨
  ∃ x, a = some x ∧ len ≤ cap ∧ cap ≤ maxLen ∧ zs.length = cap ∧ (∀ i, i < zs.length → w.cell? (x.add i) = some (.int k (zs.getD i 0))) ∧ ∀ n ∈ zs, (Lit.int k n).wf = true
def IsStrs (w : World) (a : Option Addr) (len cap : Nat) (zs : List ByteArray) : Prop :=
  (a = none ∧ len = 0 ∧ cap = 0 ∧ zs = []) ∨
  ∃ x, a = some x ∧ len ≤ cap ∧ cap ≤ maxLen ∧ zs.length = cap ∧ (∀ i, i < zs.length → w.cell? (x.add i) = some (.string (zs.getD i ByteArray.empty))) ∧ ∀ s ∈ zs, s.size ≤ maxLen
def IsPairs (w : World) (a : Option Addr) (len cap : Nat) (zs : List (Int × Int)) : Prop :=
  (a = none ∧ len = 0 ∧ cap = 0 ∧ zs = []) ∨
  ∃ x, a = some x ∧ len ≤ cap ∧ cap ≤ maxLen ∧ zs.length = cap ∧ ∀ i, i < cap → w.cell? (x.add (i * 2)) = some (.int .i64 (zs.getD i (0, 0)).1) ∧ w.cell? (x.add (i * 2 + 1)) = some (.int .i64 (zs.getD i (0, 0)).2)
def IsRows (w : World) (a : Option Addr) (len cap : Nat) (A : Nat → Option Addr) (L C : Nat → Nat) (Z : Nat → List Int) : Prop :=
  (a = none ∧ len = 0 ∧ cap = 0) ∨
  ∃ x, a = some x ∧ len ≤ cap ∧ cap ≤ maxLen ∧ ∀ r, r < cap → w.cell? (x.add r) = some (.slice (A r) (L r) (C r)) ∧ L r ≤ C r ∧ C r ≤ maxLen ∧ (Z r).length = C r ∧ (∀ n ∈ Z r, (Lit.int .i64 n).wf = true) ∧ (A r = none → C r = 0) ∧
    ∀ a', A r = some a' → ∀ c, c < C r → w.cell? (a'.add c) = some (.int .i64 ((Z r).getD c 0))

set_option linter.unusedVariables false

theorem infoInt : (Try.prog.info? 3).map (fun i => (i.zero, i.size, i.bytes)) = some (some (.int .i64 0), 1, 8) := by kernel_rfl
/-- Two rows of ints of the law's own: none of the server's blocks, and unlike. -/
def Rows2 (B0 : Nat) (w : World) (v1 v2 : Value) (Ns Ts : List Int) (F : List Nat) : Prop :=
  w.ownsRow B0 3 1 v1 Ns.length (Ns.map (Value.int .i64)) ∧ w.ownsRow B0 3 1 v2 Ts.length (Ts.map (Value.int .i64)) ∧
    (∀ g, v1.ownBlock = some g → g ∉ F ∧ v2.ownBlock ≠ some g) ∧ ∀ g, v2.ownBlock = some g → g ∉ F
theorem Rows2.step {B0 : Nat} {w w' : World} {v1 v2 : Value} {Ns Ts : List Int} {F F' : List Nat} (h : Rows2 B0 w v1 v2 Ns Ts F) (hl : SLink w w' F F') : Rows2 B0 w' v1 v2 Ns Ts F' :=
  ⟨own_keptIn h.1 hl.2 (fun g e => (h.2.2.1 g e).1), own_keptIn h.2.1 hl.2 (fun g e => h.2.2.2 g e), fun g e => ⟨hl.off (h.2.2.1 g e).1 (h.1.lt g e).2, (h.2.2.1 g e).2⟩, fun g e => hl.off (h.2.2.2 g e) (h.2.1.lt g e).2⟩
theorem Rows2.later {B0 : Nat} {w w' : World} {v1 v2 : Value} {Ns Ts : List Int} {F : List Nat} (h : Rows2 B0 w v1 v2 Ns Ts F) (hb : Below w.heap.size w w') : Rows2 B0 w' v1 v2 Ns Ts F :=
  ⟨own_later h.1 hb, own_later h.2.1 hb, h.2.2⟩
theorem Rows2.snoc1 {B0 g cap : Nat} {w w1 : World} {v1 v2 : Value} {Ns Ts : List Int} {F : List Nat} {N : Int} {ob : Obj} (h : Rows2 B0 w v1 v2 Ns Ts F) (hF : ∀ k, k ∈ F → k < w.heap.size)
    (ho : w1.ownsRow B0 3 1 (.slice (some ⟨g, 0, none⟩) (Ns.length + 1) cap) (Ns.length + 1) (Ns.map (Value.int .i64) ++ [.int .i64 N])) (hg : (w.alloc ob).grownBy w1 v1.ownBlock) (hat : v1.ownBlock = some g ∨ g = w.heap.size + 1) :
    Rows2 B0 w1 (.slice (some ⟨g, 0, none⟩) (Ns.length + 1) cap) v2 (Ns ++ [N]) Ts F ∧ Kept v1.ownBlock.toList w w1 := by
  have hk : Kept v1.ownBlock.toList w w1 := ((Kept.refl _ w).alloc ob).trans (grown_kept hg)
  refine ⟨⟨by simpa using ho, own_keptIn h.2.1 hk (fun q e hm => (h.2.2.1 q (by simpa using hm)).2 e), fun q e => ?_, h.2.2.2⟩, hk⟩
  have e' : g = q := by simpa [Value.ownBlock] using e
  subst e'
  rcases hat with r | r
  · exact h.2.2.1 g r
  · exact ⟨fun hm => by have := hF g hm; omega, fun hm => by have := (h.2.1.lt g hm).2; omega⟩
theorem Rows2.snoc2 {B0 g cap : Nat} {w w1 : World} {v1 v2 : Value} {Ns Ts : List Int} {F : List Nat} {N : Int} {ob : Obj} (h : Rows2 B0 w v1 v2 Ns Ts F) (hF : ∀ k, k ∈ F → k < w.heap.size)
    (ho : w1.ownsRow B0 3 1 (.slice (some ⟨g, 0, none⟩) (Ts.length + 1) cap) (Ts.length + 1) (Ts.map (Value.int .i64) ++ [.int .i64 N])) (hg : (w.alloc ob).grownBy w1 v2.ownBlock) (hat : v2.ownBlock = some g ∨ g = w.heap.size + 1) :
    Rows2 B0 w1 v1 (.slice (some ⟨g, 0, none⟩) (Ts.length + 1) cap) Ns (Ts ++ [N]) F ∧ Kept v2.ownBlock.toList w w1 := by
  have hk : Kept v2.ownBlock.toList w w1 := ((Kept.refl _ w).alloc ob).trans (grown_kept hg)
  refine ⟨⟨own_keptIn h.1 hk (fun q e hm => (h.2.2.1 q e).2 (by simpa using hm)), by simpa using ho, fun q e => ⟨(h.2.2.1 q e).1, fun e2 => ?_⟩, fun q e => ?_⟩, hk⟩
  · have e' : g = q := by simpa [Value.ownBlock] using e2
    subst e'
    rcases hat with r | r
    · exact (h.2.2.1 g e).2 r
    · have := (h.1.lt g e).2; omega
  · have e' : g = q := by simpa [Value.ownBlock] using e
    subst e'
    rcases hat with r | r
    · exact h.2.2.2 g r
    · exact fun hm => by have := hF g hm; omega
/-- What is known of the numbers and tags so far. -/
def KInv (sec k : Int) (Ns Ts : List Int) : Prop :=
  Ts.length = Ns.length ∧ ∀ j, j < Ns.length → ∃ m, 0 ≤ m ∧ m < k ∧ Ns.getD j 0 = ConnM.turn (4096 * 0 + m) ∧ (TagM.inB sec = true → Ts.getD j 0 = ResetM.tag sec 0 m)
theorem KInv.more {sec k t : Int} {Ns Ts : List Int} (h : KInv sec k Ns Ts) (h0 : 0 ≤ k) (ht : TagM.inB sec = true → t = ResetM.tag sec 0 k) : KInv sec (k + 1) (Ns ++ [ConnM.turn (4096 * 0 + k)]) (Ts ++ [t]) := by
  refine ⟨by simp [h.1], fun j hj => ?_⟩
  by_cases e : j < Ns.length
  · obtain ⟨m, m0, m1, m2, m3⟩ := h.2 j e
    have e2 : j < Ts.length := by rw [h.1]; exact e
    refine ⟨m, m0, by omega, ?_, fun q => ?_⟩
    · rw [← m2]; simp [List.getD, List.getElem?_append_left e]
    · rw [← m3 q]; simp [List.getD, List.getElem?_append_left e2]
  · have e3 : j = Ns.length := by simp at hj; omega
    subst e3
    refine ⟨k, h0, by omega, ?_, fun q => ?_⟩
    · simp [List.getD]
    · rw [← ht q, ← h.1]; simp [List.getD]
theorem KInv.number {sec k : Int} {Ns Ts : List Int} (h : KInv sec k Ns Ts) (h0 : 0 ≤ k) {j : Nat} (hj : j < Ns.length) : ¬ Ns.getD j 0 = ConnM.turn (4096 * 0 + k) := by
  obtain ⟨m, m0, m1, m2, _⟩ := h.2 j hj
  rw [m2]
  intro e
  have := (ConnM.turn_inj (show (0 : Int) ≤ 4096 * 0 + m by omega) (show (0 : Int) ≤ 4096 * 0 + k by omega)).1 e
  omega
theorem KInv.tag {sec k : Int} {Ns Ts : List Int} (h : KInv sec k Ns Ts) (h0 : 0 ≤ k) (h1 : k < 4096) (hs : TagM.inB sec = true) {j : Nat} (hj : j < Ns.length) : ¬ Ts.getD j 0 = ResetM.tag sec 0 k := by
  obtain ⟨m, m0, m1, _, m3⟩ := h.2 j hj
  rw [m3 hs]
  intro e
  have := (ResetM.tag_own hs (ConnM.bad_zero.2 (by omega)) (ConnM.bad_zero.2 (by omega)) e).2
  omega
theorem plain_ways {x : ServM.St} {h : ServM.Hi} {now : Int} (hs : h.s = ⟨#[]⟩) :
    (¬ ServM.err x h now = 0 ∧ ServM.next x h now = x) ∨ (ServM.err x h now = 0 ∧ ¬ ServM.aKind x h now = 1 ∧ ServM.soon x h now = false ∧ ServM.next x h now = x) ∨
    (ServM.err x h now = 0 ∧ ServM.aKind x h now = 1 ∧ ServM.soon x h now = false ∧ ServM.aCo x h now = x.k ∧ x.k < 4096 ∧ ServM.next x h now = { x with L := x.L ++ [(0, x.k)], k := x.k + 1 }) := by
  by_cases q : ServM.ask x h now = 0
  · rcases ServM.kind_ways x h now with k | k | k
    · obtain ⟨e1, e2, e3, e4, e5, e6, e7, e8, e9⟩ := ServM.w_retry q k
      exact .inr (.inl ⟨e1, by omega, e8, e9⟩)
    · by_cases hf : x.k < 4096
      · have hm : ServM.may x h now = false := by
          unfold ServM.may JudgeM.may
          rw [hs, show JudgeM.mayB (⟨#[]⟩ : ByteArray).size = false from rfl]
          simp
        obtain ⟨e1, e2, e3, e4, e5, e6, e7, e8, e9⟩ := ServM.w_in0 q k hf hm
        exact .inr (.inr ⟨e1, e2, e8, e7, hf, e9⟩)
      · obtain ⟨e1, e2, e3, e4, e5, e6, e7, e8, e9⟩ := ServM.w_full q k (by omega)
        exact .inl ⟨by omega, e9⟩
    · obtain ⟨e1, e2, e3, e4, e5, e6, e7, e8, e9⟩ := ServM.w_busy q k
      exact .inr (.inl ⟨e1, by omega, e8, e9⟩)
  · obtain ⟨e1, e2, e3, e4, e5, e6, e7, e8, e9⟩ := ServM.w_err q
    exact .inl ⟨by omega, e9⟩

theorem own_ints1 {w : World} {base n cap : Nat} {e : TypeId} {a : Option Addr} {zs : List Int} (h : w.ownsRow base e 1 (.slice a n cap) zs.length (zs.map (Value.int .i64))) (hn : zs.length ≤ 60) : Ints w a zs := by
  obtain ⟨a', cap', e, _, hi⟩ := own_took h hn
  cases e
  exact hi
set_option maxHeartbeats 12800000 in
set_option maxRecDepth 8000 in
theorem walk_seed (seed sec : Int) (a : Option Addr) (len cap : Nat) (shards : Int) (w : World) (h : seed < 0 ∨ 999983 ≤ seed) :
    Calls Try.prog 5 #[.int .i64 seed, .int .i64 sec, .slice a len cap, .int .i64 shards] w fun e w' => e = .returned (.bool true) ∧ Below w.heap.size w w' := by
  go_enter Try.func5, Try.ntmps5
  go_wp2_with fail
  refine (one_true _).mono ?_
  rintro e w1 ⟨rfl, hb1⟩
  have HB1 := hide hb1
  clear hb1
  go_wp2_with fail
  refine (snew_seed 10 _ h).mono ?_
  rintro e w2 ⟨rfl, hb2⟩
  have HB2 := hide (bel3 (unhide HB1) (Below.refl _ _) hb2)
  clear hb2
  go_wp2
  go_ret
  exact ⟨rfl, unhide HB2⟩

set_option maxHeartbeats 12800000 in
set_option maxRecDepth 8000 in
theorem walk1 (seed sec : Int) (a : Option Addr) (len cap : Nat) (l : List Int) (shards : Int) (w : World) (hlen : l.length = len) (hI : Ints w a l) (h0 : 0 ≤ seed) (h1 : seed < 999983) :
    Calls Try.prog 5 #[.int .i64 seed, .int .i64 sec, .slice a len cap, .int .i64 shards] w fun e w' => e = .returned (.bool true) ∧ Below w.heap.size w w' := by
  have HLL := hide hlen
  have HLI := hide hI
  obtain ⟨i0, hi0, hz0, hz1, hz2⟩ := info_parts infoInt
  have CN := hide (fun w => snew_yes (life := 10) w h0 h1 rfl)
  have GX0 := hide (ServM.new_good (seed := seed) (life := 10) rfl)
  have hk0' : (ServM.new seed 10).k = 0 := rfl
  generalize ServM.new seed 10 = x0 at CN GX0 hk0'
  clear hlen hI h0 h1
  go_enter Try.func5, Try.ntmps5
  go_wp2_with fail
  refine (one_true _).mono ?_
  rintro e w1 ⟨rfl, hb1⟩
  have HB1 := hide hb1
  have zB : w.heap.size ≤ w1.heap.size := hb1.size
  clear hb1
  go_wp2_with fail
  refine (unhide CN _).mono ?_
  rintro e w2 ⟨s, F2, rfl, hs2, hb2⟩
  have HB2 := hide (bel3 (unhide HB1) (Below.refl _ _) hb2)
  have HS2 := hide hs2
  clear hb2 hs2 HB1 CN
  go_wp2
  go_loopw [12, 13, 14] (fun a0 b0 i0' wr => ∃ (k : Nat) (v1 v2 : Value) (Ns Ts : List Int) (F : List Nat) (x : ServM.St), k ≤ 30 ∧ a0 = v1 ∧ b0 = v2 ∧ i0' = .int .i64 k ∧ Ns.length ≤ k ∧ Hid (ServM.Good x) ∧ Hid (KInv sec x.k Ns Ts) ∧ Hid (SOwn w1.heap.size wr s F x) ∧ Hid (Rows2 w.heap.size wr v1 v2 Ns Ts F) ∧ Hid (Below w.heap.size w wr)) (fun _ _ i0' _ => 30 - (intOf i0').toNat)
  case atStart => exact ⟨0, _, _, [], [], F2, x0, by omega, rfl, rfl, rfl, by simp, GX0, hide ⟨rfl, fun j hj => by simp at hj⟩, HS2, hide ⟨World.ownsRow_nil _ _ _ _, World.ownsRow_nil _ _ _ _, fun g e => by simp [Value.ownBlock] at e, fun g e => by simp [Value.ownBlock] at e⟩, HB2⟩
  case round =>
    clear GX0 HS2 HB2
    obtain ⟨k, v1, v2, Ns, Ts, F, x, hk, rfl, rfl, rfl, hnk, GX, KI, HS, HR, HB⟩ := hrel
    have HTN := hide (unhide KI).1
    obtain ⟨a1, c1, rfl, -, -⟩ := own_took (unhide HR).1 (by omega)
    obtain ⟨a2, c2, rfl, -, -⟩ := own_took (unhide HR).2.1 (by have := unhide HTN; omega)
    by_cases hkl : (k : Int) < (len : Int)
    · by_cases hk1 : (k : Int) < 30
      · obtain ⟨pb, off, rfl, dx'⟩ := (unhide HLI).2 k (by rw [unhide HLL]; omega)
        have dx := cell_later (unhide HB) dx'
        have hk0 : (0 : Int) ≤ (k : Int) := by omega
        generalize l.getD k 0 = ad at dx
        clear dx'
        obtain ⟨hi, hie⟩ : ∃ hi : ServM.Hi, hi = ⟨ad, 0, 0, 0, 0, 0, 0, 0, 0, ⟨#[]⟩⟩ := ⟨_, rfl⟩
        rcases plain_ways (x := x) (h := hi) (now := 5) (by rw [hie]) with ⟨e1, e2⟩ | ⟨e1, e2, e3, e4⟩ | ⟨e1, e2, e3, e4, e5, e6⟩
        · have CH : Hid (∀ w : World, SOwn w1.heap.size w s F x → Calls Try.prog 8 #[.pointer (some ⟨s, 0, none⟩), .agg #[.int .i64 ad, .int .i64 0, .int .i64 0, .int .i64 0, .int .i64 0, .int .i64 0, .int .i64 0, .int .i64 0, .int .i64 0, .string ⟨#[]⟩], .int .i64 5] w fun e w' => e = .returned (.tuple #[.agg #[.int .i64 (ServM.aKind x hi 5), .int .i64 (ServM.aEp x hi 5), .int .i64 (ServM.aAd x hi 5), .int .i64 (ServM.aTi x hi 5), .int .i64 (ServM.aTg x hi 5), .int .i64 0, .int .i64 (ServM.aCo x hi 5), .bool (ServM.soon x hi 5)], .iface 59 (.int .i64 (ServM.err x hi 5))]) ∧ SStep w1.heap.size w w' s F (x)) := hide (fun w h0 => by
            have q := shello_any hi 5 w (unhide GX) h0
            rw [e2, errV_pos e1] at q
            subst hie
            exact q)
          generalize ServM.aKind x hi 5 = aK at CH
          generalize ServM.aEp x hi 5 = aE at CH
          generalize ServM.aAd x hi 5 = aA at CH
          generalize ServM.aTi x hi 5 = aT at CH
          generalize ServM.aTg x hi 5 = aG at CH
          generalize ServM.aCo x hi 5 = aC at CH
          generalize ServM.soon x hi 5 = aS at CH
          generalize ServM.err x hi 5 = aX at CH
          clear e1 e2 hie
          go_wp2_with fail
          refine (unhide CH _ (unhide HS)).mono ?_
          rintro e w6 ⟨rfl, hs6⟩
          have HB6 : Hid (Below w.heap.size w w6) := hide (hs6.below0 (unhide HS) (unhide HB) (unhide HB).size zB)
          obtain ⟨F6, own6, lk6⟩ := hs6
          have HS6 := hide own6
          have HR6 := hide ((unhide HR).step lk6)
          clear own6 lk6 dx
          go_wp2_with fail
          have HA7 : Hid (Held (w6.alloc (.cells #[.int .i64 aK, .int .i64 aE, .int .i64 aA, .int .i64 aT, .int .i64 aG, .int .i64 0, .int .i64 aC, .bool aS] 37)) w6.heap.size (na aK aE aA aT aG aC aS)) := hide (Held.fresh (w := w6) (na aK aE aA aT aG aC aS) 37 rfl)
          have HS7 := hide ((unhide HS6).alloc (.cells #[.int .i64 aK, .int .i64 aE, .int .i64 aA, .int .i64 aT, .int .i64 aG, .int .i64 0, .int .i64 aC, .bool aS] 37))
          have HR7 := hide ((unhide HR6).later (below_alloc (Below.refl _ _) (.cells #[.int .i64 aK, .int .i64 aE, .int .i64 aA, .int .i64 aT, .int .i64 aG, .int .i64 0, .int .i64 aC, .bool aS] 37)))
          have HB7 : Hid (Below w.heap.size w (w6.alloc (.cells #[.int .i64 aK, .int .i64 aE, .int .i64 aA, .int .i64 aT, .int .i64 aG, .int .i64 0, .int .i64 aC, .bool aS] 37))) := hide (below_alloc (unhide HB6) _)
          generalize (w6.alloc (.cells #[.int .i64 aK, .int .i64 aE, .int .i64 aA, .int .i64 aT, .int .i64 aG, .int .i64 0, .int .i64 aC, .bool aS] 37)) = w7 at HA7 HS7 HR7 HB7 ⊢
          generalize w6.heap.size = ba at HA7 ⊢
          clear HS6 HR6 HB6
          refine (spull_any _ (unhide GX) (unhide HS7)).mono ?_
          rintro e w8 ⟨rfl, hs8⟩
          have HB8 : Hid (Below w.heap.size w w8) := hide (hs8.below0 (unhide HS7) (unhide HB7) (unhide HB7).size zB)
          obtain ⟨F8, own8, lk8⟩ := hs8
          have HS8 := hide own8
          have HR8 := hide ((unhide HR7).step lk8)
          have GX8 := hide (ServM.pull_good (unhide GX))
          clear own8 lk8 HS7 HR7 HB7
          go_wp2
          go_roundw
          case rel => exact ⟨k + 1, _, _, Ns, Ts, F8, (ServM.pull x), by omega, rfl, rfl, by go_num, by first | omega | (simp; omega), GX8, KI, HS8, HR8, HB8⟩
          case measure => simp [intOf]; omega
        · have CH : Hid (∀ w : World, SOwn w1.heap.size w s F x → Calls Try.prog 8 #[.pointer (some ⟨s, 0, none⟩), .agg #[.int .i64 ad, .int .i64 0, .int .i64 0, .int .i64 0, .int .i64 0, .int .i64 0, .int .i64 0, .int .i64 0, .int .i64 0, .string ⟨#[]⟩], .int .i64 5] w fun e w' => e = .returned (.tuple #[.agg #[.int .i64 (ServM.aKind x hi 5), .int .i64 (ServM.aEp x hi 5), .int .i64 (ServM.aAd x hi 5), .int .i64 (ServM.aTi x hi 5), .int .i64 (ServM.aTg x hi 5), .int .i64 0, .int .i64 (ServM.aCo x hi 5), .bool false], .nilIface]) ∧ SStep w1.heap.size w w' s F (x)) := hide (fun w h0 => by
            have q := shello_any hi 5 w (unhide GX) h0
            rw [e1, e3, e4, errV_zero rfl] at q
            subst hie
            exact q)
          generalize ServM.aKind x hi 5 = aK at CH e2
          generalize ServM.aEp x hi 5 = aE at CH
          generalize ServM.aAd x hi 5 = aA at CH
          generalize ServM.aTi x hi 5 = aT at CH
          generalize ServM.aTg x hi 5 = aG at CH
          generalize ServM.aCo x hi 5 = aC at CH
          have e5 := beq_no e2
          clear e1 e3 e4 hie
          go_wp2_with fail
          refine (unhide CH _ (unhide HS)).mono ?_
          rintro e w6 ⟨rfl, hs6⟩
          have HB6 : Hid (Below w.heap.size w w6) := hide (hs6.below0 (unhide HS) (unhide HB) (unhide HB).size zB)
          obtain ⟨F6, own6, lk6⟩ := hs6
          have HS6 := hide own6
          have HR6 := hide ((unhide HR).step lk6)
          clear own6 lk6 dx
          go_wp2_with fail
          have HA7 : Hid (Held (w6.alloc (.cells #[.int .i64 aK, .int .i64 aE, .int .i64 aA, .int .i64 aT, .int .i64 aG, .int .i64 0, .int .i64 aC, .bool false] 37)) w6.heap.size (na aK aE aA aT aG aC false)) := hide (Held.fresh (w := w6) (na aK aE aA aT aG aC false) 37 rfl)
          have HS7 := hide ((unhide HS6).alloc (.cells #[.int .i64 aK, .int .i64 aE, .int .i64 aA, .int .i64 aT, .int .i64 aG, .int .i64 0, .int .i64 aC, .bool false] 37))
          have HR7 := hide ((unhide HR6).later (below_alloc (Below.refl _ _) (.cells #[.int .i64 aK, .int .i64 aE, .int .i64 aA, .int .i64 aT, .int .i64 aG, .int .i64 0, .int .i64 aC, .bool false] 37)))
          have HB7 : Hid (Below w.heap.size w (w6.alloc (.cells #[.int .i64 aK, .int .i64 aE, .int .i64 aA, .int .i64 aT, .int .i64 aG, .int .i64 0, .int .i64 aC, .bool false] 37))) := hide (below_alloc (unhide HB6) _)
          generalize (w6.alloc (.cells #[.int .i64 aK, .int .i64 aE, .int .i64 aA, .int .i64 aT, .int .i64 aG, .int .i64 0, .int .i64 aC, .bool false] 37)) = w7 at HA7 HS7 HR7 HB7 ⊢
          generalize w6.heap.size = ba at HA7 ⊢
          clear HS6 HR6 HB6
          refine (spull_any _ (unhide GX) (unhide HS7)).mono ?_
          rintro e w8 ⟨rfl, hs8⟩
          have HB8 : Hid (Below w.heap.size w w8) := hide (hs8.below0 (unhide HS7) (unhide HB7) (unhide HB7).size zB)
          obtain ⟨F8, own8, lk8⟩ := hs8
          have HS8 := hide own8
          have HR8 := hide ((unhide HR7).step lk8)
          have GX8 := hide (ServM.pull_good (unhide GX))
          clear own8 lk8 HS7 HR7 HB7
          go_wp2
          go_roundw
          case rel => exact ⟨k + 1, _, _, Ns, Ts, F8, (ServM.pull x), by omega, rfl, rfl, by go_num, by first | omega | (simp; omega), GX8, KI, HS8, HR8, HB8⟩
          case measure => simp [intOf]; omega
        · cases hsec : TagM.inB sec with
          | true =>
            by_cases s0 : shards < 1
            · have s1 : ¬ 1 ≤ shards := by omega
              have CH : Hid (∀ w : World, SOwn w1.heap.size w s F x → Calls Try.prog 8 #[.pointer (some ⟨s, 0, none⟩), .agg #[.int .i64 ad, .int .i64 0, .int .i64 0, .int .i64 0, .int .i64 0, .int .i64 0, .int .i64 0, .int .i64 0, .int .i64 0, .string ⟨#[]⟩], .int .i64 5] w fun e w' => e = .returned (.tuple #[.agg #[.int .i64 1, .int .i64 (ServM.aEp x hi 5), .int .i64 (ServM.aAd x hi 5), .int .i64 (ServM.aTi x hi 5), .int .i64 (ServM.aTg x hi 5), .int .i64 0, .int .i64 x.k, .bool false], .nilIface]) ∧ SStep w1.heap.size w w' s F ({ x with L := x.L ++ [(0, x.k)], k := x.k + 1 })) := hide (fun w h0 => by
                have q := shello_any hi 5 w (unhide GX) h0
                rw [e1, e2, e3, e4, errV_zero rfl, e6] at q
                subst hie
                exact q)
              have GX9 := hide (ServM.next_good (h := hi) (now := 5) (unhide GX))
              rw [e6] at GX9
              generalize ServM.aEp x hi 5 = aE at CH
              generalize ServM.aAd x hi 5 = aA at CH
              generalize ServM.aTi x hi 5 = aT at CH
              generalize ServM.aTg x hi 5 = aG at CH
              have x0 := (unhide GX).k0
              clear e1 e2 e3 e4 e6 hie
              have hbad : ConnM.bad 0 x.k = 0 := ConnM.bad_zero.2 (by omega)
              have CQ := hide (fun w => cnumber_any 0 x.k w)
              rw [hbad, ConnM.told_zero rfl, errV_zero rfl] at CQ
              have CR := hide (fun w => rof_any sec 0 x.k w)
              rw [ResetM.err_zero hbad hsec, ConnM.told_zero rfl, errV_zero rfl] at CR
              have HT := hide (fun (j : Nat) hj => (unhide KI).tag (j := j) x0 e5 hsec hj)
              obtain ⟨g0, g1⟩ := (TagM.inB_iff _).1 hsec
              have g2 : sec ≤ 999982 := by omega
              have KI9 := hide ((unhide KI).more (t := ResetM.tag sec 0 x.k) x0 (fun _ => rfl))
              generalize ResetM.tag sec 0 x.k = tt at CR HT KI9
              have HU := hide (fun (j : Nat) hj => (unhide KI).number (j := j) x0 hj)
              have tin : 0 ≤ ConnM.turn (4096 * 0 + x.k) ∧ ConnM.turn (4096 * 0 + x.k) ≤ 65535 := ⟨ConnM.turn_lo _, ConnM.turn_hi (by omega)⟩
              have ttn : ConnM.turn (ConnM.turn (4096 * 0 + x.k)) / 4096 = 0 := by rw [ConnM.turn_turn (by omega)]; omega
              have CO := hide (fun w => croute_any (ConnM.turn (4096 * 0 + x.k)) shards w)
              rw [ttn, Int.zero_emod] at CO
              rw [ConnM.route_one.2 (by omega), ConnM.told_pos (by omega), errV_pos (by omega)] at CO
              clear hbad ttn tin
              generalize ConnM.turn (4096 * 0 + x.k) = tn at CQ CO HU KI9
              go_wp2_with fail
              refine (unhide CH _ (unhide HS)).mono ?_
              rintro e w6 ⟨rfl, hs6⟩
              have HB6 : Hid (Below w.heap.size w w6) := hide (hs6.below0 (unhide HS) (unhide HB) (unhide HB).size zB)
              obtain ⟨F6, own6, lk6⟩ := hs6
              have HS6 := hide own6
              have HR6 := hide ((unhide HR).step lk6)
              clear own6 lk6 dx CH HS HR HB
              go_wp2_with fail
              have HA7 : Hid (Held (w6.alloc (.cells #[.int .i64 1, .int .i64 aE, .int .i64 aA, .int .i64 aT, .int .i64 aG, .int .i64 0, .int .i64 x.k, .bool false] 37)) w6.heap.size (na 1 aE aA aT aG x.k false)) := hide (Held.fresh (w := w6) (na 1 aE aA aT aG x.k false) 37 rfl)
              have HS7 := hide ((unhide HS6).alloc (.cells #[.int .i64 1, .int .i64 aE, .int .i64 aA, .int .i64 aT, .int .i64 aG, .int .i64 0, .int .i64 x.k, .bool false] 37))
              have HR7 := hide ((unhide HR6).later (below_alloc (Below.refl _ _) (.cells #[.int .i64 1, .int .i64 aE, .int .i64 aA, .int .i64 aT, .int .i64 aG, .int .i64 0, .int .i64 x.k, .bool false] 37)))
              have HB7 : Hid (Below w.heap.size w (w6.alloc (.cells #[.int .i64 1, .int .i64 aE, .int .i64 aA, .int .i64 aT, .int .i64 aG, .int .i64 0, .int .i64 x.k, .bool false] 37))) := hide (below_alloc (unhide HB6) _)
              generalize (w6.alloc (.cells #[.int .i64 1, .int .i64 aE, .int .i64 aA, .int .i64 aT, .int .i64 aG, .int .i64 0, .int .i64 x.k, .bool false] 37)) = w7 at HA7 HS7 HR7 HB7 ⊢
              generalize w6.heap.size = ba at HA7 ⊢
              clear HS6 HR6 HB6
              refine (unhide CQ _).mono ?_
              rintro e w8 ⟨rfl, hb8⟩
              have HA8 := hide ((unhide HA7).later hb8)
              have HS8 := hide ((unhide HS7).later hb8)
              have HR8 := hide ((unhide HR7).later hb8)
              have HB8 : Hid (Below w.heap.size w w8) := hide (bel3 (unhide HB7) (Below.refl _ _) hb8)
              clear hb8 HA7 HS7 HR7 HB7
              obtain ⟨⟨u0, u1, u2, u3, u4, u5, u6, u7⟩, -⟩ := (unhide HA8).c8
              have ul := (unhide HA8).2
              go_wp2_with fail
              refine (unhide CR _).mono ?_
              rintro e w9 ⟨rfl, hb9⟩
              clear u0 u1 u2 u3 u4 u5 u6 u7 ul
              have HA9 := hide ((unhide HA8).later hb9)
              have HS9 := hide ((unhide HS8).later hb9)
              have HR9 := hide ((unhide HR8).later hb9)
              have HB9 : Hid (Below w.heap.size w w9) := hide (bel3 (unhide HB8) (Below.refl _ _) hb9)
              clear hb9 HA8 HS8 HR8 HB8
              go_wp2_with fail
              refine (unhide CO _).mono ?_
              rintro e w10 ⟨rfl, hb10⟩
              have HA10 := hide ((unhide HA9).later hb10)
              have HS10 := hide ((unhide HS9).later hb10)
              have HR10 := hide ((unhide HR9).later hb10)
              have HB10 : Hid (Below w.heap.size w w10) := hide (bel3 (unhide HB9) (Below.refl _ _) hb10)
              clear hb10 HA9 HS9 HR9 HB9
              obtain ⟨rr1, rr2, -, -⟩ := unhide HR10
              have HIN := hide (own_ints1 rr1 (by omega))
              have HIT := hide (own_ints1 rr2 (by have := unhide HTN; omega))
              clear rr1 rr2
              go_wp2
              go_loop [23] (fun i => ∃ j : Nat, j ≤ Ns.length ∧ i = .int .i64 j) (fun i => Ns.length - (intOf i).toNat)
              case atStart => exact ⟨0, Nat.zero_le _, rfl⟩
              case round =>
                obtain ⟨j, hj, rfl⟩ := hrel
                by_cases hjm : (j : Int) < (Ns.length : Int)
                · obtain ⟨gg, og, rfl, hcj⟩ := (unhide HIN).2 j (by omega)
                  have hu := unhide HU j (by omega)
                  generalize Ns.getD j 0 = y at hcj hu
                  have hu2 : (y == tn) = false := by simp [hu]
                  have hj0 : (0 : Int) ≤ (j : Int) := by omega
                  obtain ⟨gt, ot, rfl, hct⟩ := (unhide HIT).2 j (by have := unhide HTN; omega)
                  have ht := unhide HT j (by omega)
                  generalize Ts.getD j 0 = z at hct ht
                  have ht2 : (z == tt) = false := by simp [ht]
                  have hjt : (j : Int) < (Ts.length : Int) := by have := unhide HTN; omega
                  go_wp2
                  go_round
                  case rel => exact ⟨j + 1, by omega, by go_num⟩
                  case measure => simp [intOf]; omega
                · obtain rfl : j = Ns.length := by omega
                  go_wp2_with (at_builtin; refine wpList_append_lies _ rfl _ _ 22 rfl w.heap.size 3 i0 (.int .i64 0) 1 8 Try.underlying22 hi0 hz0 hz1 hz2 rfl (by decide) (.slice a1 Ns.length c1) Ns.length (Ns.map (Value.int .i64)) rfl ((unhide HR10).1.alloc _) ⟨w10.heap.size, 0, none⟩ 1 1 [.int .i64 tn] rfl rfl ?q1c1 ?q1c2 (by omega) ?q1c3 ?q1c4 ?q1c5 (w10.heap.size + 1) ?q1c6 ?_)
                  try (case q1c1 => exact World.news_of_block (cs := #[.int .i64 tn]) (t := 3) (fr := (0, 0)) (heap_alloc_new w10 _))
                  try (case q1c2 => first | exact ints_one [tn] | rfl)
                  try (case q1c3 => (unfold maxLen; have := unhide HTN; omega))
                  try (case q1c4 => (have := unhide HTN; omega))
                  try (case q1c5 => (have := (unhide HB10).size; first | omega | (simp; omega)))
                  try (case q1c6 => simp)
                  intro g11 cap11 w11 ho hg hat hlt
                  obtain ⟨HRx, hkx⟩ := (unhide HR10).snoc1 (fun k hk => ((unhide HS10).all k hk).2) ho hg hat
                  have HR11 := hide HRx
                  have HS11 := hide ((unhide HS10).kept hkx (fun k hk hm => ((unhide HR10).2.2.1 k (by simpa using hm)).1 hk))
                  have HB11 : Hid (Below w.heap.size w w11) := hide (hkx.below (unhide HB10) (unhide HB10).size (fun k hk => ((unhide HR10).1.lt k (by simpa using hk)).1))
                  have lN : (Ns ++ [tn]).length = Ns.length + 1 := by simp
                  clear HRx hkx ho hg hat hlt HR10 HS10 HB10 HA10 HIN HIT HU
                  go_wp2_with (at_builtin; refine wpList_append_lies _ rfl _ _ 22 rfl w.heap.size 3 i0 (.int .i64 0) 1 8 Try.underlying22 hi0 hz0 hz1 hz2 rfl (by decide) (.slice a2 Ts.length c2) Ts.length (Ts.map (Value.int .i64)) rfl ((unhide HR11).2.1.alloc _) ⟨w11.heap.size, 0, none⟩ 1 1 [.int .i64 tt] rfl rfl ?q2c1 ?q2c2 (by omega) ?q2c3 ?q2c4 ?q2c5 (w11.heap.size + 1) ?q2c6 ?_)
                  try (case q2c1 => exact World.news_of_block (cs := #[.int .i64 tt]) (t := 3) (fr := (0, 0)) (heap_alloc_new w11 _))
                  try (case q2c2 => first | exact ints_one [tt] | rfl)
                  try (case q2c3 => (unfold maxLen; have := unhide HTN; omega))
                  try (case q2c4 => (have := unhide HTN; omega))
                  try (case q2c5 => (have := (unhide HB11).size; first | omega | (simp; omega)))
                  try (case q2c6 => simp)
                  intro g12 cap12 w12 ho hg hat hlt
                  obtain ⟨HRx, hkx⟩ := (unhide HR11).snoc2 (fun k hk => ((unhide HS11).all k hk).2) ho hg hat
                  have HR12 := hide HRx
                  have HS12 := hide ((unhide HS11).kept hkx (fun k hk hm => (unhide HR11).2.2.2 k (by simpa using hm) hk))
                  have HB12 : Hid (Below w.heap.size w w12) := hide (hkx.below (unhide HB11) (unhide HB11).size (fun k hk => ((unhide HR11).2.1.lt k (by simpa using hk)).1))
                  clear HRx hkx ho hg hat hlt HR11 HS11 HB11
                  go_wp2
                  go_roundw
                  case rel => exact ⟨k + 1, _, _, (Ns ++ [tn]), (Ts ++ [tt]), F6, _, by omega, rfl, rfl, by go_num, by first | omega | (simp; omega), GX9, KI9, HS12, HR12, HB12⟩
                  case measure => simp [intOf]; omega
            · by_cases s3 : 16 < shards
              · have s4 : ¬ shards ≤ 16 := by omega
                have s1 : 1 ≤ shards := by omega
                have CH : Hid (∀ w : World, SOwn w1.heap.size w s F x → Calls Try.prog 8 #[.pointer (some ⟨s, 0, none⟩), .agg #[.int .i64 ad, .int .i64 0, .int .i64 0, .int .i64 0, .int .i64 0, .int .i64 0, .int .i64 0, .int .i64 0, .int .i64 0, .string ⟨#[]⟩], .int .i64 5] w fun e w' => e = .returned (.tuple #[.agg #[.int .i64 1, .int .i64 (ServM.aEp x hi 5), .int .i64 (ServM.aAd x hi 5), .int .i64 (ServM.aTi x hi 5), .int .i64 (ServM.aTg x hi 5), .int .i64 0, .int .i64 x.k, .bool false], .nilIface]) ∧ SStep w1.heap.size w w' s F ({ x with L := x.L ++ [(0, x.k)], k := x.k + 1 })) := hide (fun w h0 => by
                  have q := shello_any hi 5 w (unhide GX) h0
                  rw [e1, e2, e3, e4, errV_zero rfl, e6] at q
                  subst hie
                  exact q)
                have GX9 := hide (ServM.next_good (h := hi) (now := 5) (unhide GX))
                rw [e6] at GX9
                generalize ServM.aEp x hi 5 = aE at CH
                generalize ServM.aAd x hi 5 = aA at CH
                generalize ServM.aTi x hi 5 = aT at CH
                generalize ServM.aTg x hi 5 = aG at CH
                have x0 := (unhide GX).k0
                clear e1 e2 e3 e4 e6 hie
                have hbad : ConnM.bad 0 x.k = 0 := ConnM.bad_zero.2 (by omega)
                have CQ := hide (fun w => cnumber_any 0 x.k w)
                rw [hbad, ConnM.told_zero rfl, errV_zero rfl] at CQ
                have CR := hide (fun w => rof_any sec 0 x.k w)
                rw [ResetM.err_zero hbad hsec, ConnM.told_zero rfl, errV_zero rfl] at CR
                have HT := hide (fun (j : Nat) hj => (unhide KI).tag (j := j) x0 e5 hsec hj)
                obtain ⟨g0, g1⟩ := (TagM.inB_iff _).1 hsec
                have g2 : sec ≤ 999982 := by omega
                have KI9 := hide ((unhide KI).more (t := ResetM.tag sec 0 x.k) x0 (fun _ => rfl))
                generalize ResetM.tag sec 0 x.k = tt at CR HT KI9
                have HU := hide (fun (j : Nat) hj => (unhide KI).number (j := j) x0 hj)
                have tin : 0 ≤ ConnM.turn (4096 * 0 + x.k) ∧ ConnM.turn (4096 * 0 + x.k) ≤ 65535 := ⟨ConnM.turn_lo _, ConnM.turn_hi (by omega)⟩
                have ttn : ConnM.turn (ConnM.turn (4096 * 0 + x.k)) / 4096 = 0 := by rw [ConnM.turn_turn (by omega)]; omega
                have CO := hide (fun w => croute_any (ConnM.turn (4096 * 0 + x.k)) shards w)
                rw [ttn, Int.zero_emod] at CO
                rw [ConnM.route_one.2 (by omega), ConnM.told_pos (by omega), errV_pos (by omega)] at CO
                clear hbad ttn tin
                generalize ConnM.turn (4096 * 0 + x.k) = tn at CQ CO HU KI9
                go_wp2_with fail
                refine (unhide CH _ (unhide HS)).mono ?_
                rintro e w6 ⟨rfl, hs6⟩
                have HB6 : Hid (Below w.heap.size w w6) := hide (hs6.below0 (unhide HS) (unhide HB) (unhide HB).size zB)
                obtain ⟨F6, own6, lk6⟩ := hs6
                have HS6 := hide own6
                have HR6 := hide ((unhide HR).step lk6)
                clear own6 lk6 dx CH HS HR HB
                go_wp2_with fail
                have HA7 : Hid (Held (w6.alloc (.cells #[.int .i64 1, .int .i64 aE, .int .i64 aA, .int .i64 aT, .int .i64 aG, .int .i64 0, .int .i64 x.k, .bool false] 37)) w6.heap.size (na 1 aE aA aT aG x.k false)) := hide (Held.fresh (w := w6) (na 1 aE aA aT aG x.k false) 37 rfl)
                have HS7 := hide ((unhide HS6).alloc (.cells #[.int .i64 1, .int .i64 aE, .int .i64 aA, .int .i64 aT, .int .i64 aG, .int .i64 0, .int .i64 x.k, .bool false] 37))
                have HR7 := hide ((unhide HR6).later (below_alloc (Below.refl _ _) (.cells #[.int .i64 1, .int .i64 aE, .int .i64 aA, .int .i64 aT, .int .i64 aG, .int .i64 0, .int .i64 x.k, .bool false] 37)))
                have HB7 : Hid (Below w.heap.size w (w6.alloc (.cells #[.int .i64 1, .int .i64 aE, .int .i64 aA, .int .i64 aT, .int .i64 aG, .int .i64 0, .int .i64 x.k, .bool false] 37))) := hide (below_alloc (unhide HB6) _)
                generalize (w6.alloc (.cells #[.int .i64 1, .int .i64 aE, .int .i64 aA, .int .i64 aT, .int .i64 aG, .int .i64 0, .int .i64 x.k, .bool false] 37)) = w7 at HA7 HS7 HR7 HB7 ⊢
                generalize w6.heap.size = ba at HA7 ⊢
                clear HS6 HR6 HB6
                refine (unhide CQ _).mono ?_
                rintro e w8 ⟨rfl, hb8⟩
                have HA8 := hide ((unhide HA7).later hb8)
                have HS8 := hide ((unhide HS7).later hb8)
                have HR8 := hide ((unhide HR7).later hb8)
                have HB8 : Hid (Below w.heap.size w w8) := hide (bel3 (unhide HB7) (Below.refl _ _) hb8)
                clear hb8 HA7 HS7 HR7 HB7
                obtain ⟨⟨u0, u1, u2, u3, u4, u5, u6, u7⟩, -⟩ := (unhide HA8).c8
                have ul := (unhide HA8).2
                go_wp2_with fail
                refine (unhide CR _).mono ?_
                rintro e w9 ⟨rfl, hb9⟩
                clear u0 u1 u2 u3 u4 u5 u6 u7 ul
                have HA9 := hide ((unhide HA8).later hb9)
                have HS9 := hide ((unhide HS8).later hb9)
                have HR9 := hide ((unhide HR8).later hb9)
                have HB9 : Hid (Below w.heap.size w w9) := hide (bel3 (unhide HB8) (Below.refl _ _) hb9)
                clear hb9 HA8 HS8 HR8 HB8
                go_wp2_with fail
                refine (unhide CO _).mono ?_
                rintro e w10 ⟨rfl, hb10⟩
                have HA10 := hide ((unhide HA9).later hb10)
                have HS10 := hide ((unhide HS9).later hb10)
                have HR10 := hide ((unhide HR9).later hb10)
                have HB10 : Hid (Below w.heap.size w w10) := hide (bel3 (unhide HB9) (Below.refl _ _) hb10)
                clear hb10 HA9 HS9 HR9 HB9
                obtain ⟨rr1, rr2, -, -⟩ := unhide HR10
                have HIN := hide (own_ints1 rr1 (by omega))
                have HIT := hide (own_ints1 rr2 (by have := unhide HTN; omega))
                clear rr1 rr2
                go_wp2
                go_loop [23] (fun i => ∃ j : Nat, j ≤ Ns.length ∧ i = .int .i64 j) (fun i => Ns.length - (intOf i).toNat)
                case atStart => exact ⟨0, Nat.zero_le _, rfl⟩
                case round =>
                  obtain ⟨j, hj, rfl⟩ := hrel
                  by_cases hjm : (j : Int) < (Ns.length : Int)
                  · obtain ⟨gg, og, rfl, hcj⟩ := (unhide HIN).2 j (by omega)
                    have hu := unhide HU j (by omega)
                    generalize Ns.getD j 0 = y at hcj hu
                    have hu2 : (y == tn) = false := by simp [hu]
                    have hj0 : (0 : Int) ≤ (j : Int) := by omega
                    obtain ⟨gt, ot, rfl, hct⟩ := (unhide HIT).2 j (by have := unhide HTN; omega)
                    have ht := unhide HT j (by omega)
                    generalize Ts.getD j 0 = z at hct ht
                    have ht2 : (z == tt) = false := by simp [ht]
                    have hjt : (j : Int) < (Ts.length : Int) := by have := unhide HTN; omega
                    go_wp2
                    go_round
                    case rel => exact ⟨j + 1, by omega, by go_num⟩
                    case measure => simp [intOf]; omega
                  · obtain rfl : j = Ns.length := by omega
                    go_wp2_with (at_builtin; refine wpList_append_lies _ rfl _ _ 22 rfl w.heap.size 3 i0 (.int .i64 0) 1 8 Try.underlying22 hi0 hz0 hz1 hz2 rfl (by decide) (.slice a1 Ns.length c1) Ns.length (Ns.map (Value.int .i64)) rfl ((unhide HR10).1.alloc _) ⟨w10.heap.size, 0, none⟩ 1 1 [.int .i64 tn] rfl rfl ?q3c1 ?q3c2 (by omega) ?q3c3 ?q3c4 ?q3c5 (w10.heap.size + 1) ?q3c6 ?_)
                    try (case q3c1 => exact World.news_of_block (cs := #[.int .i64 tn]) (t := 3) (fr := (0, 0)) (heap_alloc_new w10 _))
                    try (case q3c2 => first | exact ints_one [tn] | rfl)
                    try (case q3c3 => (unfold maxLen; have := unhide HTN; omega))
                    try (case q3c4 => (have := unhide HTN; omega))
                    try (case q3c5 => (have := (unhide HB10).size; first | omega | (simp; omega)))
                    try (case q3c6 => simp)
                    intro g11 cap11 w11 ho hg hat hlt
                    obtain ⟨HRx, hkx⟩ := (unhide HR10).snoc1 (fun k hk => ((unhide HS10).all k hk).2) ho hg hat
                    have HR11 := hide HRx
                    have HS11 := hide ((unhide HS10).kept hkx (fun k hk hm => ((unhide HR10).2.2.1 k (by simpa using hm)).1 hk))
                    have HB11 : Hid (Below w.heap.size w w11) := hide (hkx.below (unhide HB10) (unhide HB10).size (fun k hk => ((unhide HR10).1.lt k (by simpa using hk)).1))
                    have lN : (Ns ++ [tn]).length = Ns.length + 1 := by simp
                    clear HRx hkx ho hg hat hlt HR10 HS10 HB10 HA10 HIN HIT HU
                    go_wp2_with (at_builtin; refine wpList_append_lies _ rfl _ _ 22 rfl w.heap.size 3 i0 (.int .i64 0) 1 8 Try.underlying22 hi0 hz0 hz1 hz2 rfl (by decide) (.slice a2 Ts.length c2) Ts.length (Ts.map (Value.int .i64)) rfl ((unhide HR11).2.1.alloc _) ⟨w11.heap.size, 0, none⟩ 1 1 [.int .i64 tt] rfl rfl ?q4c1 ?q4c2 (by omega) ?q4c3 ?q4c4 ?q4c5 (w11.heap.size + 1) ?q4c6 ?_)
                    try (case q4c1 => exact World.news_of_block (cs := #[.int .i64 tt]) (t := 3) (fr := (0, 0)) (heap_alloc_new w11 _))
                    try (case q4c2 => first | exact ints_one [tt] | rfl)
                    try (case q4c3 => (unfold maxLen; have := unhide HTN; omega))
                    try (case q4c4 => (have := unhide HTN; omega))
                    try (case q4c5 => (have := (unhide HB11).size; first | omega | (simp; omega)))
                    try (case q4c6 => simp)
                    intro g12 cap12 w12 ho hg hat hlt
                    obtain ⟨HRx, hkx⟩ := (unhide HR11).snoc2 (fun k hk => ((unhide HS11).all k hk).2) ho hg hat
                    have HR12 := hide HRx
                    have HS12 := hide ((unhide HS11).kept hkx (fun k hk hm => (unhide HR11).2.2.2 k (by simpa using hm) hk))
                    have HB12 : Hid (Below w.heap.size w w12) := hide (hkx.below (unhide HB11) (unhide HB11).size (fun k hk => ((unhide HR11).2.1.lt k (by simpa using hk)).1))
                    clear HRx hkx ho hg hat hlt HR11 HS11 HB11
                    go_wp2
                    go_roundw
                    case rel => exact ⟨k + 1, _, _, (Ns ++ [tn]), (Ts ++ [tt]), F6, _, by omega, rfl, rfl, by go_num, by first | omega | (simp; omega), GX9, KI9, HS12, HR12, HB12⟩
                    case measure => simp [intOf]; omega
              · have s1 : 1 ≤ shards := by omega
                have s2 : shards ≤ 16 := by omega
                have CH : Hid (∀ w : World, SOwn w1.heap.size w s F x → Calls Try.prog 8 #[.pointer (some ⟨s, 0, none⟩), .agg #[.int .i64 ad, .int .i64 0, .int .i64 0, .int .i64 0, .int .i64 0, .int .i64 0, .int .i64 0, .int .i64 0, .int .i64 0, .string ⟨#[]⟩], .int .i64 5] w fun e w' => e = .returned (.tuple #[.agg #[.int .i64 1, .int .i64 (ServM.aEp x hi 5), .int .i64 (ServM.aAd x hi 5), .int .i64 (ServM.aTi x hi 5), .int .i64 (ServM.aTg x hi 5), .int .i64 0, .int .i64 x.k, .bool false], .nilIface]) ∧ SStep w1.heap.size w w' s F ({ x with L := x.L ++ [(0, x.k)], k := x.k + 1 })) := hide (fun w h0 => by
                  have q := shello_any hi 5 w (unhide GX) h0
                  rw [e1, e2, e3, e4, errV_zero rfl, e6] at q
                  subst hie
                  exact q)
                have GX9 := hide (ServM.next_good (h := hi) (now := 5) (unhide GX))
                rw [e6] at GX9
                generalize ServM.aEp x hi 5 = aE at CH
                generalize ServM.aAd x hi 5 = aA at CH
                generalize ServM.aTi x hi 5 = aT at CH
                generalize ServM.aTg x hi 5 = aG at CH
                have x0 := (unhide GX).k0
                clear e1 e2 e3 e4 e6 hie
                have hbad : ConnM.bad 0 x.k = 0 := ConnM.bad_zero.2 (by omega)
                have CQ := hide (fun w => cnumber_any 0 x.k w)
                rw [hbad, ConnM.told_zero rfl, errV_zero rfl] at CQ
                have CR := hide (fun w => rof_any sec 0 x.k w)
                rw [ResetM.err_zero hbad hsec, ConnM.told_zero rfl, errV_zero rfl] at CR
                have HT := hide (fun (j : Nat) hj => (unhide KI).tag (j := j) x0 e5 hsec hj)
                obtain ⟨g0, g1⟩ := (TagM.inB_iff _).1 hsec
                have g2 : sec ≤ 999982 := by omega
                have KI9 := hide ((unhide KI).more (t := ResetM.tag sec 0 x.k) x0 (fun _ => rfl))
                generalize ResetM.tag sec 0 x.k = tt at CR HT KI9
                have HU := hide (fun (j : Nat) hj => (unhide KI).number (j := j) x0 hj)
                have tin : 0 ≤ ConnM.turn (4096 * 0 + x.k) ∧ ConnM.turn (4096 * 0 + x.k) ≤ 65535 := ⟨ConnM.turn_lo _, ConnM.turn_hi (by omega)⟩
                have ttn : ConnM.turn (ConnM.turn (4096 * 0 + x.k)) / 4096 = 0 := by rw [ConnM.turn_turn (by omega)]; omega
                have CO := hide (fun w => croute_any (ConnM.turn (4096 * 0 + x.k)) shards w)
                rw [ttn, Int.zero_emod] at CO
                rw [ConnM.route_zero.2 ⟨tin, by omega⟩, ConnM.told_zero rfl, errV_zero rfl] at CO
                clear hbad ttn tin
                generalize ConnM.turn (4096 * 0 + x.k) = tn at CQ CO HU KI9
                go_wp2_with fail
                refine (unhide CH _ (unhide HS)).mono ?_
                rintro e w6 ⟨rfl, hs6⟩
                have HB6 : Hid (Below w.heap.size w w6) := hide (hs6.below0 (unhide HS) (unhide HB) (unhide HB).size zB)
                obtain ⟨F6, own6, lk6⟩ := hs6
                have HS6 := hide own6
                have HR6 := hide ((unhide HR).step lk6)
                clear own6 lk6 dx CH HS HR HB
                go_wp2_with fail
                have HA7 : Hid (Held (w6.alloc (.cells #[.int .i64 1, .int .i64 aE, .int .i64 aA, .int .i64 aT, .int .i64 aG, .int .i64 0, .int .i64 x.k, .bool false] 37)) w6.heap.size (na 1 aE aA aT aG x.k false)) := hide (Held.fresh (w := w6) (na 1 aE aA aT aG x.k false) 37 rfl)
                have HS7 := hide ((unhide HS6).alloc (.cells #[.int .i64 1, .int .i64 aE, .int .i64 aA, .int .i64 aT, .int .i64 aG, .int .i64 0, .int .i64 x.k, .bool false] 37))
                have HR7 := hide ((unhide HR6).later (below_alloc (Below.refl _ _) (.cells #[.int .i64 1, .int .i64 aE, .int .i64 aA, .int .i64 aT, .int .i64 aG, .int .i64 0, .int .i64 x.k, .bool false] 37)))
                have HB7 : Hid (Below w.heap.size w (w6.alloc (.cells #[.int .i64 1, .int .i64 aE, .int .i64 aA, .int .i64 aT, .int .i64 aG, .int .i64 0, .int .i64 x.k, .bool false] 37))) := hide (below_alloc (unhide HB6) _)
                generalize (w6.alloc (.cells #[.int .i64 1, .int .i64 aE, .int .i64 aA, .int .i64 aT, .int .i64 aG, .int .i64 0, .int .i64 x.k, .bool false] 37)) = w7 at HA7 HS7 HR7 HB7 ⊢
                generalize w6.heap.size = ba at HA7 ⊢
                clear HS6 HR6 HB6
                refine (unhide CQ _).mono ?_
                rintro e w8 ⟨rfl, hb8⟩
                have HA8 := hide ((unhide HA7).later hb8)
                have HS8 := hide ((unhide HS7).later hb8)
                have HR8 := hide ((unhide HR7).later hb8)
                have HB8 : Hid (Below w.heap.size w w8) := hide (bel3 (unhide HB7) (Below.refl _ _) hb8)
                clear hb8 HA7 HS7 HR7 HB7
                obtain ⟨⟨u0, u1, u2, u3, u4, u5, u6, u7⟩, -⟩ := (unhide HA8).c8
                have ul := (unhide HA8).2
                go_wp2_with fail
                refine (unhide CR _).mono ?_
                rintro e w9 ⟨rfl, hb9⟩
                clear u0 u1 u2 u3 u4 u5 u6 u7 ul
                have HA9 := hide ((unhide HA8).later hb9)
                have HS9 := hide ((unhide HS8).later hb9)
                have HR9 := hide ((unhide HR8).later hb9)
                have HB9 : Hid (Below w.heap.size w w9) := hide (bel3 (unhide HB8) (Below.refl _ _) hb9)
                clear hb9 HA8 HS8 HR8 HB8
                go_wp2_with fail
                refine (unhide CO _).mono ?_
                rintro e w10 ⟨rfl, hb10⟩
                have HA10 := hide ((unhide HA9).later hb10)
                have HS10 := hide ((unhide HS9).later hb10)
                have HR10 := hide ((unhide HR9).later hb10)
                have HB10 : Hid (Below w.heap.size w w10) := hide (bel3 (unhide HB9) (Below.refl _ _) hb10)
                clear hb10 HA9 HS9 HR9 HB9
                obtain ⟨rr1, rr2, -, -⟩ := unhide HR10
                have HIN := hide (own_ints1 rr1 (by omega))
                have HIT := hide (own_ints1 rr2 (by have := unhide HTN; omega))
                clear rr1 rr2
                go_wp2
                go_loop [23] (fun i => ∃ j : Nat, j ≤ Ns.length ∧ i = .int .i64 j) (fun i => Ns.length - (intOf i).toNat)
                case atStart => exact ⟨0, Nat.zero_le _, rfl⟩
                case round =>
                  obtain ⟨j, hj, rfl⟩ := hrel
                  by_cases hjm : (j : Int) < (Ns.length : Int)
                  · obtain ⟨gg, og, rfl, hcj⟩ := (unhide HIN).2 j (by omega)
                    have hu := unhide HU j (by omega)
                    generalize Ns.getD j 0 = y at hcj hu
                    have hu2 : (y == tn) = false := by simp [hu]
                    have hj0 : (0 : Int) ≤ (j : Int) := by omega
                    obtain ⟨gt, ot, rfl, hct⟩ := (unhide HIT).2 j (by have := unhide HTN; omega)
                    have ht := unhide HT j (by omega)
                    generalize Ts.getD j 0 = z at hct ht
                    have ht2 : (z == tt) = false := by simp [ht]
                    have hjt : (j : Int) < (Ts.length : Int) := by have := unhide HTN; omega
                    go_wp2
                    go_round
                    case rel => exact ⟨j + 1, by omega, by go_num⟩
                    case measure => simp [intOf]; omega
                  · obtain rfl : j = Ns.length := by omega
                    go_wp2_with (at_builtin; refine wpList_append_lies _ rfl _ _ 22 rfl w.heap.size 3 i0 (.int .i64 0) 1 8 Try.underlying22 hi0 hz0 hz1 hz2 rfl (by decide) (.slice a1 Ns.length c1) Ns.length (Ns.map (Value.int .i64)) rfl ((unhide HR10).1.alloc _) ⟨w10.heap.size, 0, none⟩ 1 1 [.int .i64 tn] rfl rfl ?q5c1 ?q5c2 (by omega) ?q5c3 ?q5c4 ?q5c5 (w10.heap.size + 1) ?q5c6 ?_)
                    try (case q5c1 => exact World.news_of_block (cs := #[.int .i64 tn]) (t := 3) (fr := (0, 0)) (heap_alloc_new w10 _))
                    try (case q5c2 => first | exact ints_one [tn] | rfl)
                    try (case q5c3 => (unfold maxLen; have := unhide HTN; omega))
                    try (case q5c4 => (have := unhide HTN; omega))
                    try (case q5c5 => (have := (unhide HB10).size; first | omega | (simp; omega)))
                    try (case q5c6 => simp)
                    intro g11 cap11 w11 ho hg hat hlt
                    obtain ⟨HRx, hkx⟩ := (unhide HR10).snoc1 (fun k hk => ((unhide HS10).all k hk).2) ho hg hat
                    have HR11 := hide HRx
                    have HS11 := hide ((unhide HS10).kept hkx (fun k hk hm => ((unhide HR10).2.2.1 k (by simpa using hm)).1 hk))
                    have HB11 : Hid (Below w.heap.size w w11) := hide (hkx.below (unhide HB10) (unhide HB10).size (fun k hk => ((unhide HR10).1.lt k (by simpa using hk)).1))
                    have lN : (Ns ++ [tn]).length = Ns.length + 1 := by simp
                    clear HRx hkx ho hg hat hlt HR10 HS10 HB10 HA10 HIN HIT HU
                    go_wp2_with (at_builtin; refine wpList_append_lies _ rfl _ _ 22 rfl w.heap.size 3 i0 (.int .i64 0) 1 8 Try.underlying22 hi0 hz0 hz1 hz2 rfl (by decide) (.slice a2 Ts.length c2) Ts.length (Ts.map (Value.int .i64)) rfl ((unhide HR11).2.1.alloc _) ⟨w11.heap.size, 0, none⟩ 1 1 [.int .i64 tt] rfl rfl ?q6c1 ?q6c2 (by omega) ?q6c3 ?q6c4 ?q6c5 (w11.heap.size + 1) ?q6c6 ?_)
                    try (case q6c1 => exact World.news_of_block (cs := #[.int .i64 tt]) (t := 3) (fr := (0, 0)) (heap_alloc_new w11 _))
                    try (case q6c2 => first | exact ints_one [tt] | rfl)
                    try (case q6c3 => (unfold maxLen; have := unhide HTN; omega))
                    try (case q6c4 => (have := unhide HTN; omega))
                    try (case q6c5 => (have := (unhide HB11).size; first | omega | (simp; omega)))
                    try (case q6c6 => simp)
                    intro g12 cap12 w12 ho hg hat hlt
                    obtain ⟨HRx, hkx⟩ := (unhide HR11).snoc2 (fun k hk => ((unhide HS11).all k hk).2) ho hg hat
                    have HR12 := hide HRx
                    have HS12 := hide ((unhide HS11).kept hkx (fun k hk hm => (unhide HR11).2.2.2 k (by simpa using hm) hk))
                    have HB12 : Hid (Below w.heap.size w w12) := hide (hkx.below (unhide HB11) (unhide HB11).size (fun k hk => ((unhide HR11).2.1.lt k (by simpa using hk)).1))
                    clear HRx hkx ho hg hat hlt HR11 HS11 HB11
                    go_wp2
                    go_roundw
                    case rel => exact ⟨k + 1, _, _, (Ns ++ [tn]), (Ts ++ [tt]), F6, _, by omega, rfl, rfl, by go_num, by first | omega | (simp; omega), GX9, KI9, HS12, HR12, HB12⟩
                    case measure => simp [intOf]; omega
          | false =>
            rcases (TagM.inB_not sec).1 hsec with g0 | g0
            · have g1 : ¬ 0 ≤ sec := by omega
              by_cases s0 : shards < 1
              · have s1 : ¬ 1 ≤ shards := by omega
                have CH : Hid (∀ w : World, SOwn w1.heap.size w s F x → Calls Try.prog 8 #[.pointer (some ⟨s, 0, none⟩), .agg #[.int .i64 ad, .int .i64 0, .int .i64 0, .int .i64 0, .int .i64 0, .int .i64 0, .int .i64 0, .int .i64 0, .int .i64 0, .string ⟨#[]⟩], .int .i64 5] w fun e w' => e = .returned (.tuple #[.agg #[.int .i64 1, .int .i64 (ServM.aEp x hi 5), .int .i64 (ServM.aAd x hi 5), .int .i64 (ServM.aTi x hi 5), .int .i64 (ServM.aTg x hi 5), .int .i64 0, .int .i64 x.k, .bool false], .nilIface]) ∧ SStep w1.heap.size w w' s F ({ x with L := x.L ++ [(0, x.k)], k := x.k + 1 })) := hide (fun w h0 => by
                  have q := shello_any hi 5 w (unhide GX) h0
                  rw [e1, e2, e3, e4, errV_zero rfl, e6] at q
                  subst hie
                  exact q)
                have GX9 := hide (ServM.next_good (h := hi) (now := 5) (unhide GX))
                rw [e6] at GX9
                generalize ServM.aEp x hi 5 = aE at CH
                generalize ServM.aAd x hi 5 = aA at CH
                generalize ServM.aTi x hi 5 = aT at CH
                generalize ServM.aTg x hi 5 = aG at CH
                have x0 := (unhide GX).k0
                clear e1 e2 e3 e4 e6 hie
                have hbad : ConnM.bad 0 x.k = 0 := ConnM.bad_zero.2 (by omega)
                have CQ := hide (fun w => cnumber_any 0 x.k w)
                rw [hbad, ConnM.told_zero rfl, errV_zero rfl] at CQ
                have CR := hide (fun w => rof_any sec 0 x.k w)
                rw [ResetM.err_key hsec, ConnM.told_pos (by omega), errV_pos (by omega)] at CR
                have KI9 := hide ((unhide KI).more (t := 0) x0 (fun q => by rw [hsec] at q; cases q))
                have HU := hide (fun (j : Nat) hj => (unhide KI).number (j := j) x0 hj)
                have tin : 0 ≤ ConnM.turn (4096 * 0 + x.k) ∧ ConnM.turn (4096 * 0 + x.k) ≤ 65535 := ⟨ConnM.turn_lo _, ConnM.turn_hi (by omega)⟩
                have ttn : ConnM.turn (ConnM.turn (4096 * 0 + x.k)) / 4096 = 0 := by rw [ConnM.turn_turn (by omega)]; omega
                have CO := hide (fun w => croute_any (ConnM.turn (4096 * 0 + x.k)) shards w)
                rw [ttn, Int.zero_emod] at CO
                rw [ConnM.route_one.2 (by omega), ConnM.told_pos (by omega), errV_pos (by omega)] at CO
                clear hbad ttn tin
                generalize ConnM.turn (4096 * 0 + x.k) = tn at CQ CO HU KI9
                go_wp2_with fail
                refine (unhide CH _ (unhide HS)).mono ?_
                rintro e w6 ⟨rfl, hs6⟩
                have HB6 : Hid (Below w.heap.size w w6) := hide (hs6.below0 (unhide HS) (unhide HB) (unhide HB).size zB)
                obtain ⟨F6, own6, lk6⟩ := hs6
                have HS6 := hide own6
                have HR6 := hide ((unhide HR).step lk6)
                clear own6 lk6 dx CH HS HR HB
                go_wp2_with fail
                have HA7 : Hid (Held (w6.alloc (.cells #[.int .i64 1, .int .i64 aE, .int .i64 aA, .int .i64 aT, .int .i64 aG, .int .i64 0, .int .i64 x.k, .bool false] 37)) w6.heap.size (na 1 aE aA aT aG x.k false)) := hide (Held.fresh (w := w6) (na 1 aE aA aT aG x.k false) 37 rfl)
                have HS7 := hide ((unhide HS6).alloc (.cells #[.int .i64 1, .int .i64 aE, .int .i64 aA, .int .i64 aT, .int .i64 aG, .int .i64 0, .int .i64 x.k, .bool false] 37))
                have HR7 := hide ((unhide HR6).later (below_alloc (Below.refl _ _) (.cells #[.int .i64 1, .int .i64 aE, .int .i64 aA, .int .i64 aT, .int .i64 aG, .int .i64 0, .int .i64 x.k, .bool false] 37)))
                have HB7 : Hid (Below w.heap.size w (w6.alloc (.cells #[.int .i64 1, .int .i64 aE, .int .i64 aA, .int .i64 aT, .int .i64 aG, .int .i64 0, .int .i64 x.k, .bool false] 37))) := hide (below_alloc (unhide HB6) _)
                generalize (w6.alloc (.cells #[.int .i64 1, .int .i64 aE, .int .i64 aA, .int .i64 aT, .int .i64 aG, .int .i64 0, .int .i64 x.k, .bool false] 37)) = w7 at HA7 HS7 HR7 HB7 ⊢
                generalize w6.heap.size = ba at HA7 ⊢
                clear HS6 HR6 HB6
                refine (unhide CQ _).mono ?_
                rintro e w8 ⟨rfl, hb8⟩
                have HA8 := hide ((unhide HA7).later hb8)
                have HS8 := hide ((unhide HS7).later hb8)
                have HR8 := hide ((unhide HR7).later hb8)
                have HB8 : Hid (Below w.heap.size w w8) := hide (bel3 (unhide HB7) (Below.refl _ _) hb8)
                clear hb8 HA7 HS7 HR7 HB7
                obtain ⟨⟨u0, u1, u2, u3, u4, u5, u6, u7⟩, -⟩ := (unhide HA8).c8
                have ul := (unhide HA8).2
                go_wp2_with fail
                refine (unhide CR _).mono ?_
                rintro e w9 ⟨rfl, hb9⟩
                clear u0 u1 u2 u3 u4 u5 u6 u7 ul
                have HA9 := hide ((unhide HA8).later hb9)
                have HS9 := hide ((unhide HS8).later hb9)
                have HR9 := hide ((unhide HR8).later hb9)
                have HB9 : Hid (Below w.heap.size w w9) := hide (bel3 (unhide HB8) (Below.refl _ _) hb9)
                clear hb9 HA8 HS8 HR8 HB8
                go_wp2_with fail
                refine (unhide CO _).mono ?_
                rintro e w10 ⟨rfl, hb10⟩
                have HA10 := hide ((unhide HA9).later hb10)
                have HS10 := hide ((unhide HS9).later hb10)
                have HR10 := hide ((unhide HR9).later hb10)
                have HB10 : Hid (Below w.heap.size w w10) := hide (bel3 (unhide HB9) (Below.refl _ _) hb10)
                clear hb10 HA9 HS9 HR9 HB9
                obtain ⟨rr1, rr2, -, -⟩ := unhide HR10
                have HIN := hide (own_ints1 rr1 (by omega))
                have HIT := hide (own_ints1 rr2 (by have := unhide HTN; omega))
                clear rr1 rr2
                go_wp2
                go_loop [23] (fun i => ∃ j : Nat, j ≤ Ns.length ∧ i = .int .i64 j) (fun i => Ns.length - (intOf i).toNat)
                case atStart => exact ⟨0, Nat.zero_le _, rfl⟩
                case round =>
                  obtain ⟨j, hj, rfl⟩ := hrel
                  by_cases hjm : (j : Int) < (Ns.length : Int)
                  · obtain ⟨gg, og, rfl, hcj⟩ := (unhide HIN).2 j (by omega)
                    have hu := unhide HU j (by omega)
                    generalize Ns.getD j 0 = y at hcj hu
                    have hu2 : (y == tn) = false := by simp [hu]
                    have hj0 : (0 : Int) ≤ (j : Int) := by omega
                    go_wp2
                    go_round
                    case rel => exact ⟨j + 1, by omega, by go_num⟩
                    case measure => simp [intOf]; omega
                  · obtain rfl : j = Ns.length := by omega
                    go_wp2_with (at_builtin; refine wpList_append_lies _ rfl _ _ 22 rfl w.heap.size 3 i0 (.int .i64 0) 1 8 Try.underlying22 hi0 hz0 hz1 hz2 rfl (by decide) (.slice a1 Ns.length c1) Ns.length (Ns.map (Value.int .i64)) rfl ((unhide HR10).1.alloc _) ⟨w10.heap.size, 0, none⟩ 1 1 [.int .i64 tn] rfl rfl ?q7c1 ?q7c2 (by omega) ?q7c3 ?q7c4 ?q7c5 (w10.heap.size + 1) ?q7c6 ?_)
                    try (case q7c1 => exact World.news_of_block (cs := #[.int .i64 tn]) (t := 3) (fr := (0, 0)) (heap_alloc_new w10 _))
                    try (case q7c2 => first | exact ints_one [tn] | rfl)
                    try (case q7c3 => (unfold maxLen; have := unhide HTN; omega))
                    try (case q7c4 => (have := unhide HTN; omega))
                    try (case q7c5 => (have := (unhide HB10).size; first | omega | (simp; omega)))
                    try (case q7c6 => simp)
                    intro g11 cap11 w11 ho hg hat hlt
                    obtain ⟨HRx, hkx⟩ := (unhide HR10).snoc1 (fun k hk => ((unhide HS10).all k hk).2) ho hg hat
                    have HR11 := hide HRx
                    have HS11 := hide ((unhide HS10).kept hkx (fun k hk hm => ((unhide HR10).2.2.1 k (by simpa using hm)).1 hk))
                    have HB11 : Hid (Below w.heap.size w w11) := hide (hkx.below (unhide HB10) (unhide HB10).size (fun k hk => ((unhide HR10).1.lt k (by simpa using hk)).1))
                    have lN : (Ns ++ [tn]).length = Ns.length + 1 := by simp
                    clear HRx hkx ho hg hat hlt HR10 HS10 HB10 HA10 HIN HIT HU
                    go_wp2_with (at_builtin; refine wpList_append_lies _ rfl _ _ 22 rfl w.heap.size 3 i0 (.int .i64 0) 1 8 Try.underlying22 hi0 hz0 hz1 hz2 rfl (by decide) (.slice a2 Ts.length c2) Ts.length (Ts.map (Value.int .i64)) rfl ((unhide HR11).2.1.alloc _) ⟨w11.heap.size, 0, none⟩ 1 1 [.int .i64 0] rfl rfl ?q8c1 ?q8c2 (by omega) ?q8c3 ?q8c4 ?q8c5 (w11.heap.size + 1) ?q8c6 ?_)
                    try (case q8c1 => exact World.news_of_block (cs := #[.int .i64 0]) (t := 3) (fr := (0, 0)) (heap_alloc_new w11 _))
                    try (case q8c2 => first | exact ints_one [0] | rfl)
                    try (case q8c3 => (unfold maxLen; have := unhide HTN; omega))
                    try (case q8c4 => (have := unhide HTN; omega))
                    try (case q8c5 => (have := (unhide HB11).size; first | omega | (simp; omega)))
                    try (case q8c6 => simp)
                    intro g12 cap12 w12 ho hg hat hlt
                    obtain ⟨HRx, hkx⟩ := (unhide HR11).snoc2 (fun k hk => ((unhide HS11).all k hk).2) ho hg hat
                    have HR12 := hide HRx
                    have HS12 := hide ((unhide HS11).kept hkx (fun k hk hm => (unhide HR11).2.2.2 k (by simpa using hm) hk))
                    have HB12 : Hid (Below w.heap.size w w12) := hide (hkx.below (unhide HB11) (unhide HB11).size (fun k hk => ((unhide HR11).2.1.lt k (by simpa using hk)).1))
                    clear HRx hkx ho hg hat hlt HR11 HS11 HB11
                    go_wp2
                    go_roundw
                    case rel => exact ⟨k + 1, _, _, (Ns ++ [tn]), (Ts ++ [0]), F6, _, by omega, rfl, rfl, by go_num, by first | omega | (simp; omega), GX9, KI9, HS12, HR12, HB12⟩
                    case measure => simp [intOf]; omega
              · by_cases s3 : 16 < shards
                · have s4 : ¬ shards ≤ 16 := by omega
                  have s1 : 1 ≤ shards := by omega
                  have CH : Hid (∀ w : World, SOwn w1.heap.size w s F x → Calls Try.prog 8 #[.pointer (some ⟨s, 0, none⟩), .agg #[.int .i64 ad, .int .i64 0, .int .i64 0, .int .i64 0, .int .i64 0, .int .i64 0, .int .i64 0, .int .i64 0, .int .i64 0, .string ⟨#[]⟩], .int .i64 5] w fun e w' => e = .returned (.tuple #[.agg #[.int .i64 1, .int .i64 (ServM.aEp x hi 5), .int .i64 (ServM.aAd x hi 5), .int .i64 (ServM.aTi x hi 5), .int .i64 (ServM.aTg x hi 5), .int .i64 0, .int .i64 x.k, .bool false], .nilIface]) ∧ SStep w1.heap.size w w' s F ({ x with L := x.L ++ [(0, x.k)], k := x.k + 1 })) := hide (fun w h0 => by
                    have q := shello_any hi 5 w (unhide GX) h0
                    rw [e1, e2, e3, e4, errV_zero rfl, e6] at q
                    subst hie
                    exact q)
                  have GX9 := hide (ServM.next_good (h := hi) (now := 5) (unhide GX))
                  rw [e6] at GX9
                  generalize ServM.aEp x hi 5 = aE at CH
                  generalize ServM.aAd x hi 5 = aA at CH
                  generalize ServM.aTi x hi 5 = aT at CH
                  generalize ServM.aTg x hi 5 = aG at CH
                  have x0 := (unhide GX).k0
                  clear e1 e2 e3 e4 e6 hie
                  have hbad : ConnM.bad 0 x.k = 0 := ConnM.bad_zero.2 (by omega)
                  have CQ := hide (fun w => cnumber_any 0 x.k w)
                  rw [hbad, ConnM.told_zero rfl, errV_zero rfl] at CQ
                  have CR := hide (fun w => rof_any sec 0 x.k w)
                  rw [ResetM.err_key hsec, ConnM.told_pos (by omega), errV_pos (by omega)] at CR
                  have KI9 := hide ((unhide KI).more (t := 0) x0 (fun q => by rw [hsec] at q; cases q))
                  have HU := hide (fun (j : Nat) hj => (unhide KI).number (j := j) x0 hj)
                  have tin : 0 ≤ ConnM.turn (4096 * 0 + x.k) ∧ ConnM.turn (4096 * 0 + x.k) ≤ 65535 := ⟨ConnM.turn_lo _, ConnM.turn_hi (by omega)⟩
                  have ttn : ConnM.turn (ConnM.turn (4096 * 0 + x.k)) / 4096 = 0 := by rw [ConnM.turn_turn (by omega)]; omega
                  have CO := hide (fun w => croute_any (ConnM.turn (4096 * 0 + x.k)) shards w)
                  rw [ttn, Int.zero_emod] at CO
                  rw [ConnM.route_one.2 (by omega), ConnM.told_pos (by omega), errV_pos (by omega)] at CO
                  clear hbad ttn tin
                  generalize ConnM.turn (4096 * 0 + x.k) = tn at CQ CO HU KI9
                  go_wp2_with fail
                  refine (unhide CH _ (unhide HS)).mono ?_
                  rintro e w6 ⟨rfl, hs6⟩
                  have HB6 : Hid (Below w.heap.size w w6) := hide (hs6.below0 (unhide HS) (unhide HB) (unhide HB).size zB)
                  obtain ⟨F6, own6, lk6⟩ := hs6
                  have HS6 := hide own6
                  have HR6 := hide ((unhide HR).step lk6)
                  clear own6 lk6 dx CH HS HR HB
                  go_wp2_with fail
                  have HA7 : Hid (Held (w6.alloc (.cells #[.int .i64 1, .int .i64 aE, .int .i64 aA, .int .i64 aT, .int .i64 aG, .int .i64 0, .int .i64 x.k, .bool false] 37)) w6.heap.size (na 1 aE aA aT aG x.k false)) := hide (Held.fresh (w := w6) (na 1 aE aA aT aG x.k false) 37 rfl)
                  have HS7 := hide ((unhide HS6).alloc (.cells #[.int .i64 1, .int .i64 aE, .int .i64 aA, .int .i64 aT, .int .i64 aG, .int .i64 0, .int .i64 x.k, .bool false] 37))
                  have HR7 := hide ((unhide HR6).later (below_alloc (Below.refl _ _) (.cells #[.int .i64 1, .int .i64 aE, .int .i64 aA, .int .i64 aT, .int .i64 aG, .int .i64 0, .int .i64 x.k, .bool false] 37)))
                  have HB7 : Hid (Below w.heap.size w (w6.alloc (.cells #[.int .i64 1, .int .i64 aE, .int .i64 aA, .int .i64 aT, .int .i64 aG, .int .i64 0, .int .i64 x.k, .bool false] 37))) := hide (below_alloc (unhide HB6) _)
                  generalize (w6.alloc (.cells #[.int .i64 1, .int .i64 aE, .int .i64 aA, .int .i64 aT, .int .i64 aG, .int .i64 0, .int .i64 x.k, .bool false] 37)) = w7 at HA7 HS7 HR7 HB7 ⊢
                  generalize w6.heap.size = ba at HA7 ⊢
                  clear HS6 HR6 HB6
                  refine (unhide CQ _).mono ?_
                  rintro e w8 ⟨rfl, hb8⟩
                  have HA8 := hide ((unhide HA7).later hb8)
                  have HS8 := hide ((unhide HS7).later hb8)
                  have HR8 := hide ((unhide HR7).later hb8)
                  have HB8 : Hid (Below w.heap.size w w8) := hide (bel3 (unhide HB7) (Below.refl _ _) hb8)
                  clear hb8 HA7 HS7 HR7 HB7
                  obtain ⟨⟨u0, u1, u2, u3, u4, u5, u6, u7⟩, -⟩ := (unhide HA8).c8
                  have ul := (unhide HA8).2
                  go_wp2_with fail
                  refine (unhide CR _).mono ?_
                  rintro e w9 ⟨rfl, hb9⟩
                  clear u0 u1 u2 u3 u4 u5 u6 u7 ul
                  have HA9 := hide ((unhide HA8).later hb9)
                  have HS9 := hide ((unhide HS8).later hb9)
                  have HR9 := hide ((unhide HR8).later hb9)
                  have HB9 : Hid (Below w.heap.size w w9) := hide (bel3 (unhide HB8) (Below.refl _ _) hb9)
                  clear hb9 HA8 HS8 HR8 HB8
                  go_wp2_with fail
                  refine (unhide CO _).mono ?_
                  rintro e w10 ⟨rfl, hb10⟩
                  have HA10 := hide ((unhide HA9).later hb10)
                  have HS10 := hide ((unhide HS9).later hb10)
                  have HR10 := hide ((unhide HR9).later hb10)
                  have HB10 : Hid (Below w.heap.size w w10) := hide (bel3 (unhide HB9) (Below.refl _ _) hb10)
                  clear hb10 HA9 HS9 HR9 HB9
                  obtain ⟨rr1, rr2, -, -⟩ := unhide HR10
                  have HIN := hide (own_ints1 rr1 (by omega))
                  have HIT := hide (own_ints1 rr2 (by have := unhide HTN; omega))
                  clear rr1 rr2
                  go_wp2
                  go_loop [23] (fun i => ∃ j : Nat, j ≤ Ns.length ∧ i = .int .i64 j) (fun i => Ns.length - (intOf i).toNat)
                  case atStart => exact ⟨0, Nat.zero_le _, rfl⟩
                  case round =>
                    obtain ⟨j, hj, rfl⟩ := hrel
                    by_cases hjm : (j : Int) < (Ns.length : Int)
                    · obtain ⟨gg, og, rfl, hcj⟩ := (unhide HIN).2 j (by omega)
                      have hu := unhide HU j (by omega)
                      generalize Ns.getD j 0 = y at hcj hu
                      have hu2 : (y == tn) = false := by simp [hu]
                      have hj0 : (0 : Int) ≤ (j : Int) := by omega
                      go_wp2
                      go_round
                      case rel => exact ⟨j + 1, by omega, by go_num⟩
                      case measure => simp [intOf]; omega
                    · obtain rfl : j = Ns.length := by omega
                      go_wp2_with (at_builtin; refine wpList_append_lies _ rfl _ _ 22 rfl w.heap.size 3 i0 (.int .i64 0) 1 8 Try.underlying22 hi0 hz0 hz1 hz2 rfl (by decide) (.slice a1 Ns.length c1) Ns.length (Ns.map (Value.int .i64)) rfl ((unhide HR10).1.alloc _) ⟨w10.heap.size, 0, none⟩ 1 1 [.int .i64 tn] rfl rfl ?q9c1 ?q9c2 (by omega) ?q9c3 ?q9c4 ?q9c5 (w10.heap.size + 1) ?q9c6 ?_)
                      try (case q9c1 => exact World.news_of_block (cs := #[.int .i64 tn]) (t := 3) (fr := (0, 0)) (heap_alloc_new w10 _))
                      try (case q9c2 => first | exact ints_one [tn] | rfl)
                      try (case q9c3 => (unfold maxLen; have := unhide HTN; omega))
                      try (case q9c4 => (have := unhide HTN; omega))
                      try (case q9c5 => (have := (unhide HB10).size; first | omega | (simp; omega)))
                      try (case q9c6 => simp)
                      intro g11 cap11 w11 ho hg hat hlt
                      obtain ⟨HRx, hkx⟩ := (unhide HR10).snoc1 (fun k hk => ((unhide HS10).all k hk).2) ho hg hat
                      have HR11 := hide HRx
                      have HS11 := hide ((unhide HS10).kept hkx (fun k hk hm => ((unhide HR10).2.2.1 k (by simpa using hm)).1 hk))
                      have HB11 : Hid (Below w.heap.size w w11) := hide (hkx.below (unhide HB10) (unhide HB10).size (fun k hk => ((unhide HR10).1.lt k (by simpa using hk)).1))
                      have lN : (Ns ++ [tn]).length = Ns.length + 1 := by simp
                      clear HRx hkx ho hg hat hlt HR10 HS10 HB10 HA10 HIN HIT HU
                      go_wp2_with (at_builtin; refine wpList_append_lies _ rfl _ _ 22 rfl w.heap.size 3 i0 (.int .i64 0) 1 8 Try.underlying22 hi0 hz0 hz1 hz2 rfl (by decide) (.slice a2 Ts.length c2) Ts.length (Ts.map (Value.int .i64)) rfl ((unhide HR11).2.1.alloc _) ⟨w11.heap.size, 0, none⟩ 1 1 [.int .i64 0] rfl rfl ?q10c1 ?q10c2 (by omega) ?q10c3 ?q10c4 ?q10c5 (w11.heap.size + 1) ?q10c6 ?_)
                      try (case q10c1 => exact World.news_of_block (cs := #[.int .i64 0]) (t := 3) (fr := (0, 0)) (heap_alloc_new w11 _))
                      try (case q10c2 => first | exact ints_one [0] | rfl)
                      try (case q10c3 => (unfold maxLen; have := unhide HTN; omega))
                      try (case q10c4 => (have := unhide HTN; omega))
                      try (case q10c5 => (have := (unhide HB11).size; first | omega | (simp; omega)))
                      try (case q10c6 => simp)
                      intro g12 cap12 w12 ho hg hat hlt
                      obtain ⟨HRx, hkx⟩ := (unhide HR11).snoc2 (fun k hk => ((unhide HS11).all k hk).2) ho hg hat
                      have HR12 := hide HRx
                      have HS12 := hide ((unhide HS11).kept hkx (fun k hk hm => (unhide HR11).2.2.2 k (by simpa using hm) hk))
                      have HB12 : Hid (Below w.heap.size w w12) := hide (hkx.below (unhide HB11) (unhide HB11).size (fun k hk => ((unhide HR11).2.1.lt k (by simpa using hk)).1))
                      clear HRx hkx ho hg hat hlt HR11 HS11 HB11
                      go_wp2
                      go_roundw
                      case rel => exact ⟨k + 1, _, _, (Ns ++ [tn]), (Ts ++ [0]), F6, _, by omega, rfl, rfl, by go_num, by first | omega | (simp; omega), GX9, KI9, HS12, HR12, HB12⟩
                      case measure => simp [intOf]; omega
                · have s1 : 1 ≤ shards := by omega
                  have s2 : shards ≤ 16 := by omega
                  have CH : Hid (∀ w : World, SOwn w1.heap.size w s F x → Calls Try.prog 8 #[.pointer (some ⟨s, 0, none⟩), .agg #[.int .i64 ad, .int .i64 0, .int .i64 0, .int .i64 0, .int .i64 0, .int .i64 0, .int .i64 0, .int .i64 0, .int .i64 0, .string ⟨#[]⟩], .int .i64 5] w fun e w' => e = .returned (.tuple #[.agg #[.int .i64 1, .int .i64 (ServM.aEp x hi 5), .int .i64 (ServM.aAd x hi 5), .int .i64 (ServM.aTi x hi 5), .int .i64 (ServM.aTg x hi 5), .int .i64 0, .int .i64 x.k, .bool false], .nilIface]) ∧ SStep w1.heap.size w w' s F ({ x with L := x.L ++ [(0, x.k)], k := x.k + 1 })) := hide (fun w h0 => by
                    have q := shello_any hi 5 w (unhide GX) h0
                    rw [e1, e2, e3, e4, errV_zero rfl, e6] at q
                    subst hie
                    exact q)
                  have GX9 := hide (ServM.next_good (h := hi) (now := 5) (unhide GX))
                  rw [e6] at GX9
                  generalize ServM.aEp x hi 5 = aE at CH
                  generalize ServM.aAd x hi 5 = aA at CH
                  generalize ServM.aTi x hi 5 = aT at CH
                  generalize ServM.aTg x hi 5 = aG at CH
                  have x0 := (unhide GX).k0
                  clear e1 e2 e3 e4 e6 hie
                  have hbad : ConnM.bad 0 x.k = 0 := ConnM.bad_zero.2 (by omega)
                  have CQ := hide (fun w => cnumber_any 0 x.k w)
                  rw [hbad, ConnM.told_zero rfl, errV_zero rfl] at CQ
                  have CR := hide (fun w => rof_any sec 0 x.k w)
                  rw [ResetM.err_key hsec, ConnM.told_pos (by omega), errV_pos (by omega)] at CR
                  have KI9 := hide ((unhide KI).more (t := 0) x0 (fun q => by rw [hsec] at q; cases q))
                  have HU := hide (fun (j : Nat) hj => (unhide KI).number (j := j) x0 hj)
                  have tin : 0 ≤ ConnM.turn (4096 * 0 + x.k) ∧ ConnM.turn (4096 * 0 + x.k) ≤ 65535 := ⟨ConnM.turn_lo _, ConnM.turn_hi (by omega)⟩
                  have ttn : ConnM.turn (ConnM.turn (4096 * 0 + x.k)) / 4096 = 0 := by rw [ConnM.turn_turn (by omega)]; omega
                  have CO := hide (fun w => croute_any (ConnM.turn (4096 * 0 + x.k)) shards w)
                  rw [ttn, Int.zero_emod] at CO
                  rw [ConnM.route_zero.2 ⟨tin, by omega⟩, ConnM.told_zero rfl, errV_zero rfl] at CO
                  clear hbad ttn tin
                  generalize ConnM.turn (4096 * 0 + x.k) = tn at CQ CO HU KI9
                  go_wp2_with fail
                  refine (unhide CH _ (unhide HS)).mono ?_
                  rintro e w6 ⟨rfl, hs6⟩
                  have HB6 : Hid (Below w.heap.size w w6) := hide (hs6.below0 (unhide HS) (unhide HB) (unhide HB).size zB)
                  obtain ⟨F6, own6, lk6⟩ := hs6
                  have HS6 := hide own6
                  have HR6 := hide ((unhide HR).step lk6)
                  clear own6 lk6 dx CH HS HR HB
                  go_wp2_with fail
                  have HA7 : Hid (Held (w6.alloc (.cells #[.int .i64 1, .int .i64 aE, .int .i64 aA, .int .i64 aT, .int .i64 aG, .int .i64 0, .int .i64 x.k, .bool false] 37)) w6.heap.size (na 1 aE aA aT aG x.k false)) := hide (Held.fresh (w := w6) (na 1 aE aA aT aG x.k false) 37 rfl)
                  have HS7 := hide ((unhide HS6).alloc (.cells #[.int .i64 1, .int .i64 aE, .int .i64 aA, .int .i64 aT, .int .i64 aG, .int .i64 0, .int .i64 x.k, .bool false] 37))
                  have HR7 := hide ((unhide HR6).later (below_alloc (Below.refl _ _) (.cells #[.int .i64 1, .int .i64 aE, .int .i64 aA, .int .i64 aT, .int .i64 aG, .int .i64 0, .int .i64 x.k, .bool false] 37)))
                  have HB7 : Hid (Below w.heap.size w (w6.alloc (.cells #[.int .i64 1, .int .i64 aE, .int .i64 aA, .int .i64 aT, .int .i64 aG, .int .i64 0, .int .i64 x.k, .bool false] 37))) := hide (below_alloc (unhide HB6) _)
                  generalize (w6.alloc (.cells #[.int .i64 1, .int .i64 aE, .int .i64 aA, .int .i64 aT, .int .i64 aG, .int .i64 0, .int .i64 x.k, .bool false] 37)) = w7 at HA7 HS7 HR7 HB7 ⊢
                  generalize w6.heap.size = ba at HA7 ⊢
                  clear HS6 HR6 HB6
                  refine (unhide CQ _).mono ?_
                  rintro e w8 ⟨rfl, hb8⟩
                  have HA8 := hide ((unhide HA7).later hb8)
                  have HS8 := hide ((unhide HS7).later hb8)
                  have HR8 := hide ((unhide HR7).later hb8)
                  have HB8 : Hid (Below w.heap.size w w8) := hide (bel3 (unhide HB7) (Below.refl _ _) hb8)
                  clear hb8 HA7 HS7 HR7 HB7
                  obtain ⟨⟨u0, u1, u2, u3, u4, u5, u6, u7⟩, -⟩ := (unhide HA8).c8
                  have ul := (unhide HA8).2
                  go_wp2_with fail
                  refine (unhide CR _).mono ?_
                  rintro e w9 ⟨rfl, hb9⟩
                  clear u0 u1 u2 u3 u4 u5 u6 u7 ul
                  have HA9 := hide ((unhide HA8).later hb9)
                  have HS9 := hide ((unhide HS8).later hb9)
                  have HR9 := hide ((unhide HR8).later hb9)
                  have HB9 : Hid (Below w.heap.size w w9) := hide (bel3 (unhide HB8) (Below.refl _ _) hb9)
                  clear hb9 HA8 HS8 HR8 HB8
                  go_wp2_with fail
                  refine (unhide CO _).mono ?_
                  rintro e w10 ⟨rfl, hb10⟩
                  have HA10 := hide ((unhide HA9).later hb10)
                  have HS10 := hide ((unhide HS9).later hb10)
                  have HR10 := hide ((unhide HR9).later hb10)
                  have HB10 : Hid (Below w.heap.size w w10) := hide (bel3 (unhide HB9) (Below.refl _ _) hb10)
                  clear hb10 HA9 HS9 HR9 HB9
                  obtain ⟨rr1, rr2, -, -⟩ := unhide HR10
                  have HIN := hide (own_ints1 rr1 (by omega))
                  have HIT := hide (own_ints1 rr2 (by have := unhide HTN; omega))
                  clear rr1 rr2
                  go_wp2
                  go_loop [23] (fun i => ∃ j : Nat, j ≤ Ns.length ∧ i = .int .i64 j) (fun i => Ns.length - (intOf i).toNat)
                  case atStart => exact ⟨0, Nat.zero_le _, rfl⟩
                  case round =>
                    obtain ⟨j, hj, rfl⟩ := hrel
                    by_cases hjm : (j : Int) < (Ns.length : Int)
                    · obtain ⟨gg, og, rfl, hcj⟩ := (unhide HIN).2 j (by omega)
                      have hu := unhide HU j (by omega)
                      generalize Ns.getD j 0 = y at hcj hu
                      have hu2 : (y == tn) = false := by simp [hu]
                      have hj0 : (0 : Int) ≤ (j : Int) := by omega
                      go_wp2
                      go_round
                      case rel => exact ⟨j + 1, by omega, by go_num⟩
                      case measure => simp [intOf]; omega
                    · obtain rfl : j = Ns.length := by omega
                      go_wp2_with (at_builtin; refine wpList_append_lies _ rfl _ _ 22 rfl w.heap.size 3 i0 (.int .i64 0) 1 8 Try.underlying22 hi0 hz0 hz1 hz2 rfl (by decide) (.slice a1 Ns.length c1) Ns.length (Ns.map (Value.int .i64)) rfl ((unhide HR10).1.alloc _) ⟨w10.heap.size, 0, none⟩ 1 1 [.int .i64 tn] rfl rfl ?q11c1 ?q11c2 (by omega) ?q11c3 ?q11c4 ?q11c5 (w10.heap.size + 1) ?q11c6 ?_)
                      try (case q11c1 => exact World.news_of_block (cs := #[.int .i64 tn]) (t := 3) (fr := (0, 0)) (heap_alloc_new w10 _))
                      try (case q11c2 => first | exact ints_one [tn] | rfl)
                      try (case q11c3 => (unfold maxLen; have := unhide HTN; omega))
                      try (case q11c4 => (have := unhide HTN; omega))
                      try (case q11c5 => (have := (unhide HB10).size; first | omega | (simp; omega)))
                      try (case q11c6 => simp)
                      intro g11 cap11 w11 ho hg hat hlt
                      obtain ⟨HRx, hkx⟩ := (unhide HR10).snoc1 (fun k hk => ((unhide HS10).all k hk).2) ho hg hat
                      have HR11 := hide HRx
                      have HS11 := hide ((unhide HS10).kept hkx (fun k hk hm => ((unhide HR10).2.2.1 k (by simpa using hm)).1 hk))
                      have HB11 : Hid (Below w.heap.size w w11) := hide (hkx.below (unhide HB10) (unhide HB10).size (fun k hk => ((unhide HR10).1.lt k (by simpa using hk)).1))
                      have lN : (Ns ++ [tn]).length = Ns.length + 1 := by simp
                      clear HRx hkx ho hg hat hlt HR10 HS10 HB10 HA10 HIN HIT HU
                      go_wp2_with (at_builtin; refine wpList_append_lies _ rfl _ _ 22 rfl w.heap.size 3 i0 (.int .i64 0) 1 8 Try.underlying22 hi0 hz0 hz1 hz2 rfl (by decide) (.slice a2 Ts.length c2) Ts.length (Ts.map (Value.int .i64)) rfl ((unhide HR11).2.1.alloc _) ⟨w11.heap.size, 0, none⟩ 1 1 [.int .i64 0] rfl rfl ?q12c1 ?q12c2 (by omega) ?q12c3 ?q12c4 ?q12c5 (w11.heap.size + 1) ?q12c6 ?_)
                      try (case q12c1 => exact World.news_of_block (cs := #[.int .i64 0]) (t := 3) (fr := (0, 0)) (heap_alloc_new w11 _))
                      try (case q12c2 => first | exact ints_one [0] | rfl)
                      try (case q12c3 => (unfold maxLen; have := unhide HTN; omega))
                      try (case q12c4 => (have := unhide HTN; omega))
                      try (case q12c5 => (have := (unhide HB11).size; first | omega | (simp; omega)))
                      try (case q12c6 => simp)
                      intro g12 cap12 w12 ho hg hat hlt
                      obtain ⟨HRx, hkx⟩ := (unhide HR11).snoc2 (fun k hk => ((unhide HS11).all k hk).2) ho hg hat
                      have HR12 := hide HRx
                      have HS12 := hide ((unhide HS11).kept hkx (fun k hk hm => (unhide HR11).2.2.2 k (by simpa using hm) hk))
                      have HB12 : Hid (Below w.heap.size w w12) := hide (hkx.below (unhide HB11) (unhide HB11).size (fun k hk => ((unhide HR11).2.1.lt k (by simpa using hk)).1))
                      clear HRx hkx ho hg hat hlt HR11 HS11 HB11
                      go_wp2
                      go_roundw
                      case rel => exact ⟨k + 1, _, _, (Ns ++ [tn]), (Ts ++ [0]), F6, _, by omega, rfl, rfl, by go_num, by first | omega | (simp; omega), GX9, KI9, HS12, HR12, HB12⟩
                      case measure => simp [intOf]; omega
            · have g1 : 0 ≤ sec := by omega
              have g2 : ¬ sec ≤ 999982 := by omega
              by_cases s0 : shards < 1
              · have s1 : ¬ 1 ≤ shards := by omega
                have CH : Hid (∀ w : World, SOwn w1.heap.size w s F x → Calls Try.prog 8 #[.pointer (some ⟨s, 0, none⟩), .agg #[.int .i64 ad, .int .i64 0, .int .i64 0, .int .i64 0, .int .i64 0, .int .i64 0, .int .i64 0, .int .i64 0, .int .i64 0, .string ⟨#[]⟩], .int .i64 5] w fun e w' => e = .returned (.tuple #[.agg #[.int .i64 1, .int .i64 (ServM.aEp x hi 5), .int .i64 (ServM.aAd x hi 5), .int .i64 (ServM.aTi x hi 5), .int .i64 (ServM.aTg x hi 5), .int .i64 0, .int .i64 x.k, .bool false], .nilIface]) ∧ SStep w1.heap.size w w' s F ({ x with L := x.L ++ [(0, x.k)], k := x.k + 1 })) := hide (fun w h0 => by
                  have q := shello_any hi 5 w (unhide GX) h0
                  rw [e1, e2, e3, e4, errV_zero rfl, e6] at q
                  subst hie
                  exact q)
                have GX9 := hide (ServM.next_good (h := hi) (now := 5) (unhide GX))
                rw [e6] at GX9
                generalize ServM.aEp x hi 5 = aE at CH
                generalize ServM.aAd x hi 5 = aA at CH
                generalize ServM.aTi x hi 5 = aT at CH
                generalize ServM.aTg x hi 5 = aG at CH
                have x0 := (unhide GX).k0
                clear e1 e2 e3 e4 e6 hie
                have hbad : ConnM.bad 0 x.k = 0 := ConnM.bad_zero.2 (by omega)
                have CQ := hide (fun w => cnumber_any 0 x.k w)
                rw [hbad, ConnM.told_zero rfl, errV_zero rfl] at CQ
                have CR := hide (fun w => rof_any sec 0 x.k w)
                rw [ResetM.err_key hsec, ConnM.told_pos (by omega), errV_pos (by omega)] at CR
                have KI9 := hide ((unhide KI).more (t := 0) x0 (fun q => by rw [hsec] at q; cases q))
                have HU := hide (fun (j : Nat) hj => (unhide KI).number (j := j) x0 hj)
                have tin : 0 ≤ ConnM.turn (4096 * 0 + x.k) ∧ ConnM.turn (4096 * 0 + x.k) ≤ 65535 := ⟨ConnM.turn_lo _, ConnM.turn_hi (by omega)⟩
                have ttn : ConnM.turn (ConnM.turn (4096 * 0 + x.k)) / 4096 = 0 := by rw [ConnM.turn_turn (by omega)]; omega
                have CO := hide (fun w => croute_any (ConnM.turn (4096 * 0 + x.k)) shards w)
                rw [ttn, Int.zero_emod] at CO
                rw [ConnM.route_one.2 (by omega), ConnM.told_pos (by omega), errV_pos (by omega)] at CO
                clear hbad ttn tin
                generalize ConnM.turn (4096 * 0 + x.k) = tn at CQ CO HU KI9
                go_wp2_with fail
                refine (unhide CH _ (unhide HS)).mono ?_
                rintro e w6 ⟨rfl, hs6⟩
                have HB6 : Hid (Below w.heap.size w w6) := hide (hs6.below0 (unhide HS) (unhide HB) (unhide HB).size zB)
                obtain ⟨F6, own6, lk6⟩ := hs6
                have HS6 := hide own6
                have HR6 := hide ((unhide HR).step lk6)
                clear own6 lk6 dx CH HS HR HB
                go_wp2_with fail
                have HA7 : Hid (Held (w6.alloc (.cells #[.int .i64 1, .int .i64 aE, .int .i64 aA, .int .i64 aT, .int .i64 aG, .int .i64 0, .int .i64 x.k, .bool false] 37)) w6.heap.size (na 1 aE aA aT aG x.k false)) := hide (Held.fresh (w := w6) (na 1 aE aA aT aG x.k false) 37 rfl)
                have HS7 := hide ((unhide HS6).alloc (.cells #[.int .i64 1, .int .i64 aE, .int .i64 aA, .int .i64 aT, .int .i64 aG, .int .i64 0, .int .i64 x.k, .bool false] 37))
                have HR7 := hide ((unhide HR6).later (below_alloc (Below.refl _ _) (.cells #[.int .i64 1, .int .i64 aE, .int .i64 aA, .int .i64 aT, .int .i64 aG, .int .i64 0, .int .i64 x.k, .bool false] 37)))
                have HB7 : Hid (Below w.heap.size w (w6.alloc (.cells #[.int .i64 1, .int .i64 aE, .int .i64 aA, .int .i64 aT, .int .i64 aG, .int .i64 0, .int .i64 x.k, .bool false] 37))) := hide (below_alloc (unhide HB6) _)
                generalize (w6.alloc (.cells #[.int .i64 1, .int .i64 aE, .int .i64 aA, .int .i64 aT, .int .i64 aG, .int .i64 0, .int .i64 x.k, .bool false] 37)) = w7 at HA7 HS7 HR7 HB7 ⊢
                generalize w6.heap.size = ba at HA7 ⊢
                clear HS6 HR6 HB6
                refine (unhide CQ _).mono ?_
                rintro e w8 ⟨rfl, hb8⟩
                have HA8 := hide ((unhide HA7).later hb8)
                have HS8 := hide ((unhide HS7).later hb8)
                have HR8 := hide ((unhide HR7).later hb8)
                have HB8 : Hid (Below w.heap.size w w8) := hide (bel3 (unhide HB7) (Below.refl _ _) hb8)
                clear hb8 HA7 HS7 HR7 HB7
                obtain ⟨⟨u0, u1, u2, u3, u4, u5, u6, u7⟩, -⟩ := (unhide HA8).c8
                have ul := (unhide HA8).2
                go_wp2_with fail
                refine (unhide CR _).mono ?_
                rintro e w9 ⟨rfl, hb9⟩
                clear u0 u1 u2 u3 u4 u5 u6 u7 ul
                have HA9 := hide ((unhide HA8).later hb9)
                have HS9 := hide ((unhide HS8).later hb9)
                have HR9 := hide ((unhide HR8).later hb9)
                have HB9 : Hid (Below w.heap.size w w9) := hide (bel3 (unhide HB8) (Below.refl _ _) hb9)
                clear hb9 HA8 HS8 HR8 HB8
                go_wp2_with fail
                refine (unhide CO _).mono ?_
                rintro e w10 ⟨rfl, hb10⟩
                have HA10 := hide ((unhide HA9).later hb10)
                have HS10 := hide ((unhide HS9).later hb10)
                have HR10 := hide ((unhide HR9).later hb10)
                have HB10 : Hid (Below w.heap.size w w10) := hide (bel3 (unhide HB9) (Below.refl _ _) hb10)
                clear hb10 HA9 HS9 HR9 HB9
                obtain ⟨rr1, rr2, -, -⟩ := unhide HR10
                have HIN := hide (own_ints1 rr1 (by omega))
                have HIT := hide (own_ints1 rr2 (by have := unhide HTN; omega))
                clear rr1 rr2
                go_wp2
                go_loop [23] (fun i => ∃ j : Nat, j ≤ Ns.length ∧ i = .int .i64 j) (fun i => Ns.length - (intOf i).toNat)
                case atStart => exact ⟨0, Nat.zero_le _, rfl⟩
                case round =>
                  obtain ⟨j, hj, rfl⟩ := hrel
                  by_cases hjm : (j : Int) < (Ns.length : Int)
                  · obtain ⟨gg, og, rfl, hcj⟩ := (unhide HIN).2 j (by omega)
                    have hu := unhide HU j (by omega)
                    generalize Ns.getD j 0 = y at hcj hu
                    have hu2 : (y == tn) = false := by simp [hu]
                    have hj0 : (0 : Int) ≤ (j : Int) := by omega
                    go_wp2
                    go_round
                    case rel => exact ⟨j + 1, by omega, by go_num⟩
                    case measure => simp [intOf]; omega
                  · obtain rfl : j = Ns.length := by omega
                    go_wp2_with (at_builtin; refine wpList_append_lies _ rfl _ _ 22 rfl w.heap.size 3 i0 (.int .i64 0) 1 8 Try.underlying22 hi0 hz0 hz1 hz2 rfl (by decide) (.slice a1 Ns.length c1) Ns.length (Ns.map (Value.int .i64)) rfl ((unhide HR10).1.alloc _) ⟨w10.heap.size, 0, none⟩ 1 1 [.int .i64 tn] rfl rfl ?q13c1 ?q13c2 (by omega) ?q13c3 ?q13c4 ?q13c5 (w10.heap.size + 1) ?q13c6 ?_)
                    try (case q13c1 => exact World.news_of_block (cs := #[.int .i64 tn]) (t := 3) (fr := (0, 0)) (heap_alloc_new w10 _))
                    try (case q13c2 => first | exact ints_one [tn] | rfl)
                    try (case q13c3 => (unfold maxLen; have := unhide HTN; omega))
                    try (case q13c4 => (have := unhide HTN; omega))
                    try (case q13c5 => (have := (unhide HB10).size; first | omega | (simp; omega)))
                    try (case q13c6 => simp)
                    intro g11 cap11 w11 ho hg hat hlt
                    obtain ⟨HRx, hkx⟩ := (unhide HR10).snoc1 (fun k hk => ((unhide HS10).all k hk).2) ho hg hat
                    have HR11 := hide HRx
                    have HS11 := hide ((unhide HS10).kept hkx (fun k hk hm => ((unhide HR10).2.2.1 k (by simpa using hm)).1 hk))
                    have HB11 : Hid (Below w.heap.size w w11) := hide (hkx.below (unhide HB10) (unhide HB10).size (fun k hk => ((unhide HR10).1.lt k (by simpa using hk)).1))
                    have lN : (Ns ++ [tn]).length = Ns.length + 1 := by simp
                    clear HRx hkx ho hg hat hlt HR10 HS10 HB10 HA10 HIN HIT HU
                    go_wp2_with (at_builtin; refine wpList_append_lies _ rfl _ _ 22 rfl w.heap.size 3 i0 (.int .i64 0) 1 8 Try.underlying22 hi0 hz0 hz1 hz2 rfl (by decide) (.slice a2 Ts.length c2) Ts.length (Ts.map (Value.int .i64)) rfl ((unhide HR11).2.1.alloc _) ⟨w11.heap.size, 0, none⟩ 1 1 [.int .i64 0] rfl rfl ?q14c1 ?q14c2 (by omega) ?q14c3 ?q14c4 ?q14c5 (w11.heap.size + 1) ?q14c6 ?_)
                    try (case q14c1 => exact World.news_of_block (cs := #[.int .i64 0]) (t := 3) (fr := (0, 0)) (heap_alloc_new w11 _))
                    try (case q14c2 => first | exact ints_one [0] | rfl)
                    try (case q14c3 => (unfold maxLen; have := unhide HTN; omega))
                    try (case q14c4 => (have := unhide HTN; omega))
                    try (case q14c5 => (have := (unhide HB11).size; first | omega | (simp; omega)))
                    try (case q14c6 => simp)
                    intro g12 cap12 w12 ho hg hat hlt
                    obtain ⟨HRx, hkx⟩ := (unhide HR11).snoc2 (fun k hk => ((unhide HS11).all k hk).2) ho hg hat
                    have HR12 := hide HRx
                    have HS12 := hide ((unhide HS11).kept hkx (fun k hk hm => (unhide HR11).2.2.2 k (by simpa using hm) hk))
                    have HB12 : Hid (Below w.heap.size w w12) := hide (hkx.below (unhide HB11) (unhide HB11).size (fun k hk => ((unhide HR11).2.1.lt k (by simpa using hk)).1))
                    clear HRx hkx ho hg hat hlt HR11 HS11 HB11
                    go_wp2
                    go_roundw
                    case rel => exact ⟨k + 1, _, _, (Ns ++ [tn]), (Ts ++ [0]), F6, _, by omega, rfl, rfl, by go_num, by first | omega | (simp; omega), GX9, KI9, HS12, HR12, HB12⟩
                    case measure => simp [intOf]; omega
              · by_cases s3 : 16 < shards
                · have s4 : ¬ shards ≤ 16 := by omega
                  have s1 : 1 ≤ shards := by omega
                  have CH : Hid (∀ w : World, SOwn w1.heap.size w s F x → Calls Try.prog 8 #[.pointer (some ⟨s, 0, none⟩), .agg #[.int .i64 ad, .int .i64 0, .int .i64 0, .int .i64 0, .int .i64 0, .int .i64 0, .int .i64 0, .int .i64 0, .int .i64 0, .string ⟨#[]⟩], .int .i64 5] w fun e w' => e = .returned (.tuple #[.agg #[.int .i64 1, .int .i64 (ServM.aEp x hi 5), .int .i64 (ServM.aAd x hi 5), .int .i64 (ServM.aTi x hi 5), .int .i64 (ServM.aTg x hi 5), .int .i64 0, .int .i64 x.k, .bool false], .nilIface]) ∧ SStep w1.heap.size w w' s F ({ x with L := x.L ++ [(0, x.k)], k := x.k + 1 })) := hide (fun w h0 => by
                    have q := shello_any hi 5 w (unhide GX) h0
                    rw [e1, e2, e3, e4, errV_zero rfl, e6] at q
                    subst hie
                    exact q)
                  have GX9 := hide (ServM.next_good (h := hi) (now := 5) (unhide GX))
                  rw [e6] at GX9
                  generalize ServM.aEp x hi 5 = aE at CH
                  generalize ServM.aAd x hi 5 = aA at CH
                  generalize ServM.aTi x hi 5 = aT at CH
                  generalize ServM.aTg x hi 5 = aG at CH
                  have x0 := (unhide GX).k0
                  clear e1 e2 e3 e4 e6 hie
                  have hbad : ConnM.bad 0 x.k = 0 := ConnM.bad_zero.2 (by omega)
                  have CQ := hide (fun w => cnumber_any 0 x.k w)
                  rw [hbad, ConnM.told_zero rfl, errV_zero rfl] at CQ
                  have CR := hide (fun w => rof_any sec 0 x.k w)
                  rw [ResetM.err_key hsec, ConnM.told_pos (by omega), errV_pos (by omega)] at CR
                  have KI9 := hide ((unhide KI).more (t := 0) x0 (fun q => by rw [hsec] at q; cases q))
                  have HU := hide (fun (j : Nat) hj => (unhide KI).number (j := j) x0 hj)
                  have tin : 0 ≤ ConnM.turn (4096 * 0 + x.k) ∧ ConnM.turn (4096 * 0 + x.k) ≤ 65535 := ⟨ConnM.turn_lo _, ConnM.turn_hi (by omega)⟩
                  have ttn : ConnM.turn (ConnM.turn (4096 * 0 + x.k)) / 4096 = 0 := by rw [ConnM.turn_turn (by omega)]; omega
                  have CO := hide (fun w => croute_any (ConnM.turn (4096 * 0 + x.k)) shards w)
                  rw [ttn, Int.zero_emod] at CO
                  rw [ConnM.route_one.2 (by omega), ConnM.told_pos (by omega), errV_pos (by omega)] at CO
                  clear hbad ttn tin
                  generalize ConnM.turn (4096 * 0 + x.k) = tn at CQ CO HU KI9
                  go_wp2_with fail
                  refine (unhide CH _ (unhide HS)).mono ?_
                  rintro e w6 ⟨rfl, hs6⟩
                  have HB6 : Hid (Below w.heap.size w w6) := hide (hs6.below0 (unhide HS) (unhide HB) (unhide HB).size zB)
                  obtain ⟨F6, own6, lk6⟩ := hs6
                  have HS6 := hide own6
                  have HR6 := hide ((unhide HR).step lk6)
                  clear own6 lk6 dx CH HS HR HB
                  go_wp2_with fail
                  have HA7 : Hid (Held (w6.alloc (.cells #[.int .i64 1, .int .i64 aE, .int .i64 aA, .int .i64 aT, .int .i64 aG, .int .i64 0, .int .i64 x.k, .bool false] 37)) w6.heap.size (na 1 aE aA aT aG x.k false)) := hide (Held.fresh (w := w6) (na 1 aE aA aT aG x.k false) 37 rfl)
                  have HS7 := hide ((unhide HS6).alloc (.cells #[.int .i64 1, .int .i64 aE, .int .i64 aA, .int .i64 aT, .int .i64 aG, .int .i64 0, .int .i64 x.k, .bool false] 37))
                  have HR7 := hide ((unhide HR6).later (below_alloc (Below.refl _ _) (.cells #[.int .i64 1, .int .i64 aE, .int .i64 aA, .int .i64 aT, .int .i64 aG, .int .i64 0, .int .i64 x.k, .bool false] 37)))
                  have HB7 : Hid (Below w.heap.size w (w6.alloc (.cells #[.int .i64 1, .int .i64 aE, .int .i64 aA, .int .i64 aT, .int .i64 aG, .int .i64 0, .int .i64 x.k, .bool false] 37))) := hide (below_alloc (unhide HB6) _)
                  generalize (w6.alloc (.cells #[.int .i64 1, .int .i64 aE, .int .i64 aA, .int .i64 aT, .int .i64 aG, .int .i64 0, .int .i64 x.k, .bool false] 37)) = w7 at HA7 HS7 HR7 HB7 ⊢
                  generalize w6.heap.size = ba at HA7 ⊢
                  clear HS6 HR6 HB6
                  refine (unhide CQ _).mono ?_
                  rintro e w8 ⟨rfl, hb8⟩
                  have HA8 := hide ((unhide HA7).later hb8)
                  have HS8 := hide ((unhide HS7).later hb8)
                  have HR8 := hide ((unhide HR7).later hb8)
                  have HB8 : Hid (Below w.heap.size w w8) := hide (bel3 (unhide HB7) (Below.refl _ _) hb8)
                  clear hb8 HA7 HS7 HR7 HB7
                  obtain ⟨⟨u0, u1, u2, u3, u4, u5, u6, u7⟩, -⟩ := (unhide HA8).c8
                  have ul := (unhide HA8).2
                  go_wp2_with fail
                  refine (unhide CR _).mono ?_
                  rintro e w9 ⟨rfl, hb9⟩
                  clear u0 u1 u2 u3 u4 u5 u6 u7 ul
                  have HA9 := hide ((unhide HA8).later hb9)
                  have HS9 := hide ((unhide HS8).later hb9)
                  have HR9 := hide ((unhide HR8).later hb9)
                  have HB9 : Hid (Below w.heap.size w w9) := hide (bel3 (unhide HB8) (Below.refl _ _) hb9)
                  clear hb9 HA8 HS8 HR8 HB8
                  go_wp2_with fail
                  refine (unhide CO _).mono ?_
                  rintro e w10 ⟨rfl, hb10⟩
                  have HA10 := hide ((unhide HA9).later hb10)
                  have HS10 := hide ((unhide HS9).later hb10)
                  have HR10 := hide ((unhide HR9).later hb10)
                  have HB10 : Hid (Below w.heap.size w w10) := hide (bel3 (unhide HB9) (Below.refl _ _) hb10)
                  clear hb10 HA9 HS9 HR9 HB9
                  obtain ⟨rr1, rr2, -, -⟩ := unhide HR10
                  have HIN := hide (own_ints1 rr1 (by omega))
                  have HIT := hide (own_ints1 rr2 (by have := unhide HTN; omega))
                  clear rr1 rr2
                  go_wp2
                  go_loop [23] (fun i => ∃ j : Nat, j ≤ Ns.length ∧ i = .int .i64 j) (fun i => Ns.length - (intOf i).toNat)
                  case atStart => exact ⟨0, Nat.zero_le _, rfl⟩
                  case round =>
                    obtain ⟨j, hj, rfl⟩ := hrel
                    by_cases hjm : (j : Int) < (Ns.length : Int)
                    · obtain ⟨gg, og, rfl, hcj⟩ := (unhide HIN).2 j (by omega)
                      have hu := unhide HU j (by omega)
                      generalize Ns.getD j 0 = y at hcj hu
                      have hu2 : (y == tn) = false := by simp [hu]
                      have hj0 : (0 : Int) ≤ (j : Int) := by omega
                      go_wp2
                      go_round
                      case rel => exact ⟨j + 1, by omega, by go_num⟩
                      case measure => simp [intOf]; omega
                    · obtain rfl : j = Ns.length := by omega
                      go_wp2_with (at_builtin; refine wpList_append_lies _ rfl _ _ 22 rfl w.heap.size 3 i0 (.int .i64 0) 1 8 Try.underlying22 hi0 hz0 hz1 hz2 rfl (by decide) (.slice a1 Ns.length c1) Ns.length (Ns.map (Value.int .i64)) rfl ((unhide HR10).1.alloc _) ⟨w10.heap.size, 0, none⟩ 1 1 [.int .i64 tn] rfl rfl ?q15c1 ?q15c2 (by omega) ?q15c3 ?q15c4 ?q15c5 (w10.heap.size + 1) ?q15c6 ?_)
                      try (case q15c1 => exact World.news_of_block (cs := #[.int .i64 tn]) (t := 3) (fr := (0, 0)) (heap_alloc_new w10 _))
                      try (case q15c2 => first | exact ints_one [tn] | rfl)
                      try (case q15c3 => (unfold maxLen; have := unhide HTN; omega))
                      try (case q15c4 => (have := unhide HTN; omega))
                      try (case q15c5 => (have := (unhide HB10).size; first | omega | (simp; omega)))
                      try (case q15c6 => simp)
                      intro g11 cap11 w11 ho hg hat hlt
                      obtain ⟨HRx, hkx⟩ := (unhide HR10).snoc1 (fun k hk => ((unhide HS10).all k hk).2) ho hg hat
                      have HR11 := hide HRx
                      have HS11 := hide ((unhide HS10).kept hkx (fun k hk hm => ((unhide HR10).2.2.1 k (by simpa using hm)).1 hk))
                      have HB11 : Hid (Below w.heap.size w w11) := hide (hkx.below (unhide HB10) (unhide HB10).size (fun k hk => ((unhide HR10).1.lt k (by simpa using hk)).1))
                      have lN : (Ns ++ [tn]).length = Ns.length + 1 := by simp
                      clear HRx hkx ho hg hat hlt HR10 HS10 HB10 HA10 HIN HIT HU
                      go_wp2_with (at_builtin; refine wpList_append_lies _ rfl _ _ 22 rfl w.heap.size 3 i0 (.int .i64 0) 1 8 Try.underlying22 hi0 hz0 hz1 hz2 rfl (by decide) (.slice a2 Ts.length c2) Ts.length (Ts.map (Value.int .i64)) rfl ((unhide HR11).2.1.alloc _) ⟨w11.heap.size, 0, none⟩ 1 1 [.int .i64 0] rfl rfl ?q16c1 ?q16c2 (by omega) ?q16c3 ?q16c4 ?q16c5 (w11.heap.size + 1) ?q16c6 ?_)
                      try (case q16c1 => exact World.news_of_block (cs := #[.int .i64 0]) (t := 3) (fr := (0, 0)) (heap_alloc_new w11 _))
                      try (case q16c2 => first | exact ints_one [0] | rfl)
                      try (case q16c3 => (unfold maxLen; have := unhide HTN; omega))
                      try (case q16c4 => (have := unhide HTN; omega))
                      try (case q16c5 => (have := (unhide HB11).size; first | omega | (simp; omega)))
                      try (case q16c6 => simp)
                      intro g12 cap12 w12 ho hg hat hlt
                      obtain ⟨HRx, hkx⟩ := (unhide HR11).snoc2 (fun k hk => ((unhide HS11).all k hk).2) ho hg hat
                      have HR12 := hide HRx
                      have HS12 := hide ((unhide HS11).kept hkx (fun k hk hm => (unhide HR11).2.2.2 k (by simpa using hm) hk))
                      have HB12 : Hid (Below w.heap.size w w12) := hide (hkx.below (unhide HB11) (unhide HB11).size (fun k hk => ((unhide HR11).2.1.lt k (by simpa using hk)).1))
                      clear HRx hkx ho hg hat hlt HR11 HS11 HB11
                      go_wp2
                      go_roundw
                      case rel => exact ⟨k + 1, _, _, (Ns ++ [tn]), (Ts ++ [0]), F6, _, by omega, rfl, rfl, by go_num, by first | omega | (simp; omega), GX9, KI9, HS12, HR12, HB12⟩
                      case measure => simp [intOf]; omega
                · have s1 : 1 ≤ shards := by omega
                  have s2 : shards ≤ 16 := by omega
                  have CH : Hid (∀ w : World, SOwn w1.heap.size w s F x → Calls Try.prog 8 #[.pointer (some ⟨s, 0, none⟩), .agg #[.int .i64 ad, .int .i64 0, .int .i64 0, .int .i64 0, .int .i64 0, .int .i64 0, .int .i64 0, .int .i64 0, .int .i64 0, .string ⟨#[]⟩], .int .i64 5] w fun e w' => e = .returned (.tuple #[.agg #[.int .i64 1, .int .i64 (ServM.aEp x hi 5), .int .i64 (ServM.aAd x hi 5), .int .i64 (ServM.aTi x hi 5), .int .i64 (ServM.aTg x hi 5), .int .i64 0, .int .i64 x.k, .bool false], .nilIface]) ∧ SStep w1.heap.size w w' s F ({ x with L := x.L ++ [(0, x.k)], k := x.k + 1 })) := hide (fun w h0 => by
                    have q := shello_any hi 5 w (unhide GX) h0
                    rw [e1, e2, e3, e4, errV_zero rfl, e6] at q
                    subst hie
                    exact q)
                  have GX9 := hide (ServM.next_good (h := hi) (now := 5) (unhide GX))
                  rw [e6] at GX9
                  generalize ServM.aEp x hi 5 = aE at CH
                  generalize ServM.aAd x hi 5 = aA at CH
                  generalize ServM.aTi x hi 5 = aT at CH
                  generalize ServM.aTg x hi 5 = aG at CH
                  have x0 := (unhide GX).k0
                  clear e1 e2 e3 e4 e6 hie
                  have hbad : ConnM.bad 0 x.k = 0 := ConnM.bad_zero.2 (by omega)
                  have CQ := hide (fun w => cnumber_any 0 x.k w)
                  rw [hbad, ConnM.told_zero rfl, errV_zero rfl] at CQ
                  have CR := hide (fun w => rof_any sec 0 x.k w)
                  rw [ResetM.err_key hsec, ConnM.told_pos (by omega), errV_pos (by omega)] at CR
                  have KI9 := hide ((unhide KI).more (t := 0) x0 (fun q => by rw [hsec] at q; cases q))
                  have HU := hide (fun (j : Nat) hj => (unhide KI).number (j := j) x0 hj)
                  have tin : 0 ≤ ConnM.turn (4096 * 0 + x.k) ∧ ConnM.turn (4096 * 0 + x.k) ≤ 65535 := ⟨ConnM.turn_lo _, ConnM.turn_hi (by omega)⟩
                  have ttn : ConnM.turn (ConnM.turn (4096 * 0 + x.k)) / 4096 = 0 := by rw [ConnM.turn_turn (by omega)]; omega
                  have CO := hide (fun w => croute_any (ConnM.turn (4096 * 0 + x.k)) shards w)
                  rw [ttn, Int.zero_emod] at CO
                  rw [ConnM.route_zero.2 ⟨tin, by omega⟩, ConnM.told_zero rfl, errV_zero rfl] at CO
                  clear hbad ttn tin
                  generalize ConnM.turn (4096 * 0 + x.k) = tn at CQ CO HU KI9
                  go_wp2_with fail
                  refine (unhide CH _ (unhide HS)).mono ?_
                  rintro e w6 ⟨rfl, hs6⟩
                  have HB6 : Hid (Below w.heap.size w w6) := hide (hs6.below0 (unhide HS) (unhide HB) (unhide HB).size zB)
                  obtain ⟨F6, own6, lk6⟩ := hs6
                  have HS6 := hide own6
                  have HR6 := hide ((unhide HR).step lk6)
                  clear own6 lk6 dx CH HS HR HB
                  go_wp2_with fail
                  have HA7 : Hid (Held (w6.alloc (.cells #[.int .i64 1, .int .i64 aE, .int .i64 aA, .int .i64 aT, .int .i64 aG, .int .i64 0, .int .i64 x.k, .bool false] 37)) w6.heap.size (na 1 aE aA aT aG x.k false)) := hide (Held.fresh (w := w6) (na 1 aE aA aT aG x.k false) 37 rfl)
                  have HS7 := hide ((unhide HS6).alloc (.cells #[.int .i64 1, .int .i64 aE, .int .i64 aA, .int .i64 aT, .int .i64 aG, .int .i64 0, .int .i64 x.k, .bool false] 37))
                  have HR7 := hide ((unhide HR6).later (below_alloc (Below.refl _ _) (.cells #[.int .i64 1, .int .i64 aE, .int .i64 aA, .int .i64 aT, .int .i64 aG, .int .i64 0, .int .i64 x.k, .bool false] 37)))
                  have HB7 : Hid (Below w.heap.size w (w6.alloc (.cells #[.int .i64 1, .int .i64 aE, .int .i64 aA, .int .i64 aT, .int .i64 aG, .int .i64 0, .int .i64 x.k, .bool false] 37))) := hide (below_alloc (unhide HB6) _)
                  generalize (w6.alloc (.cells #[.int .i64 1, .int .i64 aE, .int .i64 aA, .int .i64 aT, .int .i64 aG, .int .i64 0, .int .i64 x.k, .bool false] 37)) = w7 at HA7 HS7 HR7 HB7 ⊢
                  generalize w6.heap.size = ba at HA7 ⊢
                  clear HS6 HR6 HB6
                  refine (unhide CQ _).mono ?_
                  rintro e w8 ⟨rfl, hb8⟩
                  have HA8 := hide ((unhide HA7).later hb8)
                  have HS8 := hide ((unhide HS7).later hb8)
                  have HR8 := hide ((unhide HR7).later hb8)
                  have HB8 : Hid (Below w.heap.size w w8) := hide (bel3 (unhide HB7) (Below.refl _ _) hb8)
                  clear hb8 HA7 HS7 HR7 HB7
                  obtain ⟨⟨u0, u1, u2, u3, u4, u5, u6, u7⟩, -⟩ := (unhide HA8).c8
                  have ul := (unhide HA8).2
                  go_wp2_with fail
                  refine (unhide CR _).mono ?_
                  rintro e w9 ⟨rfl, hb9⟩
                  clear u0 u1 u2 u3 u4 u5 u6 u7 ul
                  have HA9 := hide ((unhide HA8).later hb9)
                  have HS9 := hide ((unhide HS8).later hb9)
                  have HR9 := hide ((unhide HR8).later hb9)
                  have HB9 : Hid (Below w.heap.size w w9) := hide (bel3 (unhide HB8) (Below.refl _ _) hb9)
                  clear hb9 HA8 HS8 HR8 HB8
                  go_wp2_with fail
                  refine (unhide CO _).mono ?_
                  rintro e w10 ⟨rfl, hb10⟩
                  have HA10 := hide ((unhide HA9).later hb10)
                  have HS10 := hide ((unhide HS9).later hb10)
                  have HR10 := hide ((unhide HR9).later hb10)
                  have HB10 : Hid (Below w.heap.size w w10) := hide (bel3 (unhide HB9) (Below.refl _ _) hb10)
                  clear hb10 HA9 HS9 HR9 HB9
                  obtain ⟨rr1, rr2, -, -⟩ := unhide HR10
                  have HIN := hide (own_ints1 rr1 (by omega))
                  have HIT := hide (own_ints1 rr2 (by have := unhide HTN; omega))
                  clear rr1 rr2
                  go_wp2
                  go_loop [23] (fun i => ∃ j : Nat, j ≤ Ns.length ∧ i = .int .i64 j) (fun i => Ns.length - (intOf i).toNat)
                  case atStart => exact ⟨0, Nat.zero_le _, rfl⟩
                  case round =>
                    obtain ⟨j, hj, rfl⟩ := hrel
                    by_cases hjm : (j : Int) < (Ns.length : Int)
                    · obtain ⟨gg, og, rfl, hcj⟩ := (unhide HIN).2 j (by omega)
                      have hu := unhide HU j (by omega)
                      generalize Ns.getD j 0 = y at hcj hu
                      have hu2 : (y == tn) = false := by simp [hu]
                      have hj0 : (0 : Int) ≤ (j : Int) := by omega
                      go_wp2
                      go_round
                      case rel => exact ⟨j + 1, by omega, by go_num⟩
                      case measure => simp [intOf]; omega
                    · obtain rfl : j = Ns.length := by omega
                      go_wp2_with (at_builtin; refine wpList_append_lies _ rfl _ _ 22 rfl w.heap.size 3 i0 (.int .i64 0) 1 8 Try.underlying22 hi0 hz0 hz1 hz2 rfl (by decide) (.slice a1 Ns.length c1) Ns.length (Ns.map (Value.int .i64)) rfl ((unhide HR10).1.alloc _) ⟨w10.heap.size, 0, none⟩ 1 1 [.int .i64 tn] rfl rfl ?q17c1 ?q17c2 (by omega) ?q17c3 ?q17c4 ?q17c5 (w10.heap.size + 1) ?q17c6 ?_)
                      try (case q17c1 => exact World.news_of_block (cs := #[.int .i64 tn]) (t := 3) (fr := (0, 0)) (heap_alloc_new w10 _))
                      try (case q17c2 => first | exact ints_one [tn] | rfl)
                      try (case q17c3 => (unfold maxLen; have := unhide HTN; omega))
                      try (case q17c4 => (have := unhide HTN; omega))
                      try (case q17c5 => (have := (unhide HB10).size; first | omega | (simp; omega)))
                      try (case q17c6 => simp)
                      intro g11 cap11 w11 ho hg hat hlt
                      obtain ⟨HRx, hkx⟩ := (unhide HR10).snoc1 (fun k hk => ((unhide HS10).all k hk).2) ho hg hat
                      have HR11 := hide HRx
                      have HS11 := hide ((unhide HS10).kept hkx (fun k hk hm => ((unhide HR10).2.2.1 k (by simpa using hm)).1 hk))
                      have HB11 : Hid (Below w.heap.size w w11) := hide (hkx.below (unhide HB10) (unhide HB10).size (fun k hk => ((unhide HR10).1.lt k (by simpa using hk)).1))
                      have lN : (Ns ++ [tn]).length = Ns.length + 1 := by simp
                      clear HRx hkx ho hg hat hlt HR10 HS10 HB10 HA10 HIN HIT HU
                      go_wp2_with (at_builtin; refine wpList_append_lies _ rfl _ _ 22 rfl w.heap.size 3 i0 (.int .i64 0) 1 8 Try.underlying22 hi0 hz0 hz1 hz2 rfl (by decide) (.slice a2 Ts.length c2) Ts.length (Ts.map (Value.int .i64)) rfl ((unhide HR11).2.1.alloc _) ⟨w11.heap.size, 0, none⟩ 1 1 [.int .i64 0] rfl rfl ?q18c1 ?q18c2 (by omega) ?q18c3 ?q18c4 ?q18c5 (w11.heap.size + 1) ?q18c6 ?_)
                      try (case q18c1 => exact World.news_of_block (cs := #[.int .i64 0]) (t := 3) (fr := (0, 0)) (heap_alloc_new w11 _))
                      try (case q18c2 => first | exact ints_one [0] | rfl)
                      try (case q18c3 => (unfold maxLen; have := unhide HTN; omega))
                      try (case q18c4 => (have := unhide HTN; omega))
                      try (case q18c5 => (have := (unhide HB11).size; first | omega | (simp; omega)))
                      try (case q18c6 => simp)
                      intro g12 cap12 w12 ho hg hat hlt
                      obtain ⟨HRx, hkx⟩ := (unhide HR11).snoc2 (fun k hk => ((unhide HS11).all k hk).2) ho hg hat
                      have HR12 := hide HRx
                      have HS12 := hide ((unhide HS11).kept hkx (fun k hk hm => (unhide HR11).2.2.2 k (by simpa using hm) hk))
                      have HB12 : Hid (Below w.heap.size w w12) := hide (hkx.below (unhide HB11) (unhide HB11).size (fun k hk => ((unhide HR11).2.1.lt k (by simpa using hk)).1))
                      clear HRx hkx ho hg hat hlt HR11 HS11 HB11
                      go_wp2
                      go_roundw
                      case rel => exact ⟨k + 1, _, _, (Ns ++ [tn]), (Ts ++ [0]), F6, _, by omega, rfl, rfl, by go_num, by first | omega | (simp; omega), GX9, KI9, HS12, HR12, HB12⟩
                      case measure => simp [intOf]; omega
      · go_wp2
        go_ret
        exact ⟨rfl, unhide HB⟩
    · go_wp2
      go_ret
      exact ⟨rfl, unhide HB⟩

theorem walk (seed sec : Int) (a : Option Addr) (len cap : Nat) (z : List Int) (shards : Int) (w : World) (_w0 : (Lit.int .i64 seed).wf = true) (_w1 : (Lit.int .i64 sec).wf = true) (w2 : IsRow .i64 w a len cap z) (_w3 : (Lit.int .i64 shards).wf = true) :
    Calls Try.prog 5 #[.int .i64 seed, .int .i64 sec, .slice a len cap, .int .i64 shards] w fun e w' => e = .returned (.bool true) ∧ Below w.heap.size w w' := by
  obtain ⟨zs, hlen, hI, _, _⟩ := row_ints rfl w2
  by_cases hs : seed < 0 ∨ 999983 ≤ seed
  · exact walk_seed seed sec a len cap shards w hs
  · exact walk1 seed sec a len cap zs shards w hlen hI (by omega) (by omega)


set_option maxRecDepth 100000 in
theorem lifted (os : Os) (started : os.Started) (H : Type) (enc : TypeId × Value → H) :
    ReturnsInHanded {} Try.checked os 5 .any (Rows.topKnownSpec.pre6 enc Try.prog Try.f5 Rows.topKnownRow.domain false) (Rows.topKnownSpec.post enc Try.prog Try.f5 false true false false) := by
  refine returnsInHanded_of_change (C := Try.checked) own started (by kernel_rfl) Try.func5
    (ChangeSpec.witness6 (enc := enc) (C := Try.checked) false ⟨#[], #[.int .i64 0, .int .i64 0, .slice none 0 0, .int .i64 0], []⟩ 8 (by kernel_rfl) (by kernel_rfl) (by kernel_rfl) (by kernel_rfl)) ?_
  intro W base args ds gs before hval0 hW hcnd _
  have hval : ∀ (j : Nat) t v, Try.f5.params[j]? = some t → args[j]? = some v → Value.okWide Try.prog W .any base t v := hval0
  have hW' := hW
  obtain ⟨p, q, hA0, hV, rfl, hfz, hnd⟩ := hW
  have hA : DataW.TrodAll enc Try.prog W 0 (fun _ => true) true Try.f5.params.toList args.toList ds p := hA0
  rw [Try.params5] at hA hval
  obtain ⟨v0, vs0, d0, ds0, p0, q0, hargs, rfl, rfl, h0, r0⟩ := trodAll_cons hA
  obtain ⟨v1, vs1, d1, ds1, p1, q1, rfl, rfl, rfl, h1, r1⟩ := trodAll_cons r0
  obtain ⟨v2, vs2, d2, ds2, p2, q2, rfl, rfl, rfl, h2, r2⟩ := trodAll_cons r1
  obtain ⟨v3, vs3, d3, ds3, p3, q3, rfl, rfl, rfl, h3, r3⟩ := trodAll_cons r2
  obtain ⟨rfl, rfl, rfl⟩ := trodAll_nil r3
  obtain rfl : args = #[v0, v1, v2, v3] := by cases args; simp_all
  obtain ⟨rfl, rfl⟩ := trodVars_none hV
  have k0 := h0
  have lt0 : ∀ x ∈ p0, x.block < W.heap.size := by obtain ⟨m, hm⟩ := k0; exact DataW.trod_lt m _ _ _ hm
  obtain ⟨a0, rfl, rfl, rfl, w0⟩ := open_int Try.underlying3 (hval 0 3 v0 rfl rfl) h0
  have k1 := h1
  have lt1 : ∀ x ∈ p1, x.block < W.heap.size := by obtain ⟨m, hm⟩ := k1; exact DataW.trod_lt m _ _ _ hm
  obtain ⟨a1, rfl, rfl, rfl, w1⟩ := open_int Try.underlying3 (hval 1 3 v1 rfl rfl) h1
  have k2 := h2
  have lt2 : ∀ x ∈ p2, x.block < W.heap.size := by obtain ⟨m, hm⟩ := k2; exact DataW.trod_lt m _ _ _ hm
  obtain ⟨a2, len2, cap2, rfl⟩ := okWide_slice Try.underlying22 (hval 2 22 v2 rfl rfl)
  obtain ⟨z2, w2⟩ : ∃ zs, IsRow .i64 W a2 len2 cap2 zs := by
    obtain ⟨fuel, hf⟩ := h2
    rcases open_ints Try.underlying22 Try.underlying3 (by kernel_rfl) hf with ⟨hcs, _⟩ | ⟨x, l, c, zs, hcs, _, hl, hm, hz, _, hcell, hwz⟩
    · simp [Value.cells] at hcs
      obtain ⟨rfl, rfl, rfl⟩ := hcs
      exact ⟨[], .inl ⟨rfl, rfl, rfl, rfl⟩⟩
    · simp [Value.cells] at hcs
      obtain ⟨rfl, rfl, rfl⟩ := hcs
      exact ⟨zs, .inr ⟨_, rfl, hl, hm, by simpa using hz, hcell, hwz⟩⟩
  have k3 := h3
  have lt3 : ∀ x ∈ p3, x.block < W.heap.size := by obtain ⟨m, hm⟩ := k3; exact DataW.trod_lt m _ _ _ hm
  obtain ⟨a3, rfl, rfl, rfl, w3⟩ := open_int Try.underlying3 (hval 3 3 v3 rfl rfl) h3
  clear hA0 hval0
  refine (walk a0 a1 a2 len2 cap2 z2 a3 W w0 w1 w2 w3).mono fun e W' ⟨he, bel⟩ => ?_
  subst he
  exact ⟨_, rfl, _, _, _, [], _, [], hW', trodAll_mk1 (shut_bool Try.underlying4 _), (trodAll_cons_mk (Below.trod laidOut (by kernel_rfl) (of_decide_eq_true (by kernel_rfl)) k0 bel lt0) (trodAll_cons_mk (Below.trod laidOut (by kernel_rfl) (of_decide_eq_true (by kernel_rfl)) k1 bel lt1) (trodAll_cons_mk (Below.trod laidOut (by kernel_rfl) (of_decide_eq_true (by kernel_rfl)) k2 bel lt2) (trodAll_cons_mk (Below.trod laidOut (by kernel_rfl) (of_decide_eq_true (by kernel_rfl)) k3 bel lt3) trodAll_mk0)))), rfl, bel.frame _, fun h => by cases h⟩

theorem over : Rows.topKnownRow.holds Try.pinned (OpenSpec.ofChange Rows.topKnownSpec) :=
  OpenClaim.holds_of_wide 5 Try.f5 rfl rfl rfl rfl rfl rfl rfl ⟨rfl, rfl, rfl, rfl, rfl⟩ rfl rfl rfl rfl rfl (by kernel_rfl) Try.func5 (by kernel_rfl)
    (of_decide_eq_true (by kernel_rfl)) (by unfold Func.isWrapper; first | (rw [if_pos (by decide +kernel)]; kernel_rfl) | (rw [if_neg (by decide +kernel)]; exact ⟨rfl, rfl⟩))
    (fun os started H enc _ => lifted os started H enc)

end Go.Proofs.Ytimilfnbbimipaj.topKnown
namespace Go.Proofs.Ytimilfnbbimipaj
theorem topKnown_holds : Rows.TopKnownSaid := topKnown.over
#print axioms topKnown_holds
end Go.Proofs.Ytimilfnbbimipaj

