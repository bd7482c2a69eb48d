/-
  ServerFirst holds for every seed, every life, every address and every time: who comes first is welcome, and is pulled first; what is out of its range is refused. No condition.
-/
import Derived.Test.YtimilfnbbimipajServerLaw
import Derived.ProofKit
import Derived.Lib.SmallJoins
namespace Go.Proofs.Ytimilfnbbimipaj.serverFirst
open Go.ChangeShapes Go.WideShapes Go.ChangeAt Go.RowKit Go.Joins
set_option linter.unusedVariables false

theorem own : ownKnob Try.prog.godebug = none := by kernel_rfl
theorem laidOut : laidOutB Try.prog = true := by kernel_rfl
def IsRow (k : IntKind) (w : World) (a : Option Addr) (len cap : Nat) (zs : List Int) : Prop :=
  (a = none ∧ len = 0 ∧ cap = 0 ∧ zs = []) ∨
  ∃ x, a = some x ∧ len ≤ cap ∧ cap ≤ maxLen ∧ zs.length = cap ∧ (∀ i, i < zs.length → w.cell? (x.add i) = some (.int k (zs.getD i 0))) ∧ ∀ n ∈ zs, (Lit.int k n).wf = true
def IsStrs (w : World) (a : Option Addr) (len cap : Nat) (zs : List ByteArray) : Prop :=
  (a = none ∧ len = 0 ∧ cap = 0 ∧ zs = []) ∨
  ∃ x, a = some x ∧ len ≤ cap ∧ cap ≤ maxLen ∧ zs.length = cap ∧ (∀ i, i < zs.length → w.cell? (x.add i) = some (.string (zs.getD i ByteArray.empty))) ∧ ∀ s ∈ zs, s.size ≤ maxLen
def IsPairs (w : World) (a : Option Addr) (len cap : Nat) (zs : List (Int × Int)) : Prop :=
  (a = none ∧ len = 0 ∧ cap = 0 ∧ zs = []) ∨
  ∃ x, a = some x ∧ len ≤ cap ∧ cap ≤ maxLen ∧ zs.length = cap ∧ ∀ i, i < cap → w.cell? (x.add (i * 2)) = some (.int .i64 (zs.getD i (0, 0)).1) ∧ w.cell? (x.add (i * 2 + 1)) = some (.int .i64 (zs.getD i (0, 0)).2)
def IsRows (w : World) (a : Option Addr) (len cap : Nat) (A : Nat → Option Addr) (L C : Nat → Nat) (Z : Nat → List Int) : Prop :=
  (a = none ∧ len = 0 ∧ cap = 0) ∨
  ∃ x, a = some x ∧ len ≤ cap ∧ cap ≤ maxLen ∧ ∀ r, r < cap → w.cell? (x.add r) = some (.slice (A r) (L r) (C r)) ∧ L r ≤ C r ∧ C r ≤ maxLen ∧ (Z r).length = C r ∧ (∀ n ∈ Z r, (Lit.int .i64 n).wf = true) ∧ (A r = none → C r = 0) ∧
    ∀ a', A r = some a' → ∀ c, c < C r → w.cell? (a'.add c) = some (.int .i64 ((Z r).getD c 0))

set_option linter.unusedVariables false

set_option maxHeartbeats 12800000 in
set_option maxRecDepth 8000 in
theorem walk_seed (seed long address now : Int) (w : World) (h : seed < 0 ∨ 999983 ≤ seed) :
    Calls Try.prog 4 #[.int .i64 seed, .int .i64 long, .int .i64 address, .int .i64 now] w fun e w' => e = .returned (.bool true) ∧ Below w.heap.size w w' := by
  have C := hide (fun w => snew_seed long w h)
  rcases h with h | h
  · go_enter Try.func4, Try.ntmps4
    go_wp2_with fail
    refine (unhide C _).mono ?_
    rintro e w1 ⟨rfl, hb1⟩
    have HB1 : Hid (Below w.heap.size w w1) := hide (bel3 (Below.refl w.heap.size w) (Below.refl _ _) hb1)
    clear hb1
    go_wp2
    go_ret
    exact ⟨rfl, unhide HB1⟩
  · have h0 : ¬ seed < 0 := by omega
    have h1 : 999982 < seed := by omega
    go_enter Try.func4, Try.ntmps4
    go_wp2_with fail
    refine (unhide C _).mono ?_
    rintro e w1 ⟨rfl, hb1⟩
    have HB1 : Hid (Below w.heap.size w w1) := hide (bel3 (Below.refl w.heap.size w) (Below.refl _ _) hb1)
    clear hb1
    go_wp2
    go_ret
    exact ⟨rfl, unhide HB1⟩

set_option maxHeartbeats 12800000 in
set_option maxRecDepth 8000 in
theorem walk_life (seed long address now : Int) (w : World) (h0 : 0 ≤ seed) (h1 : seed < 999983) (ht : TokenM.timeB long = false) :
    Calls Try.prog 4 #[.int .i64 seed, .int .i64 long, .int .i64 address, .int .i64 now] w fun e w' => e = .returned (.bool true) ∧ Below w.heap.size w w' := by
  have C := hide (fun w => snew_life w h0 h1 ht)
  have g0 : ¬ seed < 0 := by omega
  have g1 : ¬ 999982 < seed := by omega
  clear h0 h1
  rcases (TokenM.timeB_not long).1 ht with h | h
  · go_enter Try.func4, Try.ntmps4
    go_wp2_with fail
    refine (unhide C _).mono ?_
    rintro e w1 ⟨rfl, hb1⟩
    have HB1 : Hid (Below w.heap.size w w1) := hide (bel3 (Below.refl w.heap.size w) (Below.refl _ _) hb1)
    clear hb1
    go_wp2
    go_ret
    exact ⟨rfl, unhide HB1⟩
  · have h0 : ¬ long < 0 := by omega
    go_enter Try.func4, Try.ntmps4
    go_wp2_with fail
    refine (unhide C _).mono ?_
    rintro e w1 ⟨rfl, hb1⟩
    have HB1 : Hid (Below w.heap.size w w1) := hide (bel3 (Below.refl w.heap.size w) (Below.refl _ _) hb1)
    clear hb1
    go_wp2
    go_ret
    exact ⟨rfl, unhide HB1⟩

set_option maxHeartbeats 12800000 in
set_option maxRecDepth 8000 in
theorem walk_refused (seed long address now : Int) (w : World) (h0 : 0 ≤ seed) (h1 : seed < 999983) (ht : TokenM.timeB long = true) (ha : (TagM.inB address && TokenM.timeB now) = false) :
    Calls Try.prog 4 #[.int .i64 seed, .int .i64 long, .int .i64 address, .int .i64 now] w fun e w' => e = .returned (.bool true) ∧ Below w.heap.size w w' := by
  have good := ServM.new_good (seed := seed) ht
  have qa : ServM.ask (ServM.new seed long) ⟨address, 0, 0, 0, 0, 0, 0, 0, 0, ⟨#[]⟩⟩ now = 1 := JudgeM.ans_range good.ring (by
    show (TagM.inB address && TokenM.timeB now && TokenM.timeB long) = false
    rw [ha]; rfl)
  have hway : address < 0 ∨ (¬ address < 0 ∧ 999982 < address) ∨ (¬ address < 0 ∧ ¬ 999982 < address ∧ now < 0) ∨ (¬ address < 0 ∧ ¬ 999982 < address ∧ ¬ now < 0 ∧ 100000 < now) := by
    rcases Bool.and_eq_false_iff.1 ha with h | h
    · rcases (TagM.inB_not address).1 h with h | h <;> omega
    · rcases (TokenM.timeB_not now).1 h with h | h <;> omega
  clear ha
  rcases hway with g | ⟨g, g2⟩ | ⟨g, g2, g3⟩ | ⟨g, g2, g3, g4⟩
  · obtain ⟨e1, e2, e3, e4, e5, e6, e7, e8, e9⟩ := ServM.w_err (x := ServM.new seed long) (h := ⟨address, 0, 0, 0, 0, 0, 0, 0, 0, ⟨#[]⟩⟩) (now := now) (by rw [qa]; omega)
    have C : Hid (∀ (B s : Nat) (F : List Nat) (w : World), SOwn B w s F (ServM.new seed long) → Calls Try.prog 8 #[.pointer (some ⟨s, 0, none⟩), .agg #[.int .i64 address, .int .i64 0, .int .i64 0, .int .i64 0, .int .i64 0, .int .i64 0, .int .i64 0, .int .i64 0, .int .i64 0, .string ⟨#[]⟩], .int .i64 now] w fun e w' => e = .returned (.tuple #[.agg #[.int .i64 0, .int .i64 0, .int .i64 0, .int .i64 0, .int .i64 0, .int .i64 0, .int .i64 0, .bool false], .iface 59 (.int .i64 1)]) ∧ SStep B w w' s F (ServM.new seed long)) := hide (fun B s F w h0 => by
      have q := shello_any ⟨address, 0, 0, 0, 0, 0, 0, 0, 0, ⟨#[]⟩⟩ now w good h0
      rw [e1, e2, e3, e4, e5, e6, e7, e8, e9, qa, errV_pos (by omega)] at q
      exact q)
    have CW : Hid (∀ (B s : Nat) (F : List Nat) (w : World) (_ : SOwn B w s F (ServM.new seed long)), Calls Try.prog 13 #[.pointer (some ⟨s, 0, none⟩)] w fun e w' => e = .returned (.int .i64 0) ∧ Below w.heap.size w w') := hide (fun B s F w h => swait_any w h (show (0 : Nat) ≤ 8 by omega))
    clear qa
    clear good e1 e2 e3 e4 e5 e6 e7 e8 e9
    have CN := hide (fun w => snew_yes w h0 h1 ht)
    clear h0 h1 ht
    go_enter Try.func4, Try.ntmps4
    go_wp2_with fail
    refine (unhide CN _).mono ?_
    rintro e w1 ⟨s, F1, rfl, hs1, hb1⟩
    have HB1 : Hid (Below w.heap.size w w1) := hide (bel3 (Below.refl w.heap.size w) (Below.refl _ _) hb1)
    have HS1 := hide hs1
    clear hb1 hs1
    go_wp2_with fail
    refine (unhide C _ _ _ _ (unhide HS1)).mono ?_
    rintro e w2 ⟨rfl, hs2⟩
    have HB2 : Hid (Below w.heap.size w w2) := hide (hs2.below0 (unhide HS1) (unhide HB1) (unhide HB1).size (Nat.le_refl _))
    obtain ⟨F2, own2, lk2⟩ := hs2
    have HS2 := hide own2
    clear HS1 HB1 own2 lk2
    go_wp2_with fail
    have HA3 : Hid (Held (w2.alloc (.cells #[.int .i64 0, .int .i64 0, .int .i64 0, .int .i64 0, .int .i64 0, .int .i64 0, .int .i64 0, .bool false] 37)) w2.heap.size (na 0 0 0 0 0 0 false)) := hide (Held.fresh (w := w2) (na 0 0 0 0 0 0 false) 37 rfl)
    have HS3 := hide ((unhide HS2).alloc (.cells #[.int .i64 0, .int .i64 0, .int .i64 0, .int .i64 0, .int .i64 0, .int .i64 0, .int .i64 0, .bool false] 37))
    have HNA3 := hide ((unhide HS2).out (Nat.le_refl w2.heap.size))
    have HB3 : Hid (Below w.heap.size w (w2.alloc (.cells #[.int .i64 0, .int .i64 0, .int .i64 0, .int .i64 0, .int .i64 0, .int .i64 0, .int .i64 0, .bool false] 37))) := hide (below_alloc (unhide HB2) _)
    clear HS2 HB2
    generalize (w2.alloc (.cells #[.int .i64 0, .int .i64 0, .int .i64 0, .int .i64 0, .int .i64 0, .int .i64 0, .int .i64 0, .bool false] 37)) = w3 at HA3 HB3 HS3 ⊢
    generalize w2.heap.size = ba at HA3 HNA3 ⊢
    refine (unhide CW _ _ _ _ (unhide HS3)).mono ?_
    rintro e w4 ⟨rfl, hb4⟩
    have HA4 := hide ((unhide HA3).later hb4)
    have HS4 := hide ((unhide HS3).later hb4)
    have HNA4 := HNA3
    have HB4 : Hid (Below w.heap.size w w4) := hide (bel3 (unhide HB3) (Below.refl _ _) hb4)
    clear HA3 HS3 HB3 hb4 HNA3
    go_wp2
    go_ret
    exact ⟨rfl, unhide HB4⟩
  · obtain ⟨e1, e2, e3, e4, e5, e6, e7, e8, e9⟩ := ServM.w_err (x := ServM.new seed long) (h := ⟨address, 0, 0, 0, 0, 0, 0, 0, 0, ⟨#[]⟩⟩) (now := now) (by rw [qa]; omega)
    have C : Hid (∀ (B s : Nat) (F : List Nat) (w : World), SOwn B w s F (ServM.new seed long) → Calls Try.prog 8 #[.pointer (some ⟨s, 0, none⟩), .agg #[.int .i64 address, .int .i64 0, .int .i64 0, .int .i64 0, .int .i64 0, .int .i64 0, .int .i64 0, .int .i64 0, .int .i64 0, .string ⟨#[]⟩], .int .i64 now] w fun e w' => e = .returned (.tuple #[.agg #[.int .i64 0, .int .i64 0, .int .i64 0, .int .i64 0, .int .i64 0, .int .i64 0, .int .i64 0, .bool false], .iface 59 (.int .i64 1)]) ∧ SStep B w w' s F (ServM.new seed long)) := hide (fun B s F w h0 => by
      have q := shello_any ⟨address, 0, 0, 0, 0, 0, 0, 0, 0, ⟨#[]⟩⟩ now w good h0
      rw [e1, e2, e3, e4, e5, e6, e7, e8, e9, qa, errV_pos (by omega)] at q
      exact q)
    have CW : Hid (∀ (B s : Nat) (F : List Nat) (w : World) (_ : SOwn B w s F (ServM.new seed long)), Calls Try.prog 13 #[.pointer (some ⟨s, 0, none⟩)] w fun e w' => e = .returned (.int .i64 0) ∧ Below w.heap.size w w') := hide (fun B s F w h => swait_any w h (show (0 : Nat) ≤ 8 by omega))
    clear qa
    clear good e1 e2 e3 e4 e5 e6 e7 e8 e9
    have CN := hide (fun w => snew_yes w h0 h1 ht)
    clear h0 h1 ht
    go_enter Try.func4, Try.ntmps4
    go_wp2_with fail
    refine (unhide CN _).mono ?_
    rintro e w1 ⟨s, F1, rfl, hs1, hb1⟩
    have HB1 : Hid (Below w.heap.size w w1) := hide (bel3 (Below.refl w.heap.size w) (Below.refl _ _) hb1)
    have HS1 := hide hs1
    clear hb1 hs1
    go_wp2_with fail
    refine (unhide C _ _ _ _ (unhide HS1)).mono ?_
    rintro e w2 ⟨rfl, hs2⟩
    have HB2 : Hid (Below w.heap.size w w2) := hide (hs2.below0 (unhide HS1) (unhide HB1) (unhide HB1).size (Nat.le_refl _))
    obtain ⟨F2, own2, lk2⟩ := hs2
    have HS2 := hide own2
    clear HS1 HB1 own2 lk2
    go_wp2_with fail
    have HA3 : Hid (Held (w2.alloc (.cells #[.int .i64 0, .int .i64 0, .int .i64 0, .int .i64 0, .int .i64 0, .int .i64 0, .int .i64 0, .bool false] 37)) w2.heap.size (na 0 0 0 0 0 0 false)) := hide (Held.fresh (w := w2) (na 0 0 0 0 0 0 false) 37 rfl)
    have HS3 := hide ((unhide HS2).alloc (.cells #[.int .i64 0, .int .i64 0, .int .i64 0, .int .i64 0, .int .i64 0, .int .i64 0, .int .i64 0, .bool false] 37))
    have HNA3 := hide ((unhide HS2).out (Nat.le_refl w2.heap.size))
    have HB3 : Hid (Below w.heap.size w (w2.alloc (.cells #[.int .i64 0, .int .i64 0, .int .i64 0, .int .i64 0, .int .i64 0, .int .i64 0, .int .i64 0, .bool false] 37))) := hide (below_alloc (unhide HB2) _)
    clear HS2 HB2
    generalize (w2.alloc (.cells #[.int .i64 0, .int .i64 0, .int .i64 0, .int .i64 0, .int .i64 0, .int .i64 0, .int .i64 0, .bool false] 37)) = w3 at HA3 HB3 HS3 ⊢
    generalize w2.heap.size = ba at HA3 HNA3 ⊢
    refine (unhide CW _ _ _ _ (unhide HS3)).mono ?_
    rintro e w4 ⟨rfl, hb4⟩
    have HA4 := hide ((unhide HA3).later hb4)
    have HS4 := hide ((unhide HS3).later hb4)
    have HNA4 := HNA3
    have HB4 : Hid (Below w.heap.size w w4) := hide (bel3 (unhide HB3) (Below.refl _ _) hb4)
    clear HA3 HS3 HB3 hb4 HNA3
    go_wp2
    go_ret
    exact ⟨rfl, unhide HB4⟩
  · obtain ⟨e1, e2, e3, e4, e5, e6, e7, e8, e9⟩ := ServM.w_err (x := ServM.new seed long) (h := ⟨address, 0, 0, 0, 0, 0, 0, 0, 0, ⟨#[]⟩⟩) (now := now) (by rw [qa]; omega)
    have C : Hid (∀ (B s : Nat) (F : List Nat) (w : World), SOwn B w s F (ServM.new seed long) → Calls Try.prog 8 #[.pointer (some ⟨s, 0, none⟩), .agg #[.int .i64 address, .int .i64 0, .int .i64 0, .int .i64 0, .int .i64 0, .int .i64 0, .int .i64 0, .int .i64 0, .int .i64 0, .string ⟨#[]⟩], .int .i64 now] w fun e w' => e = .returned (.tuple #[.agg #[.int .i64 0, .int .i64 0, .int .i64 0, .int .i64 0, .int .i64 0, .int .i64 0, .int .i64 0, .bool false], .iface 59 (.int .i64 1)]) ∧ SStep B w w' s F (ServM.new seed long)) := hide (fun B s F w h0 => by
      have q := shello_any ⟨address, 0, 0, 0, 0, 0, 0, 0, 0, ⟨#[]⟩⟩ now w good h0
      rw [e1, e2, e3, e4, e5, e6, e7, e8, e9, qa, errV_pos (by omega)] at q
      exact q)
    have CW : Hid (∀ (B s : Nat) (F : List Nat) (w : World) (_ : SOwn B w s F (ServM.new seed long)), Calls Try.prog 13 #[.pointer (some ⟨s, 0, none⟩)] w fun e w' => e = .returned (.int .i64 0) ∧ Below w.heap.size w w') := hide (fun B s F w h => swait_any w h (show (0 : Nat) ≤ 8 by omega))
    clear qa
    clear good e1 e2 e3 e4 e5 e6 e7 e8 e9
    have CN := hide (fun w => snew_yes w h0 h1 ht)
    clear h0 h1 ht
    go_enter Try.func4, Try.ntmps4
    go_wp2_with fail
    refine (unhide CN _).mono ?_
    rintro e w1 ⟨s, F1, rfl, hs1, hb1⟩
    have HB1 : Hid (Below w.heap.size w w1) := hide (bel3 (Below.refl w.heap.size w) (Below.refl _ _) hb1)
    have HS1 := hide hs1
    clear hb1 hs1
    go_wp2_with fail
    refine (unhide C _ _ _ _ (unhide HS1)).mono ?_
    rintro e w2 ⟨rfl, hs2⟩
    have HB2 : Hid (Below w.heap.size w w2) := hide (hs2.below0 (unhide HS1) (unhide HB1) (unhide HB1).size (Nat.le_refl _))
    obtain ⟨F2, own2, lk2⟩ := hs2
    have HS2 := hide own2
    clear HS1 HB1 own2 lk2
    go_wp2_with fail
    have HA3 : Hid (Held (w2.alloc (.cells #[.int .i64 0, .int .i64 0, .int .i64 0, .int .i64 0, .int .i64 0, .int .i64 0, .int .i64 0, .bool false] 37)) w2.heap.size (na 0 0 0 0 0 0 false)) := hide (Held.fresh (w := w2) (na 0 0 0 0 0 0 false) 37 rfl)
    have HS3 := hide ((unhide HS2).alloc (.cells #[.int .i64 0, .int .i64 0, .int .i64 0, .int .i64 0, .int .i64 0, .int .i64 0, .int .i64 0, .bool false] 37))
    have HNA3 := hide ((unhide HS2).out (Nat.le_refl w2.heap.size))
    have HB3 : Hid (Below w.heap.size w (w2.alloc (.cells #[.int .i64 0, .int .i64 0, .int .i64 0, .int .i64 0, .int .i64 0, .int .i64 0, .int .i64 0, .bool false] 37))) := hide (below_alloc (unhide HB2) _)
    clear HS2 HB2
    generalize (w2.alloc (.cells #[.int .i64 0, .int .i64 0, .int .i64 0, .int .i64 0, .int .i64 0, .int .i64 0, .int .i64 0, .bool false] 37)) = w3 at HA3 HB3 HS3 ⊢
    generalize w2.heap.size = ba at HA3 HNA3 ⊢
    refine (unhide CW _ _ _ _ (unhide HS3)).mono ?_
    rintro e w4 ⟨rfl, hb4⟩
    have HA4 := hide ((unhide HA3).later hb4)
    have HS4 := hide ((unhide HS3).later hb4)
    have HNA4 := HNA3
    have HB4 : Hid (Below w.heap.size w w4) := hide (bel3 (unhide HB3) (Below.refl _ _) hb4)
    clear HA3 HS3 HB3 hb4 HNA3
    go_wp2
    go_ret
    exact ⟨rfl, unhide HB4⟩
  · obtain ⟨e1, e2, e3, e4, e5, e6, e7, e8, e9⟩ := ServM.w_err (x := ServM.new seed long) (h := ⟨address, 0, 0, 0, 0, 0, 0, 0, 0, ⟨#[]⟩⟩) (now := now) (by rw [qa]; omega)
    have C : Hid (∀ (B s : Nat) (F : List Nat) (w : World), SOwn B w s F (ServM.new seed long) → Calls Try.prog 8 #[.pointer (some ⟨s, 0, none⟩), .agg #[.int .i64 address, .int .i64 0, .int .i64 0, .int .i64 0, .int .i64 0, .int .i64 0, .int .i64 0, .int .i64 0, .int .i64 0, .string ⟨#[]⟩], .int .i64 now] w fun e w' => e = .returned (.tuple #[.agg #[.int .i64 0, .int .i64 0, .int .i64 0, .int .i64 0, .int .i64 0, .int .i64 0, .int .i64 0, .bool false], .iface 59 (.int .i64 1)]) ∧ SStep B w w' s F (ServM.new seed long)) := hide (fun B s F w h0 => by
      have q := shello_any ⟨address, 0, 0, 0, 0, 0, 0, 0, 0, ⟨#[]⟩⟩ now w good h0
      rw [e1, e2, e3, e4, e5, e6, e7, e8, e9, qa, errV_pos (by omega)] at q
      exact q)
    have CW : Hid (∀ (B s : Nat) (F : List Nat) (w : World) (_ : SOwn B w s F (ServM.new seed long)), Calls Try.prog 13 #[.pointer (some ⟨s, 0, none⟩)] w fun e w' => e = .returned (.int .i64 0) ∧ Below w.heap.size w w') := hide (fun B s F w h => swait_any w h (show (0 : Nat) ≤ 8 by omega))
    clear qa
    clear good e1 e2 e3 e4 e5 e6 e7 e8 e9
    have CN := hide (fun w => snew_yes w h0 h1 ht)
    clear h0 h1 ht
    go_enter Try.func4, Try.ntmps4
    go_wp2_with fail
    refine (unhide CN _).mono ?_
    rintro e w1 ⟨s, F1, rfl, hs1, hb1⟩
    have HB1 : Hid (Below w.heap.size w w1) := hide (bel3 (Below.refl w.heap.size w) (Below.refl _ _) hb1)
    have HS1 := hide hs1
    clear hb1 hs1
    go_wp2_with fail
    refine (unhide C _ _ _ _ (unhide HS1)).mono ?_
    rintro e w2 ⟨rfl, hs2⟩
    have HB2 : Hid (Below w.heap.size w w2) := hide (hs2.below0 (unhide HS1) (unhide HB1) (unhide HB1).size (Nat.le_refl _))
    obtain ⟨F2, own2, lk2⟩ := hs2
    have HS2 := hide own2
    clear HS1 HB1 own2 lk2
    go_wp2_with fail
    have HA3 : Hid (Held (w2.alloc (.cells #[.int .i64 0, .int .i64 0, .int .i64 0, .int .i64 0, .int .i64 0, .int .i64 0, .int .i64 0, .bool false] 37)) w2.heap.size (na 0 0 0 0 0 0 false)) := hide (Held.fresh (w := w2) (na 0 0 0 0 0 0 false) 37 rfl)
    have HS3 := hide ((unhide HS2).alloc (.cells #[.int .i64 0, .int .i64 0, .int .i64 0, .int .i64 0, .int .i64 0, .int .i64 0, .int .i64 0, .bool false] 37))
    have HNA3 := hide ((unhide HS2).out (Nat.le_refl w2.heap.size))
    have HB3 : Hid (Below w.heap.size w (w2.alloc (.cells #[.int .i64 0, .int .i64 0, .int .i64 0, .int .i64 0, .int .i64 0, .int .i64 0, .int .i64 0, .bool false] 37))) := hide (below_alloc (unhide HB2) _)
    clear HS2 HB2
    generalize (w2.alloc (.cells #[.int .i64 0, .int .i64 0, .int .i64 0, .int .i64 0, .int .i64 0, .int .i64 0, .int .i64 0, .bool false] 37)) = w3 at HA3 HB3 HS3 ⊢
    generalize w2.heap.size = ba at HA3 HNA3 ⊢
    refine (unhide CW _ _ _ _ (unhide HS3)).mono ?_
    rintro e w4 ⟨rfl, hb4⟩
    have HA4 := hide ((unhide HA3).later hb4)
    have HS4 := hide ((unhide HS3).later hb4)
    have HNA4 := HNA3
    have HB4 : Hid (Below w.heap.size w w4) := hide (bel3 (unhide HB3) (Below.refl _ _) hb4)
    clear HA3 HS3 HB3 hb4 HNA3
    go_wp2
    go_ret
    exact ⟨rfl, unhide HB4⟩

set_option maxHeartbeats 12800000 in
set_option maxRecDepth 8000 in
theorem walk_in (seed long address now : Int) (w : World) (h0 : 0 ≤ seed) (h1 : seed < 999983) (ht : TokenM.timeB long = true) (ha : TagM.inB address = true) (hn : TokenM.timeB now = true) :
    Calls Try.prog 4 #[.int .i64 seed, .int .i64 long, .int .i64 address, .int .i64 now] w fun e w' => e = .returned (.bool true) ∧ Below w.heap.size w w' := by
  have good := ServM.new_good (seed := seed) ht
  have qa : ServM.ask (ServM.new seed long) ⟨address, 0, 0, 0, 0, 0, 0, 0, 0, ⟨#[]⟩⟩ now = 0 := JudgeM.ans_zero.2 ⟨good.ring, ha, hn, ht, rfl⟩
  have qk : ServM.kind (ServM.new seed long) ⟨address, 0, 0, 0, 0, 0, 0, 0, 0, ⟨#[]⟩⟩ now = 1 := by
    unfold ServM.kind
    rw [JudgeM.kind_yes qa]
    exact LoadM.kind_calm (by simp [ServM.new]) (by simp [ServM.new]) _ _
  have qm : ServM.may (ServM.new seed long) ⟨address, 0, 0, 0, 0, 0, 0, 0, 0, ⟨#[]⟩⟩ now = false := by
    unfold ServM.may JudgeM.may
    rw [show JudgeM.mayB (⟨#[]⟩ : ByteArray).size = false from rfl]
    simp
  clear ha hn
  obtain ⟨e1, e2, e3, e4, e5, e6, e7, e8, e9⟩ := ServM.w_in0 (x := ServM.new seed long) (h := ⟨address, 0, 0, 0, 0, 0, 0, 0, 0, ⟨#[]⟩⟩) (now := now) qa qk (by show (0 : Int) < 4096; decide) qm
  have C : Hid (∀ (B s : Nat) (F : List Nat) (w : World), SOwn B w s F (ServM.new seed long) → Calls Try.prog 8 #[.pointer (some ⟨s, 0, none⟩), .agg #[.int .i64 address, .int .i64 0, .int .i64 0, .int .i64 0, .int .i64 0, .int .i64 0, .int .i64 0, .int .i64 0, .int .i64 0, .string ⟨#[]⟩], .int .i64 now] w fun e w' => e = .returned (.tuple #[.agg #[.int .i64 1, .int .i64 0, .int .i64 0, .int .i64 0, .int .i64 0, .int .i64 0, .int .i64 0, .bool false], .nilIface]) ∧ SStep B w w' s F ({ ServM.new seed long with L := [(0, 0)], k := 1 })) := hide (fun B s F w h0 => by
    have q := shello_any ⟨address, 0, 0, 0, 0, 0, 0, 0, 0, ⟨#[]⟩⟩ now w good h0
    rw [e1, e2, e3, e4, e5, e6, e7, e8, e9, errV_zero rfl] at q
    exact q)
  have CP := hide (fun (B s : Nat) (F : List Nat) (w : World) (h : SOwn B w s F ({ ServM.new seed long with L := [(0, 0)], k := 1 })) => spull_yes (t := 0) (m := 0) (r := []) w h rfl (by simp))
  have CW := hide (fun (B s : Nat) (F : List Nat) (w : World) (h : SOwn B w s F ({ ServM.new seed long with L := [], k := 1 })) => swait_any w h (by simp))
  change Hid (∀ (B s : Nat) (F : List Nat) (w : World) (_ : SOwn B w s F ({ ServM.new seed long with L := [], k := 1 })), Calls Try.prog 13 #[.pointer (some ⟨s, 0, none⟩)] w fun e w' => e = .returned (.int .i64 0) ∧ Below w.heap.size w w') at CW
  clear qa qk qm
  clear good e1 e2 e3 e4 e5 e6 e7 e8 e9
  have CN := hide (fun w => snew_yes w h0 h1 ht)
  clear h0 h1 ht
  go_enter Try.func4, Try.ntmps4
  go_wp2_with fail
  refine (unhide CN _).mono ?_
  rintro e w1 ⟨s, F1, rfl, hs1, hb1⟩
  have HB1 : Hid (Below w.heap.size w w1) := hide (bel3 (Below.refl w.heap.size w) (Below.refl _ _) hb1)
  have HS1 := hide hs1
  clear hb1 hs1
  go_wp2_with fail
  refine (unhide C _ _ _ _ (unhide HS1)).mono ?_
  rintro e w2 ⟨rfl, hs2⟩
  have HB2 : Hid (Below w.heap.size w w2) := hide (hs2.below0 (unhide HS1) (unhide HB1) (unhide HB1).size (Nat.le_refl _))
  obtain ⟨F2, own2, lk2⟩ := hs2
  have HS2 := hide own2
  clear HS1 HB1 own2 lk2
  go_wp2_with fail
  have HA3 : Hid (Held (w2.alloc (.cells #[.int .i64 1, .int .i64 0, .int .i64 0, .int .i64 0, .int .i64 0, .int .i64 0, .int .i64 0, .bool false] 37)) w2.heap.size (na 1 0 0 0 0 0 false)) := hide (Held.fresh (w := w2) (na 1 0 0 0 0 0 false) 37 rfl)
  have HS3 := hide ((unhide HS2).alloc (.cells #[.int .i64 1, .int .i64 0, .int .i64 0, .int .i64 0, .int .i64 0, .int .i64 0, .int .i64 0, .bool false] 37))
  have HNA3 := hide ((unhide HS2).out (Nat.le_refl w2.heap.size))
  have HB3 : Hid (Below w.heap.size w (w2.alloc (.cells #[.int .i64 1, .int .i64 0, .int .i64 0, .int .i64 0, .int .i64 0, .int .i64 0, .int .i64 0, .bool false] 37))) := hide (below_alloc (unhide HB2) _)
  clear HS2 HB2
  generalize (w2.alloc (.cells #[.int .i64 1, .int .i64 0, .int .i64 0, .int .i64 0, .int .i64 0, .int .i64 0, .int .i64 0, .bool false] 37)) = w3 at HA3 HB3 HS3 ⊢
  generalize w2.heap.size = ba at HA3 HNA3 ⊢
  refine (unhide CP _ _ _ _ (unhide HS3)).mono ?_
  rintro e w4 ⟨rfl, hs4⟩
  have HB4 : Hid (Below w.heap.size w w4) := hide (hs4.below0 (unhide HS3) (unhide HB3) (unhide HB3).size (Nat.le_refl _))
  obtain ⟨F4, own4, lk4⟩ := hs4
  have HS4 := hide own4
  have HA4 := hide (lk4.2.held (unhide HA3) (unhide HNA3))
  have HNA4 := hide (lk4.off (unhide HNA3) (unhide HA3).2)
  clear HA3 HS3 HB3 own4 lk4 HNA3
  obtain ⟨a0, a1, a2, a3, a4, a5, a6, a7⟩ := (unhide HA4).c8.1
  have al := (unhide HA4).2
  go_wp2_with fail
  have HC5 : Hid (Held (w4.alloc (.cells #[.int .i64 0, .int .i64 0] 35)) w4.heap.size ([.int .i64 0, .int .i64 0])) := hide (Held.fresh (w := w4) ([.int .i64 0, .int .i64 0]) 35 rfl)
  have HS5 := hide ((unhide HS4).alloc (.cells #[.int .i64 0, .int .i64 0] 35))
  have HNC5 := hide ((unhide HS4).out (Nat.le_refl w4.heap.size))
  have HA5 := hide ((unhide HA4).alloc (.cells #[.int .i64 0, .int .i64 0] 35))
  have HNA5 := HNA4
  have HB5 : Hid (Below w.heap.size w (w4.alloc (.cells #[.int .i64 0, .int .i64 0] 35))) := hide (below_alloc (unhide HB4) _)
  clear HA4 HS4 HB4 HNA4
  generalize (w4.alloc (.cells #[.int .i64 0, .int .i64 0] 35)) = w5 at HC5 HB5 HA5 HS5 ⊢
  generalize w4.heap.size = bc at HC5 HNC5 ⊢
  clear a0 a1 a2 a3 a4 a5 a6 a7 al
  refine (unhide CW _ _ _ _ (unhide HS5)).mono ?_
  rintro e w6 ⟨rfl, hb6⟩
  have HA6 := hide ((unhide HA5).later hb6)
  have HC6 := hide ((unhide HC5).later hb6)
  have HS6 := hide ((unhide HS5).later hb6)
  have HNA6 := HNA5
  have HNC6 := HNC5
  have HB6 : Hid (Below w.heap.size w w6) := hide (bel3 (unhide HB5) (Below.refl _ _) hb6)
  clear HA5 HC5 HS5 HB5 hb6 HNA5 HNC5
  go_wp2
  go_ret
  exact ⟨rfl, unhide HB6⟩

theorem walk (seed long address now : Int) (w : World) (_w0 : (Lit.int .i64 seed).wf = true) (_w1 : (Lit.int .i64 long).wf = true) (_w2 : (Lit.int .i64 address).wf = true) (_w3 : (Lit.int .i64 now).wf = true) :
    Calls Try.prog 4 #[.int .i64 seed, .int .i64 long, .int .i64 address, .int .i64 now] w fun e w' => e = .returned (.bool true) ∧ Below w.heap.size w w' := by
  by_cases hs : seed < 0 ∨ 999983 ≤ seed
  · exact walk_seed seed long address now w hs
  · have h0 : 0 ≤ seed := by omega
    have h1 : seed < 999983 := by omega
    cases ht : TokenM.timeB long with
    | false => exact walk_life seed long address now w h0 h1 ht
    | true =>
      cases ha : TagM.inB address with
      | false => exact walk_refused seed long address now w h0 h1 ht (by rw [ha]; rfl)
      | true =>
        cases hn : TokenM.timeB now with
        | false => exact walk_refused seed long address now w h0 h1 ht (by rw [ha, hn]; rfl)
        | true => exact walk_in seed long address now w h0 h1 ht ha hn


set_option maxRecDepth 100000 in
theorem lifted (os : Os) (started : os.Started) (H : Type) (enc : TypeId × Value → H) :
    ReturnsInHanded {} Try.checked os 4 .any (Rows.serverFirstSpec.pre6 enc Try.prog Try.f4 Rows.serverFirstRow.domain false) (Rows.serverFirstSpec.post enc Try.prog Try.f4 false true false false) := by
  refine returnsInHanded_of_change (C := Try.checked) own started (by kernel_rfl) Try.func4
    (ChangeSpec.witness6 (enc := enc) (C := Try.checked) false ⟨#[], #[.int .i64 0, .int .i64 0, .int .i64 0, .int .i64 0], []⟩ 8 (by kernel_rfl) (by kernel_rfl) (by kernel_rfl) (by kernel_rfl)) ?_
  intro W base args ds gs before hval0 hW hcnd _
  have hval : ∀ (j : Nat) t v, Try.f4.params[j]? = some t → args[j]? = some v → Value.okWide Try.prog W .any base t v := hval0
  have hW' := hW
  obtain ⟨p, q, hA0, hV, rfl, hfz, hnd⟩ := hW
  have hA : DataW.TrodAll enc Try.prog W 0 (fun _ => true) true Try.f4.params.toList args.toList ds p := hA0
  rw [Try.params4] at hA hval
  obtain ⟨v0, vs0, d0, ds0, p0, q0, hargs, rfl, rfl, h0, r0⟩ := trodAll_cons hA
  obtain ⟨v1, vs1, d1, ds1, p1, q1, rfl, rfl, rfl, h1, r1⟩ := trodAll_cons r0
  obtain ⟨v2, vs2, d2, ds2, p2, q2, rfl, rfl, rfl, h2, r2⟩ := trodAll_cons r1
  obtain ⟨v3, vs3, d3, ds3, p3, q3, rfl, rfl, rfl, h3, r3⟩ := trodAll_cons r2
  obtain ⟨rfl, rfl, rfl⟩ := trodAll_nil r3
  obtain rfl : args = #[v0, v1, v2, v3] := by cases args; simp_all
  obtain ⟨rfl, rfl⟩ := trodVars_none hV
  have k0 := h0
  have lt0 : ∀ x ∈ p0, x.block < W.heap.size := by obtain ⟨m, hm⟩ := k0; exact DataW.trod_lt m _ _ _ hm
  obtain ⟨a0, rfl, rfl, rfl, w0⟩ := open_int Try.underlying3 (hval 0 3 v0 rfl rfl) h0
  have k1 := h1
  have lt1 : ∀ x ∈ p1, x.block < W.heap.size := by obtain ⟨m, hm⟩ := k1; exact DataW.trod_lt m _ _ _ hm
  obtain ⟨a1, rfl, rfl, rfl, w1⟩ := open_int Try.underlying3 (hval 1 3 v1 rfl rfl) h1
  have k2 := h2
  have lt2 : ∀ x ∈ p2, x.block < W.heap.size := by obtain ⟨m, hm⟩ := k2; exact DataW.trod_lt m _ _ _ hm
  obtain ⟨a2, rfl, rfl, rfl, w2⟩ := open_int Try.underlying3 (hval 2 3 v2 rfl rfl) h2
  have k3 := h3
  have lt3 : ∀ x ∈ p3, x.block < W.heap.size := by obtain ⟨m, hm⟩ := k3; exact DataW.trod_lt m _ _ _ hm
  obtain ⟨a3, rfl, rfl, rfl, w3⟩ := open_int Try.underlying3 (hval 3 3 v3 rfl rfl) h3
  clear hA0 hval0
  refine (walk a0 a1 a2 a3 W w0 w1 w2 w3).mono fun e W' ⟨he, bel⟩ => ?_
  subst he
  exact ⟨_, rfl, _, _, _, [], _, [], hW', trodAll_mk1 (shut_bool Try.underlying4 _), (trodAll_cons_mk (Below.trod laidOut (by kernel_rfl) (of_decide_eq_true (by kernel_rfl)) k0 bel lt0) (trodAll_cons_mk (Below.trod laidOut (by kernel_rfl) (of_decide_eq_true (by kernel_rfl)) k1 bel lt1) (trodAll_cons_mk (Below.trod laidOut (by kernel_rfl) (of_decide_eq_true (by kernel_rfl)) k2 bel lt2) (trodAll_cons_mk (Below.trod laidOut (by kernel_rfl) (of_decide_eq_true (by kernel_rfl)) k3 bel lt3) trodAll_mk0)))), rfl, bel.frame _, fun h => by cases h⟩

theorem over : Rows.serverFirstRow.holds Try.pinned (OpenSpec.ofChange Rows.serverFirstSpec) :=
  OpenClaim.holds_of_wide 4 Try.f4 rfl rfl rfl rfl rfl rfl rfl ⟨rfl, rfl, rfl, rfl, rfl⟩ rfl rfl rfl rfl rfl (by kernel_rfl) Try.func4 (by kernel_rfl)
    (of_decide_eq_true (by kernel_rfl)) (by unfold Func.isWrapper; first | (rw [if_pos (by decide +kernel)]; kernel_rfl) | (rw [if_neg (by decide +kernel)]; exact ⟨rfl, rfl⟩))
    (fun os started H enc _ => lifted os started H enc)

end Go.Proofs.Ytimilfnbbimipaj.serverFirst
namespace Go.Proofs.Ytimilfnbbimipaj
theorem serverFirst_holds : Rows.ServerFirstSaid := serverFirst.over
#print axioms serverFirst_holds
end Go.Proofs.Ytimilfnbbimipaj

