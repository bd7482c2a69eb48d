/-
  ServerOnce holds for every seed, every life, every list of deeds, every list of times, every time of a ticket and every address: its early bytes are taken at most once, whatever crashes between, and conns rise. No condition.
-/
import Derived.Test.YtimilfnbbimipajServerLaw
import Derived.ProofKit
import Derived.Lib.SmallJoins
namespace Go.Proofs.Ytimilfnbbimipaj.serverOnce
open Go.ChangeShapes Go.WideShapes Go.ChangeAt Go.RowKit Go.Joins
set_option linter.unusedVariables false

theorem own : ownKnob Try.prog.godebug = none := by kernel_rfl
theorem laidOut : laidOutB Try.prog = true := by kernel_rfl
def IsRow (k : IntKind) (w : World) (a : Option Addr) (len cap : Nat) (zs : List Int) : Prop :=
  (a = none ∧ len = 0 ∧ cap = 0 ∧ zs = []) ∨
  ∃ x, a = some x ∧ len ≤ cap ∧ cap ≤ maxLen ∧ zs.length = cap ∧ (∀ i, i < zs.length → w.cell? (x.add i) = some (.int k (zs.getD i 0))) ∧ ∀ n ∈ zs, (Lit.int k n).wf = true
def IsStrs (w : World) (a : Option Addr) (len cap : Nat) (zs : List ByteArray) : Prop :=
  (a = none ∧ len = 0 ∧ cap = 0 ∧ zs = []) ∨
  ∃ x, a = some x ∧ len ≤ cap ∧ cap ≤ maxLen ∧ zs.length = cap ∧ (∀ i, i < zs.length → w.cell? (x.add i) = some (.string (zs.getD i ByteArray.empty))) ∧ ∀ s ∈ zs, s.size ≤ maxLen
def IsPairs (w : World) (a : Option Addr) (len cap : Nat) (zs : List (Int × Int)) : Prop :=
  (a = none ∧ len = 0 ∧ cap = 0 ∧ zs = []) ∨
  ∃ x, a = some x ∧ len ≤ cap ∧ cap ≤ maxLen ∧ zs.length = cap ∧ ∀ i, i < cap → w.cell? (x.add (i * 2)) = some (.int .i64 (zs.getD i (0, 0)).1) ∧ w.cell? (x.add (i * 2 + 1)) = some (.int .i64 (zs.getD i (0, 0)).2)
def IsRows (w : World) (a : Option Addr) (len cap : Nat) (A : Nat → Option Addr) (L C : Nat → Nat) (Z : Nat → List Int) : Prop :=
  (a = none ∧ len = 0 ∧ cap = 0) ∨
  ∃ x, a = some x ∧ len ≤ cap ∧ cap ≤ maxLen ∧ ∀ r, r < cap → w.cell? (x.add r) = some (.slice (A r) (L r) (C r)) ∧ L r ≤ C r ∧ C r ≤ maxLen ∧ (Z r).length = C r ∧ (∀ n ∈ Z r, (Lit.int .i64 n).wf = true) ∧ (A r = none → C r = 0) ∧
    ∀ a', A r = some a' → ∀ c, c < C r → w.cell? (a'.add c) = some (.int .i64 ((Z r).getD c 0))

set_option linter.unusedVariables false
attribute [local go_sem ↓] Go.wp_at_zero Go.wp_at_succ

set_option maxHeartbeats 12800000 in
set_option maxRecDepth 8000 in
theorem walk1 (seed long : Int) (da : Option Addr) (dlen dcap : Nat) (ds : List Int) (a : Option Addr) (len cap : Nat) (zs : List Int) (u ad : Int) (w : World) (hdl : ds.length = dlen) (hdi : Ints w da ds) (hll : zs.length = len) (hli : Ints w a zs) :
    Calls Try.prog 3 #[.int .i64 seed, .int .i64 long, .slice da dlen dcap, .slice a len cap, .int .i64 u, .int .i64 ad] w fun e w' => e = .returned (.bool true) ∧ Below w.heap.size w w' := by
  have HDL := hide hdl
  have HDI := hide hdi
  have HLL := hide hll
  have HLI := hide hli
  clear hdl hdi hll hli
  have good0 := ServM.new_good (seed := 7) (life := 50) rfl
  have CN := hide (fun w => snew_yes (seed := 7) (life := 50) w (by omega) (by omega) rfl)
  rw [show ServM.new 7 50 = (⟨0, (TagM.tag 7 [0]), 0, 50, [], 0, 0, [], [], 0⟩ : ServM.St) from rfl] at CN good0
  have hk := TagM.tag_bd 7 [0]
  generalize TagM.tag 7 [0] = key at CN hk good0
  have he : RingM.err 0 key 0 = 0 := good0.ring
  have CT : Hid (∀ (B s : Nat) (F : List Nat) (w : World), SOwn B w s F (⟨0, key, 0, 50, [], 0, 0, [], [], 0⟩ : ServM.St) → Calls Try.prog 7 #[.pointer (some ⟨s, 0, none⟩), .int .i64 20] w fun e w' => e = .returned (.tuple #[.agg #[.int .i64 0, .int .i64 0, .int .i64 20, .int .i64 (TagM.tag key [2, 0, 20])], .nilIface]) ∧ SStep B w w' s F (⟨0, key, 0, 50, [], 1, 8, [], [], 0⟩ : ServM.St)) := hide (fun B s F w h0 => by
    have q := sticket_any (u := 20) w h0 good0
    obtain ⟨e1, e2, e3, e4, e5, e6⟩ := ServM.t_yes (x := (⟨0, key, 0, 50, [], 0, 0, [], [], 0⟩ : ServM.St)) (u := 20) rfl (by simp)
    rw [e1, e2, e3, e4, e5, e6, errV_zero rfl] at q
    exact q)
  obtain ⟨g, hg⟩ : ∃ g, TagM.tag key [2, 0, 20] = g := ⟨_, rfl⟩
  rw [hg] at CT
  have good1 : ServM.Good (⟨0, key, 0, 50, [], 1, 8, [], [], 0⟩ : ServM.St) := ⟨he, rfl, by simp, by simp, by simp, by simp, by simp, by simp, VaultM.nil_good, VaultM.nil_good, by simp, by simp⟩
  have sp0 : SpentM.spendErr [] 0 20 5 = 0 := by decide
  have gv : SpentM.Good [(0, 20)] := VaultM.one_good sp0
  have good3 : ServM.Good (⟨0, key, 0, 50, [], 8, 8, [(0, 20)], [(0, 20)], 1⟩ : ServM.St) := ⟨he, rfl, by simp, by simp, by simp, by simp, by simp, by simp, gv, gv, by simp, by simp⟩
  have q1 : ServM.ask (⟨0, key, 0, 50, [], 1, 8, [], [], 0⟩ : ServM.St) ⟨1, 0, 0, 0, 0, 0, 0, 20, g, ⟨#[104, 105]⟩⟩ 5 = 0 := JudgeM.ans_zero.2 ⟨he, rfl, rfl, rfl, rfl⟩
  have q3 : ServM.ask (⟨0, key, 0, 50, [], 8, 8, [(0, 20)], [(0, 20)], 1⟩ : ServM.St) ⟨1, 0, 0, 0, 0, 0, 0, 20, g, ⟨#[104, 105]⟩⟩ 6 = 0 := JudgeM.ans_zero.2 ⟨he, rfl, rfl, rfl, rfl⟩
  have k1 : ServM.kind (⟨0, key, 0, 50, [], 1, 8, [], [], 0⟩ : ServM.St) ⟨1, 0, 0, 0, 0, 0, 0, 20, g, ⟨#[104, 105]⟩⟩ 5 = 1 := ServM.kind_calm q1 (by simp)
  have k3 : ServM.kind (⟨0, key, 0, 50, [], 8, 8, [(0, 20)], [(0, 20)], 1⟩ : ServM.St) ⟨1, 0, 0, 0, 0, 0, 0, 20, g, ⟨#[104, 105]⟩⟩ 6 = 1 := ServM.kind_calm q3 (by simp)
  have mk : TokenM.makeErr 0 key 0 0 20 = 0 := TokenM.make_zero.2 ⟨he, rfl, rfl⟩
  have m1 : ServM.may (⟨0, key, 0, 50, [], 1, 8, [], [], 0⟩ : ServM.St) ⟨1, 0, 0, 0, 0, 0, 0, 20, g, ⟨#[104, 105]⟩⟩ 5 = true := ServM.may_made q1 k1 mk rfl hg.symm rfl (by simp) (by simp) rfl
  have C1 : Hid (∀ (B s : Nat) (F : List Nat) (w : World), SOwn B w s F (⟨0, key, 0, 50, [], 1, 8, [], [], 0⟩ : ServM.St) → Calls Try.prog 8 #[.pointer (some ⟨s, 0, none⟩), .agg #[.int .i64 1, .int .i64 0, .int .i64 0, .int .i64 0, .int .i64 0, .int .i64 0, .int .i64 0, .int .i64 20, .int .i64 g, .string ⟨#[104, 105]⟩], .int .i64 5] w fun e w' => e = .returned (.tuple #[.agg #[.int .i64 1, .int .i64 0, .int .i64 0, .int .i64 0, .int .i64 0, .int .i64 0, .int .i64 0, .bool true], .nilIface]) ∧ SStep B w w' s F (⟨0, key, 0, 50, [(0, 0)], 1, 8, [(0, 20)], [(0, 20)], 1⟩ : ServM.St)) := hide (fun B s F w h0 => by
    have q := shello_any ⟨1, 0, 0, 0, 0, 0, 0, 20, g, ⟨#[104, 105]⟩⟩ 5 w good1 h0
    obtain ⟨e1, e2, e3, e4, e5, e6, e7, e8, e9⟩ := ServM.w_in2 q1 k1 (by simp) m1 sp0
    rw [e1, e2, e3, e4, e5, e6, e7, e8, e9, errV_zero rfl] at q
    exact q)
  have C2 : Hid (∀ (B s : Nat) (F : List Nat) (w : World), SOwn B w s F (⟨0, key, 0, 50, [], 8, 8, [(0, 20)], [(0, 20)], 1⟩ : ServM.St) → Calls Try.prog 8 #[.pointer (some ⟨s, 0, none⟩), .agg #[.int .i64 1, .int .i64 0, .int .i64 0, .int .i64 0, .int .i64 0, .int .i64 0, .int .i64 0, .int .i64 20, .int .i64 g, .string ⟨#[104, 105]⟩], .int .i64 6] w fun e w' => e = .returned (.tuple #[.agg #[.int .i64 1, .int .i64 0, .int .i64 0, .int .i64 0, .int .i64 0, .int .i64 0, .int .i64 1, .bool false], .nilIface]) ∧ SStep B w w' s F (⟨0, key, 0, 50, [(0, 1)], 8, 8, [(0, 20)], [(0, 20)], 2⟩ : ServM.St)) := hide (fun B s F w h0 => by
    have q := shello_any ⟨1, 0, 0, 0, 0, 0, 0, 20, g, ⟨#[104, 105]⟩⟩ 6 w good3 h0
    obtain ⟨e1, e2, e3, e4, e5, e6, e7, e8, e9⟩ := ServM.w_in1 q3 k3 (by simp) (show ¬ SpentM.spendErr [(0, 20)] 0 20 6 = 0 by decide)
    rw [e1, e2, e3, e4, e5, e6, e7, e8, e9, errV_zero rfl] at q
    exact q)
  have CC : Hid (∀ (B s : Nat) (F : List Nat) (w : World), SOwn B w s F (⟨0, key, 0, 50, [(0, 0)], 1, 8, [(0, 20)], [(0, 20)], 1⟩ : ServM.St) → Calls Try.prog 9 #[.pointer (some ⟨s, 0, none⟩)] w fun e w' => e = .returned (.tuple #[]) ∧ SStep B w w' s F (⟨0, key, 0, 50, [], 8, 8, [(0, 20)], [(0, 20)], 1⟩ : ServM.St)) := hide (fun B s F w h0 => scrash_any w (by simp) h0)
  clear good0 hk he hg good1 sp0 gv good3 q1 q3 k1 k3 mk m1
  go_enter Try.func3, Try.ntmps3
  go_wp2_with fail
  refine (unhide CN _).mono ?_
  rintro e w1 ⟨s, F1, rfl, hs1, hb1⟩
  have HB1 : Hid (Below w.heap.size w w1) := hide (bel3 (Below.refl w.heap.size w) (Below.refl _ _) hb1)
  have HS1 := hide hs1
  clear hb1 hs1
  go_wp2_with fail
  refine (unhide CT _ _ _ _ (unhide HS1)).mono ?_
  rintro e w2 ⟨rfl, hs2⟩
  have HB2 : Hid (Below w.heap.size w w2) := hide (hs2.below0 (unhide HS1) (unhide HB1) (unhide HB1).size (Nat.le_refl _))
  obtain ⟨F2, own2, lk2⟩ := hs2
  have HS2 := hide own2
  clear HS1 HB1 own2 lk2
  go_wp2_with fail
  have HT3 : Hid (Held (w2.alloc (.cells #[.int .i64 0, .int .i64 0, .int .i64 20, .int .i64 g] 29)) w2.heap.size (n4 0 0 20 g)) := hide (Held.fresh (w := w2) (n4 0 0 20 g) 29 rfl)
  have HS3 := hide ((unhide HS2).alloc (.cells #[.int .i64 0, .int .i64 0, .int .i64 20, .int .i64 g] 29))
  have HNT3 := hide ((unhide HS2).out (Nat.le_refl w2.heap.size))
  have HB3 : Hid (Below w.heap.size w (w2.alloc (.cells #[.int .i64 0, .int .i64 0, .int .i64 20, .int .i64 g] 29))) := hide (below_alloc (unhide HB2) _)
  clear HS2 HB2
  generalize (w2.alloc (.cells #[.int .i64 0, .int .i64 0, .int .i64 20, .int .i64 g] 29)) = w3 at HT3 HB3 HS3 ⊢
  generalize w2.heap.size = bt at HT3 HNT3 ⊢
  refine (unhide C1 _ _ _ _ (unhide HS3)).mono ?_
  rintro e w4 ⟨rfl, hs4⟩
  have HB4 : Hid (Below w.heap.size w w4) := hide (hs4.below0 (unhide HS3) (unhide HB3) (unhide HB3).size (Nat.le_refl _))
  obtain ⟨F4, own4, lk4⟩ := hs4
  have HS4 := hide own4
  have HT4 := hide (lk4.2.held (unhide HT3) (unhide HNT3))
  have HNT4 := hide (lk4.off (unhide HNT3) (unhide HT3).2)
  clear HT3 HS3 HB3 own4 lk4 HNT3
  go_wp2_with fail
  have HA5 : Hid (Held (w4.alloc (.cells #[.int .i64 1, .int .i64 0, .int .i64 0, .int .i64 0, .int .i64 0, .int .i64 0, .int .i64 0, .bool true] 37)) w4.heap.size (na 1 0 0 0 0 0 true)) := hide (Held.fresh (w := w4) (na 1 0 0 0 0 0 true) 37 rfl)
  have HS5 := hide ((unhide HS4).alloc (.cells #[.int .i64 1, .int .i64 0, .int .i64 0, .int .i64 0, .int .i64 0, .int .i64 0, .int .i64 0, .bool true] 37))
  have HNA5 := hide ((unhide HS4).out (Nat.le_refl w4.heap.size))
  have HT5 := hide ((unhide HT4).alloc (.cells #[.int .i64 1, .int .i64 0, .int .i64 0, .int .i64 0, .int .i64 0, .int .i64 0, .int .i64 0, .bool true] 37))
  have HNT5 := HNT4
  have HB5 : Hid (Below w.heap.size w (w4.alloc (.cells #[.int .i64 1, .int .i64 0, .int .i64 0, .int .i64 0, .int .i64 0, .int .i64 0, .int .i64 0, .bool true] 37))) := hide (below_alloc (unhide HB4) _)
  clear HT4 HS4 HB4 HNT4
  generalize (w4.alloc (.cells #[.int .i64 1, .int .i64 0, .int .i64 0, .int .i64 0, .int .i64 0, .int .i64 0, .int .i64 0, .bool true] 37)) = w5 at HA5 HB5 HT5 HS5 ⊢
  generalize w4.heap.size = ba at HA5 HNA5 ⊢
  refine (unhide CC _ _ _ _ (unhide HS5)).mono ?_
  rintro e w6 ⟨rfl, hs6⟩
  have HB6 : Hid (Below w.heap.size w w6) := hide (hs6.below0 (unhide HS5) (unhide HB5) (unhide HB5).size (Nat.le_refl _))
  obtain ⟨F6, own6, lk6⟩ := hs6
  have HS6 := hide own6
  have HT6 := hide (lk6.2.held (unhide HT5) (unhide HNT5))
  have HNT6 := hide (lk6.off (unhide HNT5) (unhide HT5).2)
  have HA6 := hide (lk6.2.held (unhide HA5) (unhide HNA5))
  have HNA6 := hide (lk6.off (unhide HNA5) (unhide HA5).2)
  clear HT5 HA5 HS5 HB5 own6 lk6 HNT5 HNA5
  obtain ⟨t0, t1, t2, t3⟩ := (unhide HT6).c4.1
  have tl := (unhide HT6).2
  go_wp2_with fail
  refine (unhide C2 _ _ _ _ (unhide HS6)).mono ?_
  rintro e w7 ⟨rfl, hs7⟩
  clear t0 t1 t2 t3 tl
  have HB7 : Hid (Below w.heap.size w w7) := hide (hs7.below0 (unhide HS6) (unhide HB6) (unhide HB6).size (Nat.le_refl _))
  obtain ⟨F7, own7, lk7⟩ := hs7
  have HS7 := hide own7
  have HT7 := hide (lk7.2.held (unhide HT6) (unhide HNT6))
  have HNT7 := hide (lk7.off (unhide HNT6) (unhide HT6).2)
  have HA7 := hide (lk7.2.held (unhide HA6) (unhide HNA6))
  have HNA7 := hide (lk7.off (unhide HNA6) (unhide HA6).2)
  clear HT6 HA6 HS6 HB6 own7 lk7 HNT6 HNA6
  obtain ⟨a0, a1, a2, a3, a4, a5, a6, a7⟩ := (unhide HA7).c8.1
  have al := (unhide HA7).2
  go_wp2_with fail
  have HD8 : Hid (Held (w7.alloc (.cells #[.int .i64 1, .int .i64 0, .int .i64 0, .int .i64 0, .int .i64 0, .int .i64 0, .int .i64 1, .bool false] 37)) w7.heap.size (na 1 0 0 0 0 1 false)) := hide (Held.fresh (w := w7) (na 1 0 0 0 0 1 false) 37 rfl)
  have HS8 := hide ((unhide HS7).alloc (.cells #[.int .i64 1, .int .i64 0, .int .i64 0, .int .i64 0, .int .i64 0, .int .i64 0, .int .i64 1, .bool false] 37))
  have HND8 := hide ((unhide HS7).out (Nat.le_refl w7.heap.size))
  have HT8 := hide ((unhide HT7).alloc (.cells #[.int .i64 1, .int .i64 0, .int .i64 0, .int .i64 0, .int .i64 0, .int .i64 0, .int .i64 1, .bool false] 37))
  have HNT8 := HNT7
  have HA8 := hide ((unhide HA7).alloc (.cells #[.int .i64 1, .int .i64 0, .int .i64 0, .int .i64 0, .int .i64 0, .int .i64 0, .int .i64 1, .bool false] 37))
  have HNA8 := HNA7
  have HB8 : Hid (Below w.heap.size w (w7.alloc (.cells #[.int .i64 1, .int .i64 0, .int .i64 0, .int .i64 0, .int .i64 0, .int .i64 0, .int .i64 1, .bool false] 37))) := hide (below_alloc (unhide HB7) _)
  clear HT7 HA7 HS7 HB7 HNT7 HNA7
  generalize (w7.alloc (.cells #[.int .i64 1, .int .i64 0, .int .i64 0, .int .i64 0, .int .i64 0, .int .i64 0, .int .i64 1, .bool false] 37)) = w8 at HD8 HB8 HT8 HA8 HS8 ⊢
  generalize w7.heap.size = bd at HD8 HND8 ⊢
  clear a0 a1 a2 a3 a4 a5 a6 a7 al
  clear HS8 HT8 HNT8 HA8 HNA8 HD8 HND8 CN CT C1 C2 CC
  by_cases hs : seed < 0 ∨ 999983 ≤ seed
  · refine (snew_seed long _ hs).mono ?_
    rintro e w9 ⟨rfl, hb9⟩
    have HB9 : Hid (Below w.heap.size w w9) := hide (bel3 (unhide HB8) (Below.refl _ _) hb9)
    clear HB8 hb9
    go_wp2
    go_ret
    exact ⟨rfl, unhide HB9⟩
  · have h0 : 0 ≤ seed := by omega
    have h1 : seed < 999983 := by omega
    clear hs
    cases ht : TokenM.timeB long with
    | false =>
      refine (snew_life _ h0 h1 ht).mono ?_
      rintro e w9 ⟨rfl, hb9⟩
      have HB9 : Hid (Below w.heap.size w w9) := hide (bel3 (unhide HB8) (Below.refl _ _) hb9)
      clear HB8 hb9
      go_wp2
      go_ret
      exact ⟨rfl, unhide HB9⟩
    | true =>
      have CN := hide (fun w => snew_yes (seed := seed) (life := long) w h0 h1 ht)
      have good := ServM.new_good (seed := seed) ht
      have zB : w.heap.size ≤ w8.heap.size := (unhide HB8).size
      rw [show ServM.new seed long = (⟨0, TagM.tag seed [0], 0, long, [], 0, 0, [], [], 0⟩ : ServM.St) from rfl] at CN good
      generalize TagM.tag seed [0] = key at CN good
      clear h0 h1 ht
      refine (unhide CN _).mono ?_
      rintro e w9 ⟨s, F9, rfl, hs9, hb9⟩
      have HB9 : Hid (Below w.heap.size w w9) := hide (bel3 (unhide HB8) (Below.refl _ _) hb9)
      have HS9 := hide hs9
      clear HB8 hb9 hs9
      go_wp2_with fail
      cases hu : TokenM.timeB u with
      | false =>
        have CT : Hid (∀ (B s : Nat) (F : List Nat) (w : World), SOwn B w s F (⟨0, key, 0, long, [], 0, 0, [], [], 0⟩ : ServM.St) → Calls Try.prog 7 #[.pointer (some ⟨s, 0, none⟩), .int .i64 u] w fun e w' => e = .returned (.tuple #[.agg #[.int .i64 0, .int .i64 0, .int .i64 0, .int .i64 0], .iface 59 (.int .i64 1)]) ∧ SStep B w w' s F (⟨0, key, 0, long, [], 0, 0, [], [], 0⟩ : ServM.St)) := hide (fun B s F w h0 => by
          have q := sticket_any (u := u) w h0 good
          obtain ⟨e1, e2, e3, e4, e5, e6⟩ := ServM.t_no (x := (⟨0, key, 0, long, [], 0, 0, [], [], 0⟩ : ServM.St)) hu
          rw [e1, e2, e3, e4, e5, e6, errV_pos (by omega)] at q
          exact q)
        rcases (TokenM.timeB_not u).1 hu with g | g
        · refine (unhide CT _ _ _ _ (unhide HS9)).mono ?_
          rintro e w10 ⟨rfl, hs10⟩
          have HB10 : Hid (Below w.heap.size w w10) := hide (hs10.below0 (unhide HS9) (unhide HB9) (unhide HB9).size zB)
          obtain ⟨F10, own10, lk10⟩ := hs10
          have HS10 := hide own10
          clear HS9 HB9 own10 lk10
          go_wp2
          go_ret
          exact ⟨rfl, below_alloc (unhide HB10) _⟩
        · have g0 : ¬ u < 0 := by omega
          refine (unhide CT _ _ _ _ (unhide HS9)).mono ?_
          rintro e w10 ⟨rfl, hs10⟩
          have HB10 : Hid (Below w.heap.size w w10) := hide (hs10.below0 (unhide HS9) (unhide HB9) (unhide HB9).size zB)
          obtain ⟨F10, own10, lk10⟩ := hs10
          have HS10 := hide own10
          clear HS9 HB9 own10 lk10
          go_wp2
          go_ret
          exact ⟨rfl, below_alloc (unhide HB10) _⟩
      | true =>
        have CT : Hid (∀ (B s : Nat) (F : List Nat) (w : World), SOwn B w s F (⟨0, key, 0, long, [], 0, 0, [], [], 0⟩ : ServM.St) → Calls Try.prog 7 #[.pointer (some ⟨s, 0, none⟩), .int .i64 u] w fun e w' => e = .returned (.tuple #[.agg #[.int .i64 0, .int .i64 0, .int .i64 u, .int .i64 (TagM.tag key [2, 0, u])], .nilIface]) ∧ SStep B w w' s F (⟨0, key, 0, long, [], 1, 8, [], [], 0⟩ : ServM.St)) := hide (fun B s F w h0 => by
          have q := sticket_any (u := u) w h0 good
          obtain ⟨e1, e2, e3, e4, e5, e6⟩ := ServM.t_yes (x := (⟨0, key, 0, long, [], 0, 0, [], [], 0⟩ : ServM.St)) hu (by show ¬ (0 : Int) = 1000; decide)
          rw [e1, e2, e3, e4, e5, e6, errV_zero rfl] at q
          exact q)
        have GX : Hid (ServM.Good (⟨0, key, 0, long, [], 1, 8, [], [], 0⟩ : ServM.St)) := hide (by
          have q := ServM.tick_good (u := u) good
          obtain ⟨_, _, _, _, _, e6⟩ := ServM.t_yes (x := (⟨0, key, 0, long, [], 0, 0, [], [], 0⟩ : ServM.St)) hu (by show ¬ (0 : Int) = 1000; decide)
          rw [e6] at q
          exact q)
        generalize TagM.tag key [2, 0, u] = g at CT
        clear good hu
        refine (unhide CT _ _ _ _ (unhide HS9)).mono ?_
        rintro e w10 ⟨rfl, hs10⟩
        have HB10 : Hid (Below w.heap.size w w10) := hide (hs10.below0 (unhide HS9) (unhide HB9) (unhide HB9).size zB)
        obtain ⟨F10, own10, lk10⟩ := hs10
        have HS10 := hide own10
        clear HS9 HB9 own10 lk10
        clear CT
        go_wp2
        have HT11 : Hid (Held (w10.alloc (.cells #[.int .i64 0, .int .i64 0, .int .i64 u, .int .i64 g] 29)) w10.heap.size (n4 0 0 u g)) := hide (Held.fresh (w := w10) (n4 0 0 u g) 29 rfl)
        have HS11 := hide ((unhide HS10).alloc (.cells #[.int .i64 0, .int .i64 0, .int .i64 u, .int .i64 g] 29))
        have HNT11 := hide ((unhide HS10).out (Nat.le_refl w10.heap.size))
        have HB11 : Hid (Below w.heap.size w (w10.alloc (.cells #[.int .i64 0, .int .i64 0, .int .i64 u, .int .i64 g] 29))) := hide (below_alloc (unhide HB10) _)
        clear HS10 HB10
        generalize (w10.alloc (.cells #[.int .i64 0, .int .i64 0, .int .i64 u, .int .i64 g] 29)) = w11 at HT11 HB11 HS11 ⊢
        generalize w10.heap.size = bt at HT11 HNT11 ⊢
        have HIV : Hid (ServM.Inv u (⟨0, key, 0, long, [], 1, 8, [], [], 0⟩ : ServM.St) (-1) 0) := hide ⟨by show (-1 : Int) < 0; omega, .inl ⟨rfl, rfl, rfl⟩⟩
        generalize (⟨0, key, 0, long, [], 1, 8, [], [], 0⟩ : ServM.St) = x0 at GX HIV HS11
        go_loopw [24, 25, 26, 27] (fun a0 b0 c0 i0 wr => ∃ (k : Nat) (la cn so : Int) (F : List Nat) (x : ServM.St), k ≤ 60 ∧ a0 = .int .i64 la ∧ b0 = .int .i64 cn ∧ c0 = .int .i64 so ∧ i0 = .int .i64 k ∧ 0 ≤ so ∧ so ≤ 1 ∧ Hid (ServM.Good x) ∧ Hid (ServM.Inv u x cn so) ∧ Hid (SOwn w8.heap.size wr s F x) ∧ Hid (Held wr bt (n4 0 0 u g)) ∧ Hid (bt ∉ F) ∧ Hid (Below w.heap.size w wr)) (fun _ _ _ i0 _ => 60 - (intOf i0).toNat)
        case atStart => exact ⟨0, -1, -1, 0, _, x0, by omega, rfl, rfl, rfl, rfl, by omega, by omega, GX, HIV, HS11, HT11, HNT11, HB11⟩
        case round =>
          clear GX HIV HS11 HT11 HNT11 HB11
          obtain ⟨k, la, cn, so, F, x, hk, rfl, rfl, rfl, rfl, so0, so1, GX, IV, HS, HT, HNT, HB⟩ := hrel
          by_cases hkd : (k : Int) < (dlen : Int)
          · by_cases hkl : (k : Int) < (len : Int)
            · by_cases hk1 : (k : Int) < 60
              · obtain ⟨db, doff, rfl, hd'⟩ := (unhide HDI).2 k (by rw [unhide HDL]; omega)
                have hdc := cell_later (unhide HB) hd'
                obtain ⟨pb, off, rfl, hx'⟩ := (unhide HLI).2 k (by rw [unhide HLL]; omega)
                have hx := cell_later (unhide HB) hx'
                have hpw : pb < w.heap.size := World.block_lt_of_cell? _ _ hx'
                have hk0 : (0 : Int) ≤ (k : Int) := by omega
                generalize ds.getD k 0 = d at hdc
                generalize zs.getD k 0 = tm at hx
                clear hd' hx'
                by_cases hd0 : d = 0
                · subst hd0
                  go_wp2_with fail
                  refine (scrash_any _ (unhide GX).nm (unhide HS)).mono ?_
                  rintro e w9 ⟨rfl, hs9⟩
                  have HB9 : Hid (Below w.heap.size w w9) := hide (hs9.below0 (unhide HS) (unhide HB) (unhide HB).size zB)
                  obtain ⟨F9, own9, lk9⟩ := hs9
                  have HS9 := hide own9
                  have HT9 := hide (lk9.2.held (unhide HT) (unhide HNT))
                  have HN9 := hide (lk9.off (unhide HNT) (unhide HT).2)
                  have GX9 := hide (ServM.crash_good (unhide GX))
                  have IV9 := hide ((unhide IV).crash)
                  clear own9 lk9 hdc hx
                  go_wp2
                  go_roundw
                  case rel => exact ⟨k + 1, la, cn, so, F9, (ServM.crash x), by omega, rfl, rfl, by first | rfl | (congr 1; omega), by go_num, by omega, by omega, GX9, IV9, HS9, HT9, HN9, HB9⟩
                  case measure => simp [intOf]; omega
                · by_cases hd1 : d = 1
                  · subst hd1
                    go_wp2_with fail
                    refine (sturn_any _ (unhide HS)).mono ?_
                    rintro e w9 ⟨rfl, hs9⟩
                    have HB9 : Hid (Below w.heap.size w w9) := hide (hs9.below0 (unhide HS) (unhide HB) (unhide HB).size zB)
                    obtain ⟨F9, own9, lk9⟩ := hs9
                    have HS9 := hide own9
                    have HT9 := hide (lk9.2.held (unhide HT) (unhide HNT))
                    have HN9 := hide (lk9.off (unhide HNT) (unhide HT).2)
                    have GX9 := hide (ServM.turn_good (unhide GX))
                    have IV9 := hide ((unhide IV).turn)
                    clear own9 lk9 hdc hx
                    go_wp2
                    go_roundw
                    case rel => exact ⟨k + 1, la, cn, so, F9, (ServM.turn x), by omega, rfl, rfl, by first | rfl | (congr 1; omega), by go_num, by omega, by omega, GX9, IV9, HS9, HT9, HN9, HB9⟩
                    case measure => simp [intOf]; omega
                  · by_cases hd2 : d = 2
                    · subst hd2
                      go_wp2_with fail
                      refine (spull_any _ (unhide GX) (unhide HS)).mono ?_
                      rintro e w9 ⟨rfl, hs9⟩
                      have HB9 : Hid (Below w.heap.size w w9) := hide (hs9.below0 (unhide HS) (unhide HB) (unhide HB).size zB)
                      obtain ⟨F9, own9, lk9⟩ := hs9
                      have HS9 := hide own9
                      have HT9 := hide (lk9.2.held (unhide HT) (unhide HNT))
                      have HN9 := hide (lk9.off (unhide HNT) (unhide HT).2)
                      have GX9 := hide (ServM.pull_good (unhide GX))
                      have IV9 := hide ((unhide IV).pull)
                      clear own9 lk9 hdc hx
                      go_wp2
                      go_roundw
                      case rel => exact ⟨k + 1, la, cn, so, F9, (ServM.pull x), by omega, rfl, rfl, by first | rfl | (congr 1; omega), by go_num, by omega, by omega, GX9, IV9, HS9, HT9, HN9, HB9⟩
                      case measure => simp [intOf]; omega
                    · by_cases hd3 : d = 3
                      · subst hd3
                        go_wp2_with fail
                        refine (sticket_any (u := u) _ (unhide HS) (unhide GX)).mono ?_
                        rintro e w9 ⟨rfl, hs9⟩
                        have HB9 : Hid (Below w.heap.size w w9) := hide (hs9.below0 (unhide HS) (unhide HB) (unhide HB).size zB)
                        obtain ⟨F9, own9, lk9⟩ := hs9
                        have HS9 := hide own9
                        have HT9 := hide (lk9.2.held (unhide HT) (unhide HNT))
                        have HN9 := hide (lk9.off (unhide HNT) (unhide HT).2)
                        have GX9 := hide (ServM.tick_good (u := u) (unhide GX))
                        have IV9 := hide ((unhide IV).tick (v := u))
                        clear own9 lk9 hdc hx
                        go_wp2
                        go_roundw
                        case rel => exact ⟨k + 1, la, cn, so, F9, (ServM.tick x u), by omega, rfl, rfl, by first | rfl | (congr 1; omega), by go_num, by omega, by omega, GX9, IV9, HS9, HT9, HN9, HB9⟩
                        case measure => simp [intOf]; omega
                      · have hq0 : (d == 0) = false := by simp [hd0]
                        have hq1 : (d == 1) = false := by simp [hd1]
                        have hq2 : (d == 2) = false := by simp [hd2]
                        have hq3 : (d == 3) = false := by simp [hd3]
                        by_cases hlt : tm < la
                        · go_wp2
                          go_roundw
                          case rel => exact ⟨k + 1, la, cn, so, F, x, by omega, rfl, rfl, by first | rfl | (congr 1; omega), by go_num, by omega, by omega, GX, IV, HS, HT, HNT, HB⟩
                          case measure => simp [intOf]; omega
                        · obtain ⟨hi, hie⟩ : ∃ hi : ServM.Hi, hi = ⟨ad, 0, 0, 0, 0, 0, 0, u, g, ⟨#[120]⟩⟩ := ⟨_, rfl⟩
                          rcases ServM.inv_ways (h := hi) (now := tm) (unhide GX) (by rw [hie]) (by rw [hie]) (unhide IV) with ⟨e1, e2⟩ | ⟨e1, e2, e3, e4⟩ | ⟨e1, e2, e3, e4, e5, e6⟩ | ⟨e1, e2, e3, e4, e5, e7, e8, e6⟩
                          · have CH : Hid (∀ w : World, SOwn w8.heap.size w s F x → Calls Try.prog 8 #[.pointer (some ⟨s, 0, none⟩), .agg #[.int .i64 ad, .int .i64 0, .int .i64 0, .int .i64 0, .int .i64 0, .int .i64 0, .int .i64 0, .int .i64 u, .int .i64 g, .string ⟨#[120]⟩], .int .i64 tm] w fun e w' => e = .returned (.tuple #[.agg #[.int .i64 (ServM.aKind x hi tm), .int .i64 (ServM.aEp x hi tm), .int .i64 (ServM.aAd x hi tm), .int .i64 (ServM.aTi x hi tm), .int .i64 (ServM.aTg x hi tm), .int .i64 0, .int .i64 (ServM.aCo x hi tm), .bool (ServM.soon x hi tm)], .iface 59 (.int .i64 (ServM.err x hi tm))]) ∧ SStep w8.heap.size w w' s F x) := hide (fun w h0 => by
                              have q := shello_any hi tm w (unhide GX) h0
                              rw [e2, errV_pos e1] at q
                              subst hie
                              exact q)
                            generalize ServM.aKind x hi tm = aK at CH
                            generalize ServM.aEp x hi tm = aE at CH
                            generalize ServM.aAd x hi tm = aA at CH
                            generalize ServM.aTi x hi tm = aT at CH
                            generalize ServM.aTg x hi tm = aG at CH
                            generalize ServM.aCo x hi tm = aC at CH
                            generalize ServM.soon x hi tm = aS at CH
                            generalize ServM.err x hi tm = aX at CH
                            clear e1 e2 hie
                            have hpl : pb < wr.heap.size := World.block_lt_of_cell? _ _ hx
                            have hpF : pb ∉ F := fun hm => by have := ((unhide HS).all _ hm).1; omega
                            have HX0 := hide hx
                            obtain ⟨t0, t1, t2, t3⟩ := (unhide HT).c4.1
                            have tl := (unhide HT).2
                            go_wp2
                            have hnF : wr.heap.size ∉ F := (unhide HS).out (Nat.le_refl _)
                            have RS : Hid (∀ W : World, Kept F wr W → Hid (Kept F wr W) ∧ W.cell? ⟨bt, 0, none⟩ = some (.int .i64 0) ∧ W.cell? ⟨bt, 1, none⟩ = some (.int .i64 0) ∧ W.cell? ⟨bt, 2, none⟩ = some (.int .i64 u) ∧ W.cell? ⟨bt, 3, none⟩ = some (.int .i64 g) ∧ W.cell? ⟨pb, off + k, none⟩ = some (.int .i64 tm)) := hide (fun W hk => ⟨hide hk, (hk.held (unhide HT) (unhide HNT)).c4.1.1, (hk.held (unhide HT) (unhide HNT)).c4.1.2.1, (hk.held (unhide HT) (unhide HNT)).c4.1.2.2.1, (hk.held (unhide HT) (unhide HNT)).c4.1.2.2.2, (by rw [hk.cell hpl hpF]; exact unhide HX0)⟩)
                            have hR0 : Hid (Kept F wr wr.drew) ∧ wr.drew.cell? ⟨bt, 0, none⟩ = some (.int .i64 0) ∧ wr.drew.cell? ⟨bt, 1, none⟩ = some (.int .i64 0) ∧ wr.drew.cell? ⟨bt, 2, none⟩ = some (.int .i64 u) ∧ wr.drew.cell? ⟨bt, 3, none⟩ = some (.int .i64 g) ∧ wr.drew.cell? ⟨pb, off + k, none⟩ = some (.int .i64 tm) := unhide RS _ (Kept.refl _ _).drew
                            have hR1 : Hid (Kept F wr (wr.alloc (.cells #[.int .i64 0, .int .i64 0, .int .i64 0, .int .i64 0, .int .i64 0, .int .i64 0, .int .i64 0, .bool false] 37)).drew) ∧ (wr.alloc (.cells #[.int .i64 0, .int .i64 0, .int .i64 0, .int .i64 0, .int .i64 0, .int .i64 0, .int .i64 0, .bool false] 37)).drew.cell? ⟨bt, 0, none⟩ = some (.int .i64 0) ∧ (wr.alloc (.cells #[.int .i64 0, .int .i64 0, .int .i64 0, .int .i64 0, .int .i64 0, .int .i64 0, .int .i64 0, .bool false] 37)).drew.cell? ⟨bt, 1, none⟩ = some (.int .i64 0) ∧ (wr.alloc (.cells #[.int .i64 0, .int .i64 0, .int .i64 0, .int .i64 0, .int .i64 0, .int .i64 0, .int .i64 0, .bool false] 37)).drew.cell? ⟨bt, 2, none⟩ = some (.int .i64 u) ∧ (wr.alloc (.cells #[.int .i64 0, .int .i64 0, .int .i64 0, .int .i64 0, .int .i64 0, .int .i64 0, .int .i64 0, .bool false] 37)).drew.cell? ⟨bt, 3, none⟩ = some (.int .i64 g) ∧ (wr.alloc (.cells #[.int .i64 0, .int .i64 0, .int .i64 0, .int .i64 0, .int .i64 0, .int .i64 0, .int .i64 0, .bool false] 37)).drew.cell? ⟨pb, off + k, none⟩ = some (.int .i64 tm) := unhide RS _ ((Kept.refl _ _).alloc _).drew
                            go_region_held3 (fun w' => Hid (Kept F wr w') ∧ w'.cell? ⟨bt, 0, none⟩ = some (.int .i64 0) ∧ w'.cell? ⟨bt, 1, none⟩ = some (.int .i64 0) ∧ w'.cell? ⟨bt, 2, none⟩ = some (.int .i64 u) ∧ w'.cell? ⟨bt, 3, none⟩ = some (.int .i64 g) ∧ w'.cell? ⟨pb, off + k, none⟩ = some (.int .i64 tm)) (with_reducible assumption)
                              (first | (go_at_call 8; refine (unhide CH _ (by first | exact (unhide HS).drew | exact ((unhide HS).alloc _).drew)).mono ?_; rintro e w' ⟨rfl, hs⟩; have hk := hs.keep; have hS3 : Hid (Kept F wr w') ∧ w'.cell? ⟨bt, 0, none⟩ = some (.int .i64 0) ∧ w'.cell? ⟨bt, 1, none⟩ = some (.int .i64 0) ∧ w'.cell? ⟨bt, 2, none⟩ = some (.int .i64 u) ∧ w'.cell? ⟨bt, 3, none⟩ = some (.int .i64 g) ∧ w'.cell? ⟨pb, off + k, none⟩ = some (.int .i64 tm) := unhide RS w' (Kept.trans (unhide (And.left ‹Hid (Kept F wr _) ∧ _›)) hk); have hA3 : Hid (Kept F wr (w'.alloc (.cells #[.int .i64 0, .int .i64 0, .int .i64 0, .int .i64 0, .int .i64 0, .int .i64 0, .int .i64 0, .bool false] 37))) ∧ (w'.alloc (.cells #[.int .i64 0, .int .i64 0, .int .i64 0, .int .i64 0, .int .i64 0, .int .i64 0, .int .i64 0, .bool false] 37)).cell? ⟨bt, 0, none⟩ = some (.int .i64 0) ∧ (w'.alloc (.cells #[.int .i64 0, .int .i64 0, .int .i64 0, .int .i64 0, .int .i64 0, .int .i64 0, .int .i64 0, .bool false] 37)).cell? ⟨bt, 1, none⟩ = some (.int .i64 0) ∧ (w'.alloc (.cells #[.int .i64 0, .int .i64 0, .int .i64 0, .int .i64 0, .int .i64 0, .int .i64 0, .int .i64 0, .bool false] 37)).cell? ⟨bt, 2, none⟩ = some (.int .i64 u) ∧ (w'.alloc (.cells #[.int .i64 0, .int .i64 0, .int .i64 0, .int .i64 0, .int .i64 0, .int .i64 0, .int .i64 0, .bool false] 37)).cell? ⟨bt, 3, none⟩ = some (.int .i64 g) ∧ (w'.alloc (.cells #[.int .i64 0, .int .i64 0, .int .i64 0, .int .i64 0, .int .i64 0, .int .i64 0, .int .i64 0, .bool false] 37)).cell? ⟨pb, off + k, none⟩ = some (.int .i64 tm) := unhide RS _ (Kept.alloc (unhide (And.left hS3)) _); have hA4 : Hid (Kept F wr (w'.alloc (.cells #[.int .i64 aK, .int .i64 aE, .int .i64 aA, .int .i64 aT, .int .i64 aG, .int .i64 0, .int .i64 aC, .bool aS] 37))) ∧ (w'.alloc (.cells #[.int .i64 aK, .int .i64 aE, .int .i64 aA, .int .i64 aT, .int .i64 aG, .int .i64 0, .int .i64 aC, .bool aS] 37)).cell? ⟨bt, 0, none⟩ = some (.int .i64 0) ∧ (w'.alloc (.cells #[.int .i64 aK, .int .i64 aE, .int .i64 aA, .int .i64 aT, .int .i64 aG, .int .i64 0, .int .i64 aC, .bool aS] 37)).cell? ⟨bt, 1, none⟩ = some (.int .i64 0) ∧ (w'.alloc (.cells #[.int .i64 aK, .int .i64 aE, .int .i64 aA, .int .i64 aT, .int .i64 aG, .int .i64 0, .int .i64 aC, .bool aS] 37)).cell? ⟨bt, 2, none⟩ = some (.int .i64 u) ∧ (w'.alloc (.cells #[.int .i64 aK, .int .i64 aE, .int .i64 aA, .int .i64 aT, .int .i64 aG, .int .i64 0, .int .i64 aC, .bool aS] 37)).cell? ⟨bt, 3, none⟩ = some (.int .i64 g) ∧ (w'.alloc (.cells #[.int .i64 aK, .int .i64 aE, .int .i64 aA, .int .i64 aT, .int .i64 aG, .int .i64 0, .int .i64 aC, .bool aS] 37)).cell? ⟨pb, off + k, none⟩ = some (.int .i64 tm) := unhide RS _ (Kept.alloc (unhide (And.left hS3)) _); have hC : Hid (Kept F wr ((((((((w'.setCell ⟨wr.heap.size, 0, none⟩ (.int .i64 aK)).setCell ⟨wr.heap.size, 1, none⟩ (.int .i64 aE)).setCell ⟨wr.heap.size, 2, none⟩ (.int .i64 aA)).setCell ⟨wr.heap.size, 3, none⟩ (.int .i64 aT)).setCell ⟨wr.heap.size, 4, none⟩ (.int .i64 aG)).setCell ⟨wr.heap.size, 5, none⟩ (.int .i64 0)).setCell ⟨wr.heap.size, 6, none⟩ (.int .i64 aC)).setCell ⟨wr.heap.size, 7, none⟩ (.bool aS))) ∧ ((((((((w'.setCell ⟨wr.heap.size, 0, none⟩ (.int .i64 aK)).setCell ⟨wr.heap.size, 1, none⟩ (.int .i64 aE)).setCell ⟨wr.heap.size, 2, none⟩ (.int .i64 aA)).setCell ⟨wr.heap.size, 3, none⟩ (.int .i64 aT)).setCell ⟨wr.heap.size, 4, none⟩ (.int .i64 aG)).setCell ⟨wr.heap.size, 5, none⟩ (.int .i64 0)).setCell ⟨wr.heap.size, 6, none⟩ (.int .i64 aC)).setCell ⟨wr.heap.size, 7, none⟩ (.bool aS)).cell? ⟨bt, 0, none⟩ = some (.int .i64 0) ∧ ((((((((w'.setCell ⟨wr.heap.size, 0, none⟩ (.int .i64 aK)).setCell ⟨wr.heap.size, 1, none⟩ (.int .i64 aE)).setCell ⟨wr.heap.size, 2, none⟩ (.int .i64 aA)).setCell ⟨wr.heap.size, 3, none⟩ (.int .i64 aT)).setCell ⟨wr.heap.size, 4, none⟩ (.int .i64 aG)).setCell ⟨wr.heap.size, 5, none⟩ (.int .i64 0)).setCell ⟨wr.heap.size, 6, none⟩ (.int .i64 aC)).setCell ⟨wr.heap.size, 7, none⟩ (.bool aS)).cell? ⟨bt, 1, none⟩ = some (.int .i64 0) ∧ ((((((((w'.setCell ⟨wr.heap.size, 0, none⟩ (.int .i64 aK)).setCell ⟨wr.heap.size, 1, none⟩ (.int .i64 aE)).setCell ⟨wr.heap.size, 2, none⟩ (.int .i64 aA)).setCell ⟨wr.heap.size, 3, none⟩ (.int .i64 aT)).setCell ⟨wr.heap.size, 4, none⟩ (.int .i64 aG)).setCell ⟨wr.heap.size, 5, none⟩ (.int .i64 0)).setCell ⟨wr.heap.size, 6, none⟩ (.int .i64 aC)).setCell ⟨wr.heap.size, 7, none⟩ (.bool aS)).cell? ⟨bt, 2, none⟩ = some (.int .i64 u) ∧ ((((((((w'.setCell ⟨wr.heap.size, 0, none⟩ (.int .i64 aK)).setCell ⟨wr.heap.size, 1, none⟩ (.int .i64 aE)).setCell ⟨wr.heap.size, 2, none⟩ (.int .i64 aA)).setCell ⟨wr.heap.size, 3, none⟩ (.int .i64 aT)).setCell ⟨wr.heap.size, 4, none⟩ (.int .i64 aG)).setCell ⟨wr.heap.size, 5, none⟩ (.int .i64 0)).setCell ⟨wr.heap.size, 6, none⟩ (.int .i64 aC)).setCell ⟨wr.heap.size, 7, none⟩ (.bool aS)).cell? ⟨bt, 3, none⟩ = some (.int .i64 g) ∧ ((((((((w'.setCell ⟨wr.heap.size, 0, none⟩ (.int .i64 aK)).setCell ⟨wr.heap.size, 1, none⟩ (.int .i64 aE)).setCell ⟨wr.heap.size, 2, none⟩ (.int .i64 aA)).setCell ⟨wr.heap.size, 3, none⟩ (.int .i64 aT)).setCell ⟨wr.heap.size, 4, none⟩ (.int .i64 aG)).setCell ⟨wr.heap.size, 5, none⟩ (.int .i64 0)).setCell ⟨wr.heap.size, 6, none⟩ (.int .i64 aC)).setCell ⟨wr.heap.size, 7, none⟩ (.bool aS)).cell? ⟨pb, off + k, none⟩ = some (.int .i64 tm) := unhide RS _ (Kept.setCell (F := F) (p := ⟨wr.heap.size, 7, none⟩) (Kept.setCell (F := F) (p := ⟨wr.heap.size, 6, none⟩) (Kept.setCell (F := F) (p := ⟨wr.heap.size, 5, none⟩) (Kept.setCell (F := F) (p := ⟨wr.heap.size, 4, none⟩) (Kept.setCell (F := F) (p := ⟨wr.heap.size, 3, none⟩) (Kept.setCell (F := F) (p := ⟨wr.heap.size, 2, none⟩) (Kept.setCell (F := F) (p := ⟨wr.heap.size, 1, none⟩) (Kept.setCell (F := F) (p := ⟨wr.heap.size, 0, none⟩) (unhide (And.left hS3)) (.inr (Nat.le_refl _)) (.int .i64 aK)) (.inr (Nat.le_refl _)) (.int .i64 aE)) (.inr (Nat.le_refl _)) (.int .i64 aA)) (.inr (Nat.le_refl _)) (.int .i64 aT)) (.inr (Nat.le_refl _)) (.int .i64 aG)) (.inr (Nat.le_refl _)) (.int .i64 0)) (.inr (Nat.le_refl _)) (.int .i64 aC)) (.inr (Nat.le_refl _)) (.bool aS)); try (have hfa := (hk.fresh8 hnF).c8; have hfl := (hk.fresh8 hnF).2; obtain ⟨⟨hx0, hx1, hx2, hx3, hx4, hx5, hx6, hx7⟩, ⟨hxf0, hxf1, hxf2, hxf3, hxf4, hxf5, hxf6, hxf7⟩⟩ := hfa)))
                            · obtain ⟨F2, own2, lk2⟩ := hs
                              have HX2 : Hid (Held (w'.alloc (.cells #[.int .i64 aK, .int .i64 aE, .int .i64 aA, .int .i64 aT, .int .i64 aG, .int .i64 0, .int .i64 aC, .bool aS] 37)) w'.heap.size (na aK aE aA aT aG aC aS)) := hide (Held.fresh (w := w') (na aK aE aA aT aG aC aS) 37 rfl)
                              have HS2 := hide (own2.alloc (.cells #[.int .i64 aK, .int .i64 aE, .int .i64 aA, .int .i64 aT, .int .i64 aG, .int .i64 0, .int .i64 aC, .bool aS] 37))
                              have HL2 : Hid (SLink wr (w'.alloc (.cells #[.int .i64 aK, .int .i64 aE, .int .i64 aA, .int .i64 aT, .int .i64 aG, .int .i64 0, .int .i64 aC, .bool aS] 37)) F F2) := hide ⟨fun k hk => (lk2.1 k hk).imp_right (fun q => q), unhide (And.left hA4)⟩
                              have hxb : wr.heap.size ≤ w'.heap.size := hk.size
                              obtain ⟨-, cc0, cc1, cc2, cc3, cc4⟩ := hA4
                              clear own2 lk2 hk RS hR0 hR1 hS3 hA3 hC hnF
                              generalize (w'.alloc (.cells #[.int .i64 aK, .int .i64 aE, .int .i64 aA, .int .i64 aT, .int .i64 aG, .int .i64 0, .int .i64 aC, .bool aS] 37)) = W2 at HX2 HS2 HL2 cc0 cc1 cc2 cc3 cc4 ⊢
                              generalize w'.heap.size = xb at HX2 hxb ⊢
                              have HB9 : Hid (Below w.heap.size w W2) := hide ((unhide HL2).2.below (unhide HB) (unhide HB).size (fun k hk => Nat.le_trans zB ((unhide HS).all k hk).1))
                              have HT9 := hide ((unhide HL2).2.held (unhide HT) (unhide HNT))
                              have HN9 := hide ((unhide HL2).off (unhide HNT) (unhide HT).2)
                              have HS9 := HS2
                              clear HL2 cc0 cc1 cc2 cc3 t0 t1 t2 t3 tl hx hpl hpF HX0 hdc
                              clear cc4
                              go_wp2
                              go_roundw
                              case rel => exact ⟨k + 1, la, cn, so, F2, x, by omega, rfl, rfl, by first | rfl | (congr 1; omega), by go_num, by omega, by omega, GX, IV, HS9, HT9, HN9, HB9⟩
                              case measure => simp [intOf]; omega
                            · obtain ⟨F2, own2, lk2⟩ := hs
                              have HX2 : Hid (Held ((((((((w'.setCell ⟨wr.heap.size, 0, none⟩ (.int .i64 aK)).setCell ⟨wr.heap.size, 1, none⟩ (.int .i64 aE)).setCell ⟨wr.heap.size, 2, none⟩ (.int .i64 aA)).setCell ⟨wr.heap.size, 3, none⟩ (.int .i64 aT)).setCell ⟨wr.heap.size, 4, none⟩ (.int .i64 aG)).setCell ⟨wr.heap.size, 5, none⟩ (.int .i64 0)).setCell ⟨wr.heap.size, 6, none⟩ (.int .i64 aC)).setCell ⟨wr.heap.size, 7, none⟩ (.bool aS)) wr.heap.size (na aK aE aA aT aG aC aS)) := hide (((((((((hk.fresh8 hnF).put 0 (.int .i64 aK)).put 1 (.int .i64 aE)).put 2 (.int .i64 aA)).put 3 (.int .i64 aT)).put 4 (.int .i64 aG)).put 5 (.int .i64 0)).put 6 (.int .i64 aC)).put 7 (.bool aS))
                              have HS2 := hide (own2.kept (w' := ((((((((w'.setCell ⟨wr.heap.size, 0, none⟩ (.int .i64 aK)).setCell ⟨wr.heap.size, 1, none⟩ (.int .i64 aE)).setCell ⟨wr.heap.size, 2, none⟩ (.int .i64 aA)).setCell ⟨wr.heap.size, 3, none⟩ (.int .i64 aT)).setCell ⟨wr.heap.size, 4, none⟩ (.int .i64 aG)).setCell ⟨wr.heap.size, 5, none⟩ (.int .i64 0)).setCell ⟨wr.heap.size, 6, none⟩ (.int .i64 aC)).setCell ⟨wr.heap.size, 7, none⟩ (.bool aS))) (Kept.setCell (p := ⟨wr.heap.size, 7, none⟩) (Kept.setCell (p := ⟨wr.heap.size, 6, none⟩) (Kept.setCell (p := ⟨wr.heap.size, 5, none⟩) (Kept.setCell (p := ⟨wr.heap.size, 4, none⟩) (Kept.setCell (p := ⟨wr.heap.size, 3, none⟩) (Kept.setCell (p := ⟨wr.heap.size, 2, none⟩) (Kept.setCell (p := ⟨wr.heap.size, 1, none⟩) (Kept.setCell (p := ⟨wr.heap.size, 0, none⟩) (Kept.refl [wr.heap.size] w') (.inl (List.mem_singleton.2 rfl)) (.int .i64 aK)) (.inl (List.mem_singleton.2 rfl)) (.int .i64 aE)) (.inl (List.mem_singleton.2 rfl)) (.int .i64 aA)) (.inl (List.mem_singleton.2 rfl)) (.int .i64 aT)) (.inl (List.mem_singleton.2 rfl)) (.int .i64 aG)) (.inl (List.mem_singleton.2 rfl)) (.int .i64 0)) (.inl (List.mem_singleton.2 rfl)) (.int .i64 aC)) (.inl (List.mem_singleton.2 rfl)) (.bool aS)) (fun k hk hm => by
                                rw [List.mem_singleton.1 hm] at hk
                                rcases lk2.1 _ hk with q | q
                                · exact hnF q
                                · simp at q; omega))
                              have HL2 : Hid (SLink wr ((((((((w'.setCell ⟨wr.heap.size, 0, none⟩ (.int .i64 aK)).setCell ⟨wr.heap.size, 1, none⟩ (.int .i64 aE)).setCell ⟨wr.heap.size, 2, none⟩ (.int .i64 aA)).setCell ⟨wr.heap.size, 3, none⟩ (.int .i64 aT)).setCell ⟨wr.heap.size, 4, none⟩ (.int .i64 aG)).setCell ⟨wr.heap.size, 5, none⟩ (.int .i64 0)).setCell ⟨wr.heap.size, 6, none⟩ (.int .i64 aC)).setCell ⟨wr.heap.size, 7, none⟩ (.bool aS)) F F2) := hide ⟨fun k hk => (lk2.1 k hk).imp_right (fun q => by simp at q; omega), unhide (And.left hC)⟩
                              obtain ⟨-, cc0, cc1, cc2, cc3, cc4⟩ := hC
                              clear own2 lk2 hk RS hR0 hR1 hS3 hA3 hA4 hnF hx0 hx1 hx2 hx3 hx4 hx5 hx6 hx7 hxf0 hxf1 hxf2 hxf3 hxf4 hxf5 hxf6 hxf7 hfl
                              generalize ((((((((w'.setCell ⟨wr.heap.size, 0, none⟩ (.int .i64 aK)).setCell ⟨wr.heap.size, 1, none⟩ (.int .i64 aE)).setCell ⟨wr.heap.size, 2, none⟩ (.int .i64 aA)).setCell ⟨wr.heap.size, 3, none⟩ (.int .i64 aT)).setCell ⟨wr.heap.size, 4, none⟩ (.int .i64 aG)).setCell ⟨wr.heap.size, 5, none⟩ (.int .i64 0)).setCell ⟨wr.heap.size, 6, none⟩ (.int .i64 aC)).setCell ⟨wr.heap.size, 7, none⟩ (.bool aS)) = W2 at HX2 HS2 HL2 cc0 cc1 cc2 cc3 cc4 ⊢
                              obtain ⟨xb, hxe⟩ : ∃ xb, xb = wr.heap.size := ⟨_, rfl⟩
                              have hxb : wr.heap.size ≤ xb := by omega
                              rw [← hxe] at HX2 ⊢
                              clear hxe
                              have HB9 : Hid (Below w.heap.size w W2) := hide ((unhide HL2).2.below (unhide HB) (unhide HB).size (fun k hk => Nat.le_trans zB ((unhide HS).all k hk).1))
                              have HT9 := hide ((unhide HL2).2.held (unhide HT) (unhide HNT))
                              have HN9 := hide ((unhide HL2).off (unhide HNT) (unhide HT).2)
                              have HS9 := HS2
                              clear HL2 cc0 cc1 cc2 cc3 t0 t1 t2 t3 tl hx hpl hpF HX0 hdc
                              clear cc4
                              go_wp2
                              go_roundw
                              case rel => exact ⟨k + 1, la, cn, so, F2, x, by omega, rfl, rfl, by first | rfl | (congr 1; omega), by go_num, by omega, by omega, GX, IV, HS9, HT9, HN9, HB9⟩
                              case measure => simp [intOf]; omega
                          · have CH : Hid (∀ w : World, SOwn w8.heap.size w s F x → Calls Try.prog 8 #[.pointer (some ⟨s, 0, none⟩), .agg #[.int .i64 ad, .int .i64 0, .int .i64 0, .int .i64 0, .int .i64 0, .int .i64 0, .int .i64 0, .int .i64 u, .int .i64 g, .string ⟨#[120]⟩], .int .i64 tm] w fun e w' => e = .returned (.tuple #[.agg #[.int .i64 (ServM.aKind x hi tm), .int .i64 (ServM.aEp x hi tm), .int .i64 (ServM.aAd x hi tm), .int .i64 (ServM.aTi x hi tm), .int .i64 (ServM.aTg x hi tm), .int .i64 0, .int .i64 (ServM.aCo x hi tm), .bool false], .nilIface]) ∧ SStep w8.heap.size w w' s F x) := hide (fun w h0 => by
                              have q := shello_any hi tm w (unhide GX) h0
                              rw [e1, e3, e4, errV_zero rfl] at q
                              subst hie
                              exact q)
                            generalize ServM.aKind x hi tm = aK at CH e2
                            generalize ServM.aEp x hi tm = aE at CH
                            generalize ServM.aAd x hi tm = aA at CH
                            generalize ServM.aTi x hi tm = aT at CH
                            generalize ServM.aTg x hi tm = aG at CH
                            generalize ServM.aCo x hi tm = aC at CH
                            have e5 := beq_no e2
                            clear e1 e3 e4 hie
                            have hpl : pb < wr.heap.size := World.block_lt_of_cell? _ _ hx
                            have hpF : pb ∉ F := fun hm => by have := ((unhide HS).all _ hm).1; omega
                            have HX0 := hide hx
                            obtain ⟨t0, t1, t2, t3⟩ := (unhide HT).c4.1
                            have tl := (unhide HT).2
                            go_wp2
                            have hnF : wr.heap.size ∉ F := (unhide HS).out (Nat.le_refl _)
                            have RS : Hid (∀ W : World, Kept F wr W → Hid (Kept F wr W) ∧ W.cell? ⟨bt, 0, none⟩ = some (.int .i64 0) ∧ W.cell? ⟨bt, 1, none⟩ = some (.int .i64 0) ∧ W.cell? ⟨bt, 2, none⟩ = some (.int .i64 u) ∧ W.cell? ⟨bt, 3, none⟩ = some (.int .i64 g) ∧ W.cell? ⟨pb, off + k, none⟩ = some (.int .i64 tm)) := hide (fun W hk => ⟨hide hk, (hk.held (unhide HT) (unhide HNT)).c4.1.1, (hk.held (unhide HT) (unhide HNT)).c4.1.2.1, (hk.held (unhide HT) (unhide HNT)).c4.1.2.2.1, (hk.held (unhide HT) (unhide HNT)).c4.1.2.2.2, (by rw [hk.cell hpl hpF]; exact unhide HX0)⟩)
                            have hR0 : Hid (Kept F wr wr.drew) ∧ wr.drew.cell? ⟨bt, 0, none⟩ = some (.int .i64 0) ∧ wr.drew.cell? ⟨bt, 1, none⟩ = some (.int .i64 0) ∧ wr.drew.cell? ⟨bt, 2, none⟩ = some (.int .i64 u) ∧ wr.drew.cell? ⟨bt, 3, none⟩ = some (.int .i64 g) ∧ wr.drew.cell? ⟨pb, off + k, none⟩ = some (.int .i64 tm) := unhide RS _ (Kept.refl _ _).drew
                            have hR1 : Hid (Kept F wr (wr.alloc (.cells #[.int .i64 0, .int .i64 0, .int .i64 0, .int .i64 0, .int .i64 0, .int .i64 0, .int .i64 0, .bool false] 37)).drew) ∧ (wr.alloc (.cells #[.int .i64 0, .int .i64 0, .int .i64 0, .int .i64 0, .int .i64 0, .int .i64 0, .int .i64 0, .bool false] 37)).drew.cell? ⟨bt, 0, none⟩ = some (.int .i64 0) ∧ (wr.alloc (.cells #[.int .i64 0, .int .i64 0, .int .i64 0, .int .i64 0, .int .i64 0, .int .i64 0, .int .i64 0, .bool false] 37)).drew.cell? ⟨bt, 1, none⟩ = some (.int .i64 0) ∧ (wr.alloc (.cells #[.int .i64 0, .int .i64 0, .int .i64 0, .int .i64 0, .int .i64 0, .int .i64 0, .int .i64 0, .bool false] 37)).drew.cell? ⟨bt, 2, none⟩ = some (.int .i64 u) ∧ (wr.alloc (.cells #[.int .i64 0, .int .i64 0, .int .i64 0, .int .i64 0, .int .i64 0, .int .i64 0, .int .i64 0, .bool false] 37)).drew.cell? ⟨bt, 3, none⟩ = some (.int .i64 g) ∧ (wr.alloc (.cells #[.int .i64 0, .int .i64 0, .int .i64 0, .int .i64 0, .int .i64 0, .int .i64 0, .int .i64 0, .bool false] 37)).drew.cell? ⟨pb, off + k, none⟩ = some (.int .i64 tm) := unhide RS _ ((Kept.refl _ _).alloc _).drew
                            go_region_held3 (fun w' => Hid (Kept F wr w') ∧ w'.cell? ⟨bt, 0, none⟩ = some (.int .i64 0) ∧ w'.cell? ⟨bt, 1, none⟩ = some (.int .i64 0) ∧ w'.cell? ⟨bt, 2, none⟩ = some (.int .i64 u) ∧ w'.cell? ⟨bt, 3, none⟩ = some (.int .i64 g) ∧ w'.cell? ⟨pb, off + k, none⟩ = some (.int .i64 tm)) (with_reducible assumption)
                              (first | (go_at_call 8; refine (unhide CH _ (by first | exact (unhide HS).drew | exact ((unhide HS).alloc _).drew)).mono ?_; rintro e w' ⟨rfl, hs⟩; have hk := hs.keep; have hS3 : Hid (Kept F wr w') ∧ w'.cell? ⟨bt, 0, none⟩ = some (.int .i64 0) ∧ w'.cell? ⟨bt, 1, none⟩ = some (.int .i64 0) ∧ w'.cell? ⟨bt, 2, none⟩ = some (.int .i64 u) ∧ w'.cell? ⟨bt, 3, none⟩ = some (.int .i64 g) ∧ w'.cell? ⟨pb, off + k, none⟩ = some (.int .i64 tm) := unhide RS w' (Kept.trans (unhide (And.left ‹Hid (Kept F wr _) ∧ _›)) hk); have hA3 : Hid (Kept F wr (w'.alloc (.cells #[.int .i64 0, .int .i64 0, .int .i64 0, .int .i64 0, .int .i64 0, .int .i64 0, .int .i64 0, .bool false] 37))) ∧ (w'.alloc (.cells #[.int .i64 0, .int .i64 0, .int .i64 0, .int .i64 0, .int .i64 0, .int .i64 0, .int .i64 0, .bool false] 37)).cell? ⟨bt, 0, none⟩ = some (.int .i64 0) ∧ (w'.alloc (.cells #[.int .i64 0, .int .i64 0, .int .i64 0, .int .i64 0, .int .i64 0, .int .i64 0, .int .i64 0, .bool false] 37)).cell? ⟨bt, 1, none⟩ = some (.int .i64 0) ∧ (w'.alloc (.cells #[.int .i64 0, .int .i64 0, .int .i64 0, .int .i64 0, .int .i64 0, .int .i64 0, .int .i64 0, .bool false] 37)).cell? ⟨bt, 2, none⟩ = some (.int .i64 u) ∧ (w'.alloc (.cells #[.int .i64 0, .int .i64 0, .int .i64 0, .int .i64 0, .int .i64 0, .int .i64 0, .int .i64 0, .bool false] 37)).cell? ⟨bt, 3, none⟩ = some (.int .i64 g) ∧ (w'.alloc (.cells #[.int .i64 0, .int .i64 0, .int .i64 0, .int .i64 0, .int .i64 0, .int .i64 0, .int .i64 0, .bool false] 37)).cell? ⟨pb, off + k, none⟩ = some (.int .i64 tm) := unhide RS _ (Kept.alloc (unhide (And.left hS3)) _); have hA4 : Hid (Kept F wr (w'.alloc (.cells #[.int .i64 aK, .int .i64 aE, .int .i64 aA, .int .i64 aT, .int .i64 aG, .int .i64 0, .int .i64 aC, .bool false] 37))) ∧ (w'.alloc (.cells #[.int .i64 aK, .int .i64 aE, .int .i64 aA, .int .i64 aT, .int .i64 aG, .int .i64 0, .int .i64 aC, .bool false] 37)).cell? ⟨bt, 0, none⟩ = some (.int .i64 0) ∧ (w'.alloc (.cells #[.int .i64 aK, .int .i64 aE, .int .i64 aA, .int .i64 aT, .int .i64 aG, .int .i64 0, .int .i64 aC, .bool false] 37)).cell? ⟨bt, 1, none⟩ = some (.int .i64 0) ∧ (w'.alloc (.cells #[.int .i64 aK, .int .i64 aE, .int .i64 aA, .int .i64 aT, .int .i64 aG, .int .i64 0, .int .i64 aC, .bool false] 37)).cell? ⟨bt, 2, none⟩ = some (.int .i64 u) ∧ (w'.alloc (.cells #[.int .i64 aK, .int .i64 aE, .int .i64 aA, .int .i64 aT, .int .i64 aG, .int .i64 0, .int .i64 aC, .bool false] 37)).cell? ⟨bt, 3, none⟩ = some (.int .i64 g) ∧ (w'.alloc (.cells #[.int .i64 aK, .int .i64 aE, .int .i64 aA, .int .i64 aT, .int .i64 aG, .int .i64 0, .int .i64 aC, .bool false] 37)).cell? ⟨pb, off + k, none⟩ = some (.int .i64 tm) := unhide RS _ (Kept.alloc (unhide (And.left hS3)) _); have hC : Hid (Kept F wr ((((((((w'.setCell ⟨wr.heap.size, 0, none⟩ (.int .i64 aK)).setCell ⟨wr.heap.size, 1, none⟩ (.int .i64 aE)).setCell ⟨wr.heap.size, 2, none⟩ (.int .i64 aA)).setCell ⟨wr.heap.size, 3, none⟩ (.int .i64 aT)).setCell ⟨wr.heap.size, 4, none⟩ (.int .i64 aG)).setCell ⟨wr.heap.size, 5, none⟩ (.int .i64 0)).setCell ⟨wr.heap.size, 6, none⟩ (.int .i64 aC)).setCell ⟨wr.heap.size, 7, none⟩ (.bool false))) ∧ ((((((((w'.setCell ⟨wr.heap.size, 0, none⟩ (.int .i64 aK)).setCell ⟨wr.heap.size, 1, none⟩ (.int .i64 aE)).setCell ⟨wr.heap.size, 2, none⟩ (.int .i64 aA)).setCell ⟨wr.heap.size, 3, none⟩ (.int .i64 aT)).setCell ⟨wr.heap.size, 4, none⟩ (.int .i64 aG)).setCell ⟨wr.heap.size, 5, none⟩ (.int .i64 0)).setCell ⟨wr.heap.size, 6, none⟩ (.int .i64 aC)).setCell ⟨wr.heap.size, 7, none⟩ (.bool false)).cell? ⟨bt, 0, none⟩ = some (.int .i64 0) ∧ ((((((((w'.setCell ⟨wr.heap.size, 0, none⟩ (.int .i64 aK)).setCell ⟨wr.heap.size, 1, none⟩ (.int .i64 aE)).setCell ⟨wr.heap.size, 2, none⟩ (.int .i64 aA)).setCell ⟨wr.heap.size, 3, none⟩ (.int .i64 aT)).setCell ⟨wr.heap.size, 4, none⟩ (.int .i64 aG)).setCell ⟨wr.heap.size, 5, none⟩ (.int .i64 0)).setCell ⟨wr.heap.size, 6, none⟩ (.int .i64 aC)).setCell ⟨wr.heap.size, 7, none⟩ (.bool false)).cell? ⟨bt, 1, none⟩ = some (.int .i64 0) ∧ ((((((((w'.setCell ⟨wr.heap.size, 0, none⟩ (.int .i64 aK)).setCell ⟨wr.heap.size, 1, none⟩ (.int .i64 aE)).setCell ⟨wr.heap.size, 2, none⟩ (.int .i64 aA)).setCell ⟨wr.heap.size, 3, none⟩ (.int .i64 aT)).setCell ⟨wr.heap.size, 4, none⟩ (.int .i64 aG)).setCell ⟨wr.heap.size, 5, none⟩ (.int .i64 0)).setCell ⟨wr.heap.size, 6, none⟩ (.int .i64 aC)).setCell ⟨wr.heap.size, 7, none⟩ (.bool false)).cell? ⟨bt, 2, none⟩ = some (.int .i64 u) ∧ ((((((((w'.setCell ⟨wr.heap.size, 0, none⟩ (.int .i64 aK)).setCell ⟨wr.heap.size, 1, none⟩ (.int .i64 aE)).setCell ⟨wr.heap.size, 2, none⟩ (.int .i64 aA)).setCell ⟨wr.heap.size, 3, none⟩ (.int .i64 aT)).setCell ⟨wr.heap.size, 4, none⟩ (.int .i64 aG)).setCell ⟨wr.heap.size, 5, none⟩ (.int .i64 0)).setCell ⟨wr.heap.size, 6, none⟩ (.int .i64 aC)).setCell ⟨wr.heap.size, 7, none⟩ (.bool false)).cell? ⟨bt, 3, none⟩ = some (.int .i64 g) ∧ ((((((((w'.setCell ⟨wr.heap.size, 0, none⟩ (.int .i64 aK)).setCell ⟨wr.heap.size, 1, none⟩ (.int .i64 aE)).setCell ⟨wr.heap.size, 2, none⟩ (.int .i64 aA)).setCell ⟨wr.heap.size, 3, none⟩ (.int .i64 aT)).setCell ⟨wr.heap.size, 4, none⟩ (.int .i64 aG)).setCell ⟨wr.heap.size, 5, none⟩ (.int .i64 0)).setCell ⟨wr.heap.size, 6, none⟩ (.int .i64 aC)).setCell ⟨wr.heap.size, 7, none⟩ (.bool false)).cell? ⟨pb, off + k, none⟩ = some (.int .i64 tm) := unhide RS _ (Kept.setCell (F := F) (p := ⟨wr.heap.size, 7, none⟩) (Kept.setCell (F := F) (p := ⟨wr.heap.size, 6, none⟩) (Kept.setCell (F := F) (p := ⟨wr.heap.size, 5, none⟩) (Kept.setCell (F := F) (p := ⟨wr.heap.size, 4, none⟩) (Kept.setCell (F := F) (p := ⟨wr.heap.size, 3, none⟩) (Kept.setCell (F := F) (p := ⟨wr.heap.size, 2, none⟩) (Kept.setCell (F := F) (p := ⟨wr.heap.size, 1, none⟩) (Kept.setCell (F := F) (p := ⟨wr.heap.size, 0, none⟩) (unhide (And.left hS3)) (.inr (Nat.le_refl _)) (.int .i64 aK)) (.inr (Nat.le_refl _)) (.int .i64 aE)) (.inr (Nat.le_refl _)) (.int .i64 aA)) (.inr (Nat.le_refl _)) (.int .i64 aT)) (.inr (Nat.le_refl _)) (.int .i64 aG)) (.inr (Nat.le_refl _)) (.int .i64 0)) (.inr (Nat.le_refl _)) (.int .i64 aC)) (.inr (Nat.le_refl _)) (.bool false)); try (have hfa := (hk.fresh8 hnF).c8; have hfl := (hk.fresh8 hnF).2; obtain ⟨⟨hx0, hx1, hx2, hx3, hx4, hx5, hx6, hx7⟩, ⟨hxf0, hxf1, hxf2, hxf3, hxf4, hxf5, hxf6, hxf7⟩⟩ := hfa)))
                            · obtain ⟨F2, own2, lk2⟩ := hs
                              have HX2 : Hid (Held (w'.alloc (.cells #[.int .i64 aK, .int .i64 aE, .int .i64 aA, .int .i64 aT, .int .i64 aG, .int .i64 0, .int .i64 aC, .bool false] 37)) w'.heap.size (na aK aE aA aT aG aC false)) := hide (Held.fresh (w := w') (na aK aE aA aT aG aC false) 37 rfl)
                              have HS2 := hide (own2.alloc (.cells #[.int .i64 aK, .int .i64 aE, .int .i64 aA, .int .i64 aT, .int .i64 aG, .int .i64 0, .int .i64 aC, .bool false] 37))
                              have HL2 : Hid (SLink wr (w'.alloc (.cells #[.int .i64 aK, .int .i64 aE, .int .i64 aA, .int .i64 aT, .int .i64 aG, .int .i64 0, .int .i64 aC, .bool false] 37)) F F2) := hide ⟨fun k hk => (lk2.1 k hk).imp_right (fun q => q), unhide (And.left hA4)⟩
                              have hxb : wr.heap.size ≤ w'.heap.size := hk.size
                              obtain ⟨-, cc0, cc1, cc2, cc3, cc4⟩ := hA4
                              clear own2 lk2 hk RS hR0 hR1 hS3 hA3 hC hnF
                              generalize (w'.alloc (.cells #[.int .i64 aK, .int .i64 aE, .int .i64 aA, .int .i64 aT, .int .i64 aG, .int .i64 0, .int .i64 aC, .bool false] 37)) = W2 at HX2 HS2 HL2 cc0 cc1 cc2 cc3 cc4 ⊢
                              generalize w'.heap.size = xb at HX2 hxb ⊢
                              have HB9 : Hid (Below w.heap.size w W2) := hide ((unhide HL2).2.below (unhide HB) (unhide HB).size (fun k hk => Nat.le_trans zB ((unhide HS).all k hk).1))
                              have HT9 := hide ((unhide HL2).2.held (unhide HT) (unhide HNT))
                              have HN9 := hide ((unhide HL2).off (unhide HNT) (unhide HT).2)
                              have HS9 := HS2
                              clear HL2 cc0 cc1 cc2 cc3 t0 t1 t2 t3 tl hx hpl hpF HX0 hdc
                              obtain ⟨⟨u0, u1, u2, u3, u4, u5, u6, u7⟩, -⟩ := (unhide HX2).c8
                              have ul := (unhide HX2).2
                              go_wp2
                              go_roundw
                              case rel => exact ⟨k + 1, tm, cn, so, F2, x, by omega, rfl, rfl, by first | rfl | (congr 1; omega), by go_num, by omega, by omega, GX, IV, HS9, HT9, HN9, HB9⟩
                              case measure => simp [intOf]; omega
                            · obtain ⟨F2, own2, lk2⟩ := hs
                              have HX2 : Hid (Held ((((((((w'.setCell ⟨wr.heap.size, 0, none⟩ (.int .i64 aK)).setCell ⟨wr.heap.size, 1, none⟩ (.int .i64 aE)).setCell ⟨wr.heap.size, 2, none⟩ (.int .i64 aA)).setCell ⟨wr.heap.size, 3, none⟩ (.int .i64 aT)).setCell ⟨wr.heap.size, 4, none⟩ (.int .i64 aG)).setCell ⟨wr.heap.size, 5, none⟩ (.int .i64 0)).setCell ⟨wr.heap.size, 6, none⟩ (.int .i64 aC)).setCell ⟨wr.heap.size, 7, none⟩ (.bool false)) wr.heap.size (na aK aE aA aT aG aC false)) := hide (((((((((hk.fresh8 hnF).put 0 (.int .i64 aK)).put 1 (.int .i64 aE)).put 2 (.int .i64 aA)).put 3 (.int .i64 aT)).put 4 (.int .i64 aG)).put 5 (.int .i64 0)).put 6 (.int .i64 aC)).put 7 (.bool false))
                              have HS2 := hide (own2.kept (w' := ((((((((w'.setCell ⟨wr.heap.size, 0, none⟩ (.int .i64 aK)).setCell ⟨wr.heap.size, 1, none⟩ (.int .i64 aE)).setCell ⟨wr.heap.size, 2, none⟩ (.int .i64 aA)).setCell ⟨wr.heap.size, 3, none⟩ (.int .i64 aT)).setCell ⟨wr.heap.size, 4, none⟩ (.int .i64 aG)).setCell ⟨wr.heap.size, 5, none⟩ (.int .i64 0)).setCell ⟨wr.heap.size, 6, none⟩ (.int .i64 aC)).setCell ⟨wr.heap.size, 7, none⟩ (.bool false))) (Kept.setCell (p := ⟨wr.heap.size, 7, none⟩) (Kept.setCell (p := ⟨wr.heap.size, 6, none⟩) (Kept.setCell (p := ⟨wr.heap.size, 5, none⟩) (Kept.setCell (p := ⟨wr.heap.size, 4, none⟩) (Kept.setCell (p := ⟨wr.heap.size, 3, none⟩) (Kept.setCell (p := ⟨wr.heap.size, 2, none⟩) (Kept.setCell (p := ⟨wr.heap.size, 1, none⟩) (Kept.setCell (p := ⟨wr.heap.size, 0, none⟩) (Kept.refl [wr.heap.size] w') (.inl (List.mem_singleton.2 rfl)) (.int .i64 aK)) (.inl (List.mem_singleton.2 rfl)) (.int .i64 aE)) (.inl (List.mem_singleton.2 rfl)) (.int .i64 aA)) (.inl (List.mem_singleton.2 rfl)) (.int .i64 aT)) (.inl (List.mem_singleton.2 rfl)) (.int .i64 aG)) (.inl (List.mem_singleton.2 rfl)) (.int .i64 0)) (.inl (List.mem_singleton.2 rfl)) (.int .i64 aC)) (.inl (List.mem_singleton.2 rfl)) (.bool false)) (fun k hk hm => by
                                rw [List.mem_singleton.1 hm] at hk
                                rcases lk2.1 _ hk with q | q
                                · exact hnF q
                                · simp at q; omega))
                              have HL2 : Hid (SLink wr ((((((((w'.setCell ⟨wr.heap.size, 0, none⟩ (.int .i64 aK)).setCell ⟨wr.heap.size, 1, none⟩ (.int .i64 aE)).setCell ⟨wr.heap.size, 2, none⟩ (.int .i64 aA)).setCell ⟨wr.heap.size, 3, none⟩ (.int .i64 aT)).setCell ⟨wr.heap.size, 4, none⟩ (.int .i64 aG)).setCell ⟨wr.heap.size, 5, none⟩ (.int .i64 0)).setCell ⟨wr.heap.size, 6, none⟩ (.int .i64 aC)).setCell ⟨wr.heap.size, 7, none⟩ (.bool false)) F F2) := hide ⟨fun k hk => (lk2.1 k hk).imp_right (fun q => by simp at q; omega), unhide (And.left hC)⟩
                              obtain ⟨-, cc0, cc1, cc2, cc3, cc4⟩ := hC
                              clear own2 lk2 hk RS hR0 hR1 hS3 hA3 hA4 hnF hx0 hx1 hx2 hx3 hx4 hx5 hx6 hx7 hxf0 hxf1 hxf2 hxf3 hxf4 hxf5 hxf6 hxf7 hfl
                              generalize ((((((((w'.setCell ⟨wr.heap.size, 0, none⟩ (.int .i64 aK)).setCell ⟨wr.heap.size, 1, none⟩ (.int .i64 aE)).setCell ⟨wr.heap.size, 2, none⟩ (.int .i64 aA)).setCell ⟨wr.heap.size, 3, none⟩ (.int .i64 aT)).setCell ⟨wr.heap.size, 4, none⟩ (.int .i64 aG)).setCell ⟨wr.heap.size, 5, none⟩ (.int .i64 0)).setCell ⟨wr.heap.size, 6, none⟩ (.int .i64 aC)).setCell ⟨wr.heap.size, 7, none⟩ (.bool false)) = W2 at HX2 HS2 HL2 cc0 cc1 cc2 cc3 cc4 ⊢
                              obtain ⟨xb, hxe⟩ : ∃ xb, xb = wr.heap.size := ⟨_, rfl⟩
                              have hxb : wr.heap.size ≤ xb := by omega
                              rw [← hxe] at HX2 ⊢
                              clear hxe
                              have HB9 : Hid (Below w.heap.size w W2) := hide ((unhide HL2).2.below (unhide HB) (unhide HB).size (fun k hk => Nat.le_trans zB ((unhide HS).all k hk).1))
                              have HT9 := hide ((unhide HL2).2.held (unhide HT) (unhide HNT))
                              have HN9 := hide ((unhide HL2).off (unhide HNT) (unhide HT).2)
                              have HS9 := HS2
                              clear HL2 cc0 cc1 cc2 cc3 t0 t1 t2 t3 tl hx hpl hpF HX0 hdc
                              obtain ⟨⟨u0, u1, u2, u3, u4, u5, u6, u7⟩, -⟩ := (unhide HX2).c8
                              have ul := (unhide HX2).2
                              go_wp2
                              go_roundw
                              case rel => exact ⟨k + 1, tm, cn, so, F2, x, by omega, rfl, rfl, by first | rfl | (congr 1; omega), by go_num, by omega, by omega, GX, IV, HS9, HT9, HN9, HB9⟩
                              case measure => simp [intOf]; omega
                          · have CH : Hid (∀ w : World, SOwn w8.heap.size w s F x → Calls Try.prog 8 #[.pointer (some ⟨s, 0, none⟩), .agg #[.int .i64 ad, .int .i64 0, .int .i64 0, .int .i64 0, .int .i64 0, .int .i64 0, .int .i64 0, .int .i64 u, .int .i64 g, .string ⟨#[120]⟩], .int .i64 tm] w fun e w' => e = .returned (.tuple #[.agg #[.int .i64 1, .int .i64 (ServM.aEp x hi tm), .int .i64 (ServM.aAd x hi tm), .int .i64 (ServM.aTi x hi tm), .int .i64 (ServM.aTg x hi tm), .int .i64 0, .int .i64 x.k, .bool false], .nilIface]) ∧ SStep w8.heap.size w w' s F (ServM.next x hi tm)) := hide (fun w h0 => by
                              have q := shello_any hi tm w (unhide GX) h0
                              rw [e1, e2, e3, e4, errV_zero rfl] at q
                              subst hie
                              exact q)
                            have GX9 := hide (ServM.next_good (h := hi) (now := tm) (unhide GX))
                            have IV9 := hide e6
                            have HCN := hide (unhide IV).1
                            have x0 := (unhide GX).k0
                            generalize ServM.next x hi tm = y at CH GX9 IV9
                            generalize ServM.aEp x hi tm = aE at CH
                            generalize ServM.aAd x hi tm = aA at CH
                            generalize ServM.aTi x hi tm = aT at CH
                            generalize ServM.aTg x hi tm = aG at CH
                            clear e1 e2 e3 e4 e6 hie
                            generalize x.k = xk at CH e5 IV9 HCN x0
                            have hcn := unhide HCN
                            have hcn2 : ¬ xk ≤ cn := by omega
                            clear HCN
                            have CQ := hide (fun w => cnumber_any 0 xk w)
                            rw [show ConnM.bad 0 xk = 0 from ConnM.bad_zero.2 (by omega), ConnM.told_zero rfl, errV_zero rfl] at CQ
                            have tlo := ConnM.turn_lo (4096 * 0 + xk)
                            have tlo2 : ¬ ConnM.turn (4096 * 0 + xk) < 0 := by omega
                            generalize ConnM.turn (4096 * 0 + xk) = tn at CQ tlo tlo2
                            have hpl : pb < wr.heap.size := World.block_lt_of_cell? _ _ hx
                            have hpF : pb ∉ F := fun hm => by have := ((unhide HS).all _ hm).1; omega
                            have HX0 := hide hx
                            obtain ⟨t0, t1, t2, t3⟩ := (unhide HT).c4.1
                            have tl := (unhide HT).2
                            go_wp2
                            have hnF : wr.heap.size ∉ F := (unhide HS).out (Nat.le_refl _)
                            have RS : Hid (∀ W : World, Kept F wr W → Hid (Kept F wr W) ∧ W.cell? ⟨bt, 0, none⟩ = some (.int .i64 0) ∧ W.cell? ⟨bt, 1, none⟩ = some (.int .i64 0) ∧ W.cell? ⟨bt, 2, none⟩ = some (.int .i64 u) ∧ W.cell? ⟨bt, 3, none⟩ = some (.int .i64 g) ∧ W.cell? ⟨pb, off + k, none⟩ = some (.int .i64 tm)) := hide (fun W hk => ⟨hide hk, (hk.held (unhide HT) (unhide HNT)).c4.1.1, (hk.held (unhide HT) (unhide HNT)).c4.1.2.1, (hk.held (unhide HT) (unhide HNT)).c4.1.2.2.1, (hk.held (unhide HT) (unhide HNT)).c4.1.2.2.2, (by rw [hk.cell hpl hpF]; exact unhide HX0)⟩)
                            have hR0 : Hid (Kept F wr wr.drew) ∧ wr.drew.cell? ⟨bt, 0, none⟩ = some (.int .i64 0) ∧ wr.drew.cell? ⟨bt, 1, none⟩ = some (.int .i64 0) ∧ wr.drew.cell? ⟨bt, 2, none⟩ = some (.int .i64 u) ∧ wr.drew.cell? ⟨bt, 3, none⟩ = some (.int .i64 g) ∧ wr.drew.cell? ⟨pb, off + k, none⟩ = some (.int .i64 tm) := unhide RS _ (Kept.refl _ _).drew
                            have hR1 : Hid (Kept F wr (wr.alloc (.cells #[.int .i64 0, .int .i64 0, .int .i64 0, .int .i64 0, .int .i64 0, .int .i64 0, .int .i64 0, .bool false] 37)).drew) ∧ (wr.alloc (.cells #[.int .i64 0, .int .i64 0, .int .i64 0, .int .i64 0, .int .i64 0, .int .i64 0, .int .i64 0, .bool false] 37)).drew.cell? ⟨bt, 0, none⟩ = some (.int .i64 0) ∧ (wr.alloc (.cells #[.int .i64 0, .int .i64 0, .int .i64 0, .int .i64 0, .int .i64 0, .int .i64 0, .int .i64 0, .bool false] 37)).drew.cell? ⟨bt, 1, none⟩ = some (.int .i64 0) ∧ (wr.alloc (.cells #[.int .i64 0, .int .i64 0, .int .i64 0, .int .i64 0, .int .i64 0, .int .i64 0, .int .i64 0, .bool false] 37)).drew.cell? ⟨bt, 2, none⟩ = some (.int .i64 u) ∧ (wr.alloc (.cells #[.int .i64 0, .int .i64 0, .int .i64 0, .int .i64 0, .int .i64 0, .int .i64 0, .int .i64 0, .bool false] 37)).drew.cell? ⟨bt, 3, none⟩ = some (.int .i64 g) ∧ (wr.alloc (.cells #[.int .i64 0, .int .i64 0, .int .i64 0, .int .i64 0, .int .i64 0, .int .i64 0, .int .i64 0, .bool false] 37)).drew.cell? ⟨pb, off + k, none⟩ = some (.int .i64 tm) := unhide RS _ ((Kept.refl _ _).alloc _).drew
                            go_region_held3 (fun w' => Hid (Kept F wr w') ∧ w'.cell? ⟨bt, 0, none⟩ = some (.int .i64 0) ∧ w'.cell? ⟨bt, 1, none⟩ = some (.int .i64 0) ∧ w'.cell? ⟨bt, 2, none⟩ = some (.int .i64 u) ∧ w'.cell? ⟨bt, 3, none⟩ = some (.int .i64 g) ∧ w'.cell? ⟨pb, off + k, none⟩ = some (.int .i64 tm)) (with_reducible assumption)
                              (first | (go_at_call 8; refine (unhide CH _ (by first | exact (unhide HS).drew | exact ((unhide HS).alloc _).drew)).mono ?_; rintro e w' ⟨rfl, hs⟩; have hk := hs.keep; have hS3 : Hid (Kept F wr w') ∧ w'.cell? ⟨bt, 0, none⟩ = some (.int .i64 0) ∧ w'.cell? ⟨bt, 1, none⟩ = some (.int .i64 0) ∧ w'.cell? ⟨bt, 2, none⟩ = some (.int .i64 u) ∧ w'.cell? ⟨bt, 3, none⟩ = some (.int .i64 g) ∧ w'.cell? ⟨pb, off + k, none⟩ = some (.int .i64 tm) := unhide RS w' (Kept.trans (unhide (And.left ‹Hid (Kept F wr _) ∧ _›)) hk); have hA3 : Hid (Kept F wr (w'.alloc (.cells #[.int .i64 0, .int .i64 0, .int .i64 0, .int .i64 0, .int .i64 0, .int .i64 0, .int .i64 0, .bool false] 37))) ∧ (w'.alloc (.cells #[.int .i64 0, .int .i64 0, .int .i64 0, .int .i64 0, .int .i64 0, .int .i64 0, .int .i64 0, .bool false] 37)).cell? ⟨bt, 0, none⟩ = some (.int .i64 0) ∧ (w'.alloc (.cells #[.int .i64 0, .int .i64 0, .int .i64 0, .int .i64 0, .int .i64 0, .int .i64 0, .int .i64 0, .bool false] 37)).cell? ⟨bt, 1, none⟩ = some (.int .i64 0) ∧ (w'.alloc (.cells #[.int .i64 0, .int .i64 0, .int .i64 0, .int .i64 0, .int .i64 0, .int .i64 0, .int .i64 0, .bool false] 37)).cell? ⟨bt, 2, none⟩ = some (.int .i64 u) ∧ (w'.alloc (.cells #[.int .i64 0, .int .i64 0, .int .i64 0, .int .i64 0, .int .i64 0, .int .i64 0, .int .i64 0, .bool false] 37)).cell? ⟨bt, 3, none⟩ = some (.int .i64 g) ∧ (w'.alloc (.cells #[.int .i64 0, .int .i64 0, .int .i64 0, .int .i64 0, .int .i64 0, .int .i64 0, .int .i64 0, .bool false] 37)).cell? ⟨pb, off + k, none⟩ = some (.int .i64 tm) := unhide RS _ (Kept.alloc (unhide (And.left hS3)) _); have hA4 : Hid (Kept F wr (w'.alloc (.cells #[.int .i64 1, .int .i64 aE, .int .i64 aA, .int .i64 aT, .int .i64 aG, .int .i64 0, .int .i64 xk, .bool false] 37))) ∧ (w'.alloc (.cells #[.int .i64 1, .int .i64 aE, .int .i64 aA, .int .i64 aT, .int .i64 aG, .int .i64 0, .int .i64 xk, .bool false] 37)).cell? ⟨bt, 0, none⟩ = some (.int .i64 0) ∧ (w'.alloc (.cells #[.int .i64 1, .int .i64 aE, .int .i64 aA, .int .i64 aT, .int .i64 aG, .int .i64 0, .int .i64 xk, .bool false] 37)).cell? ⟨bt, 1, none⟩ = some (.int .i64 0) ∧ (w'.alloc (.cells #[.int .i64 1, .int .i64 aE, .int .i64 aA, .int .i64 aT, .int .i64 aG, .int .i64 0, .int .i64 xk, .bool false] 37)).cell? ⟨bt, 2, none⟩ = some (.int .i64 u) ∧ (w'.alloc (.cells #[.int .i64 1, .int .i64 aE, .int .i64 aA, .int .i64 aT, .int .i64 aG, .int .i64 0, .int .i64 xk, .bool false] 37)).cell? ⟨bt, 3, none⟩ = some (.int .i64 g) ∧ (w'.alloc (.cells #[.int .i64 1, .int .i64 aE, .int .i64 aA, .int .i64 aT, .int .i64 aG, .int .i64 0, .int .i64 xk, .bool false] 37)).cell? ⟨pb, off + k, none⟩ = some (.int .i64 tm) := unhide RS _ (Kept.alloc (unhide (And.left hS3)) _); have hC : Hid (Kept F wr ((((((((w'.setCell ⟨wr.heap.size, 0, none⟩ (.int .i64 1)).setCell ⟨wr.heap.size, 1, none⟩ (.int .i64 aE)).setCell ⟨wr.heap.size, 2, none⟩ (.int .i64 aA)).setCell ⟨wr.heap.size, 3, none⟩ (.int .i64 aT)).setCell ⟨wr.heap.size, 4, none⟩ (.int .i64 aG)).setCell ⟨wr.heap.size, 5, none⟩ (.int .i64 0)).setCell ⟨wr.heap.size, 6, none⟩ (.int .i64 xk)).setCell ⟨wr.heap.size, 7, none⟩ (.bool false))) ∧ ((((((((w'.setCell ⟨wr.heap.size, 0, none⟩ (.int .i64 1)).setCell ⟨wr.heap.size, 1, none⟩ (.int .i64 aE)).setCell ⟨wr.heap.size, 2, none⟩ (.int .i64 aA)).setCell ⟨wr.heap.size, 3, none⟩ (.int .i64 aT)).setCell ⟨wr.heap.size, 4, none⟩ (.int .i64 aG)).setCell ⟨wr.heap.size, 5, none⟩ (.int .i64 0)).setCell ⟨wr.heap.size, 6, none⟩ (.int .i64 xk)).setCell ⟨wr.heap.size, 7, none⟩ (.bool false)).cell? ⟨bt, 0, none⟩ = some (.int .i64 0) ∧ ((((((((w'.setCell ⟨wr.heap.size, 0, none⟩ (.int .i64 1)).setCell ⟨wr.heap.size, 1, none⟩ (.int .i64 aE)).setCell ⟨wr.heap.size, 2, none⟩ (.int .i64 aA)).setCell ⟨wr.heap.size, 3, none⟩ (.int .i64 aT)).setCell ⟨wr.heap.size, 4, none⟩ (.int .i64 aG)).setCell ⟨wr.heap.size, 5, none⟩ (.int .i64 0)).setCell ⟨wr.heap.size, 6, none⟩ (.int .i64 xk)).setCell ⟨wr.heap.size, 7, none⟩ (.bool false)).cell? ⟨bt, 1, none⟩ = some (.int .i64 0) ∧ ((((((((w'.setCell ⟨wr.heap.size, 0, none⟩ (.int .i64 1)).setCell ⟨wr.heap.size, 1, none⟩ (.int .i64 aE)).setCell ⟨wr.heap.size, 2, none⟩ (.int .i64 aA)).setCell ⟨wr.heap.size, 3, none⟩ (.int .i64 aT)).setCell ⟨wr.heap.size, 4, none⟩ (.int .i64 aG)).setCell ⟨wr.heap.size, 5, none⟩ (.int .i64 0)).setCell ⟨wr.heap.size, 6, none⟩ (.int .i64 xk)).setCell ⟨wr.heap.size, 7, none⟩ (.bool false)).cell? ⟨bt, 2, none⟩ = some (.int .i64 u) ∧ ((((((((w'.setCell ⟨wr.heap.size, 0, none⟩ (.int .i64 1)).setCell ⟨wr.heap.size, 1, none⟩ (.int .i64 aE)).setCell ⟨wr.heap.size, 2, none⟩ (.int .i64 aA)).setCell ⟨wr.heap.size, 3, none⟩ (.int .i64 aT)).setCell ⟨wr.heap.size, 4, none⟩ (.int .i64 aG)).setCell ⟨wr.heap.size, 5, none⟩ (.int .i64 0)).setCell ⟨wr.heap.size, 6, none⟩ (.int .i64 xk)).setCell ⟨wr.heap.size, 7, none⟩ (.bool false)).cell? ⟨bt, 3, none⟩ = some (.int .i64 g) ∧ ((((((((w'.setCell ⟨wr.heap.size, 0, none⟩ (.int .i64 1)).setCell ⟨wr.heap.size, 1, none⟩ (.int .i64 aE)).setCell ⟨wr.heap.size, 2, none⟩ (.int .i64 aA)).setCell ⟨wr.heap.size, 3, none⟩ (.int .i64 aT)).setCell ⟨wr.heap.size, 4, none⟩ (.int .i64 aG)).setCell ⟨wr.heap.size, 5, none⟩ (.int .i64 0)).setCell ⟨wr.heap.size, 6, none⟩ (.int .i64 xk)).setCell ⟨wr.heap.size, 7, none⟩ (.bool false)).cell? ⟨pb, off + k, none⟩ = some (.int .i64 tm) := unhide RS _ (Kept.setCell (F := F) (p := ⟨wr.heap.size, 7, none⟩) (Kept.setCell (F := F) (p := ⟨wr.heap.size, 6, none⟩) (Kept.setCell (F := F) (p := ⟨wr.heap.size, 5, none⟩) (Kept.setCell (F := F) (p := ⟨wr.heap.size, 4, none⟩) (Kept.setCell (F := F) (p := ⟨wr.heap.size, 3, none⟩) (Kept.setCell (F := F) (p := ⟨wr.heap.size, 2, none⟩) (Kept.setCell (F := F) (p := ⟨wr.heap.size, 1, none⟩) (Kept.setCell (F := F) (p := ⟨wr.heap.size, 0, none⟩) (unhide (And.left hS3)) (.inr (Nat.le_refl _)) (.int .i64 1)) (.inr (Nat.le_refl _)) (.int .i64 aE)) (.inr (Nat.le_refl _)) (.int .i64 aA)) (.inr (Nat.le_refl _)) (.int .i64 aT)) (.inr (Nat.le_refl _)) (.int .i64 aG)) (.inr (Nat.le_refl _)) (.int .i64 0)) (.inr (Nat.le_refl _)) (.int .i64 xk)) (.inr (Nat.le_refl _)) (.bool false)); try (have hfa := (hk.fresh8 hnF).c8; have hfl := (hk.fresh8 hnF).2; obtain ⟨⟨hx0, hx1, hx2, hx3, hx4, hx5, hx6, hx7⟩, ⟨hxf0, hxf1, hxf2, hxf3, hxf4, hxf5, hxf6, hxf7⟩⟩ := hfa)))
                            · obtain ⟨F2, own2, lk2⟩ := hs
                              have HX2 : Hid (Held (w'.alloc (.cells #[.int .i64 1, .int .i64 aE, .int .i64 aA, .int .i64 aT, .int .i64 aG, .int .i64 0, .int .i64 xk, .bool false] 37)) w'.heap.size (na 1 aE aA aT aG xk false)) := hide (Held.fresh (w := w') (na 1 aE aA aT aG xk false) 37 rfl)
                              have HS2 := hide (own2.alloc (.cells #[.int .i64 1, .int .i64 aE, .int .i64 aA, .int .i64 aT, .int .i64 aG, .int .i64 0, .int .i64 xk, .bool false] 37))
                              have HL2 : Hid (SLink wr (w'.alloc (.cells #[.int .i64 1, .int .i64 aE, .int .i64 aA, .int .i64 aT, .int .i64 aG, .int .i64 0, .int .i64 xk, .bool false] 37)) F F2) := hide ⟨fun k hk => (lk2.1 k hk).imp_right (fun q => q), unhide (And.left hA4)⟩
                              have hxb : wr.heap.size ≤ w'.heap.size := hk.size
                              obtain ⟨-, cc0, cc1, cc2, cc3, cc4⟩ := hA4
                              clear own2 lk2 hk RS hR0 hR1 hS3 hA3 hC hnF
                              generalize (w'.alloc (.cells #[.int .i64 1, .int .i64 aE, .int .i64 aA, .int .i64 aT, .int .i64 aG, .int .i64 0, .int .i64 xk, .bool false] 37)) = W2 at HX2 HS2 HL2 cc0 cc1 cc2 cc3 cc4 ⊢
                              generalize w'.heap.size = xb at HX2 hxb ⊢
                              have HB9 : Hid (Below w.heap.size w W2) := hide ((unhide HL2).2.below (unhide HB) (unhide HB).size (fun k hk => Nat.le_trans zB ((unhide HS).all k hk).1))
                              have HT9 := hide ((unhide HL2).2.held (unhide HT) (unhide HNT))
                              have HN9 := hide ((unhide HL2).off (unhide HNT) (unhide HT).2)
                              have HS9 := HS2
                              clear HL2 cc0 cc1 cc2 cc3 t0 t1 t2 t3 tl hx hpl hpF HX0 hdc
                              obtain ⟨⟨u0, u1, u2, u3, u4, u5, u6, u7⟩, -⟩ := (unhide HX2).c8
                              have ul := (unhide HX2).2
                              go_wp2_with fail
                              refine (unhide CQ _).mono ?_
                              rintro e w10 ⟨rfl, hb10⟩
                              have HX10 := hide ((unhide HX2).later hb10)
                              have HS10 := hide ((unhide HS9).later hb10)
                              have HT10 := hide ((unhide HT9).later hb10)
                              have HB10 : Hid (Below w.heap.size w w10) := hide (bel3 (unhide HB9) (Below.refl _ _) hb10)
                              have cc := cell_later hb10 cc4
                              clear hb10 u0 u1 u2 u3 u4 u5 u6 u7 ul HX2 cc4
                              obtain ⟨⟨u0, u1, u2, u3, u4, u5, u6, u7⟩, -⟩ := (unhide HX10).c8
                              have ul := (unhide HX10).2
                              go_wp2
                              go_roundw
                              case rel => exact ⟨k + 1, tm, xk, so, F2, y, by omega, rfl, rfl, by first | rfl | (congr 1; omega), by go_num, by omega, by omega, GX9, IV9, HS10, HT10, HN9, HB10⟩
                              case measure => simp [intOf]; omega
                            · obtain ⟨F2, own2, lk2⟩ := hs
                              have HX2 : Hid (Held ((((((((w'.setCell ⟨wr.heap.size, 0, none⟩ (.int .i64 1)).setCell ⟨wr.heap.size, 1, none⟩ (.int .i64 aE)).setCell ⟨wr.heap.size, 2, none⟩ (.int .i64 aA)).setCell ⟨wr.heap.size, 3, none⟩ (.int .i64 aT)).setCell ⟨wr.heap.size, 4, none⟩ (.int .i64 aG)).setCell ⟨wr.heap.size, 5, none⟩ (.int .i64 0)).setCell ⟨wr.heap.size, 6, none⟩ (.int .i64 xk)).setCell ⟨wr.heap.size, 7, none⟩ (.bool false)) wr.heap.size (na 1 aE aA aT aG xk false)) := hide (((((((((hk.fresh8 hnF).put 0 (.int .i64 1)).put 1 (.int .i64 aE)).put 2 (.int .i64 aA)).put 3 (.int .i64 aT)).put 4 (.int .i64 aG)).put 5 (.int .i64 0)).put 6 (.int .i64 xk)).put 7 (.bool false))
                              have HS2 := hide (own2.kept (w' := ((((((((w'.setCell ⟨wr.heap.size, 0, none⟩ (.int .i64 1)).setCell ⟨wr.heap.size, 1, none⟩ (.int .i64 aE)).setCell ⟨wr.heap.size, 2, none⟩ (.int .i64 aA)).setCell ⟨wr.heap.size, 3, none⟩ (.int .i64 aT)).setCell ⟨wr.heap.size, 4, none⟩ (.int .i64 aG)).setCell ⟨wr.heap.size, 5, none⟩ (.int .i64 0)).setCell ⟨wr.heap.size, 6, none⟩ (.int .i64 xk)).setCell ⟨wr.heap.size, 7, none⟩ (.bool false))) (Kept.setCell (p := ⟨wr.heap.size, 7, none⟩) (Kept.setCell (p := ⟨wr.heap.size, 6, none⟩) (Kept.setCell (p := ⟨wr.heap.size, 5, none⟩) (Kept.setCell (p := ⟨wr.heap.size, 4, none⟩) (Kept.setCell (p := ⟨wr.heap.size, 3, none⟩) (Kept.setCell (p := ⟨wr.heap.size, 2, none⟩) (Kept.setCell (p := ⟨wr.heap.size, 1, none⟩) (Kept.setCell (p := ⟨wr.heap.size, 0, none⟩) (Kept.refl [wr.heap.size] w') (.inl (List.mem_singleton.2 rfl)) (.int .i64 1)) (.inl (List.mem_singleton.2 rfl)) (.int .i64 aE)) (.inl (List.mem_singleton.2 rfl)) (.int .i64 aA)) (.inl (List.mem_singleton.2 rfl)) (.int .i64 aT)) (.inl (List.mem_singleton.2 rfl)) (.int .i64 aG)) (.inl (List.mem_singleton.2 rfl)) (.int .i64 0)) (.inl (List.mem_singleton.2 rfl)) (.int .i64 xk)) (.inl (List.mem_singleton.2 rfl)) (.bool false)) (fun k hk hm => by
                                rw [List.mem_singleton.1 hm] at hk
                                rcases lk2.1 _ hk with q | q
                                · exact hnF q
                                · simp at q; omega))
                              have HL2 : Hid (SLink wr ((((((((w'.setCell ⟨wr.heap.size, 0, none⟩ (.int .i64 1)).setCell ⟨wr.heap.size, 1, none⟩ (.int .i64 aE)).setCell ⟨wr.heap.size, 2, none⟩ (.int .i64 aA)).setCell ⟨wr.heap.size, 3, none⟩ (.int .i64 aT)).setCell ⟨wr.heap.size, 4, none⟩ (.int .i64 aG)).setCell ⟨wr.heap.size, 5, none⟩ (.int .i64 0)).setCell ⟨wr.heap.size, 6, none⟩ (.int .i64 xk)).setCell ⟨wr.heap.size, 7, none⟩ (.bool false)) F F2) := hide ⟨fun k hk => (lk2.1 k hk).imp_right (fun q => by simp at q; omega), unhide (And.left hC)⟩
                              obtain ⟨-, cc0, cc1, cc2, cc3, cc4⟩ := hC
                              clear own2 lk2 hk RS hR0 hR1 hS3 hA3 hA4 hnF hx0 hx1 hx2 hx3 hx4 hx5 hx6 hx7 hxf0 hxf1 hxf2 hxf3 hxf4 hxf5 hxf6 hxf7 hfl
                              generalize ((((((((w'.setCell ⟨wr.heap.size, 0, none⟩ (.int .i64 1)).setCell ⟨wr.heap.size, 1, none⟩ (.int .i64 aE)).setCell ⟨wr.heap.size, 2, none⟩ (.int .i64 aA)).setCell ⟨wr.heap.size, 3, none⟩ (.int .i64 aT)).setCell ⟨wr.heap.size, 4, none⟩ (.int .i64 aG)).setCell ⟨wr.heap.size, 5, none⟩ (.int .i64 0)).setCell ⟨wr.heap.size, 6, none⟩ (.int .i64 xk)).setCell ⟨wr.heap.size, 7, none⟩ (.bool false)) = W2 at HX2 HS2 HL2 cc0 cc1 cc2 cc3 cc4 ⊢
                              obtain ⟨xb, hxe⟩ : ∃ xb, xb = wr.heap.size := ⟨_, rfl⟩
                              have hxb : wr.heap.size ≤ xb := by omega
                              rw [← hxe] at HX2 ⊢
                              clear hxe
                              have HB9 : Hid (Below w.heap.size w W2) := hide ((unhide HL2).2.below (unhide HB) (unhide HB).size (fun k hk => Nat.le_trans zB ((unhide HS).all k hk).1))
                              have HT9 := hide ((unhide HL2).2.held (unhide HT) (unhide HNT))
                              have HN9 := hide ((unhide HL2).off (unhide HNT) (unhide HT).2)
                              have HS9 := HS2
                              clear HL2 cc0 cc1 cc2 cc3 t0 t1 t2 t3 tl hx hpl hpF HX0 hdc
                              obtain ⟨⟨u0, u1, u2, u3, u4, u5, u6, u7⟩, -⟩ := (unhide HX2).c8
                              have ul := (unhide HX2).2
                              go_wp2_with fail
                              refine (unhide CQ _).mono ?_
                              rintro e w10 ⟨rfl, hb10⟩
                              have HX10 := hide ((unhide HX2).later hb10)
                              have HS10 := hide ((unhide HS9).later hb10)
                              have HT10 := hide ((unhide HT9).later hb10)
                              have HB10 : Hid (Below w.heap.size w w10) := hide (bel3 (unhide HB9) (Below.refl _ _) hb10)
                              have cc := cell_later hb10 cc4
                              clear hb10 u0 u1 u2 u3 u4 u5 u6 u7 ul HX2 cc4
                              obtain ⟨⟨u0, u1, u2, u3, u4, u5, u6, u7⟩, -⟩ := (unhide HX10).c8
                              have ul := (unhide HX10).2
                              go_wp2
                              go_roundw
                              case rel => exact ⟨k + 1, tm, xk, so, F2, y, by omega, rfl, rfl, by first | rfl | (congr 1; omega), by go_num, by omega, by omega, GX9, IV9, HS10, HT10, HN9, HB10⟩
                              case measure => simp [intOf]; omega
                          · have CH : Hid (∀ w : World, SOwn w8.heap.size w s F x → Calls Try.prog 8 #[.pointer (some ⟨s, 0, none⟩), .agg #[.int .i64 ad, .int .i64 0, .int .i64 0, .int .i64 0, .int .i64 0, .int .i64 0, .int .i64 0, .int .i64 u, .int .i64 g, .string ⟨#[120]⟩], .int .i64 tm] w fun e w' => e = .returned (.tuple #[.agg #[.int .i64 1, .int .i64 (ServM.aEp x hi tm), .int .i64 (ServM.aAd x hi tm), .int .i64 (ServM.aTi x hi tm), .int .i64 (ServM.aTg x hi tm), .int .i64 0, .int .i64 x.k, .bool true], .nilIface]) ∧ SStep w8.heap.size w w' s F (ServM.next x hi tm)) := hide (fun w h0 => by
                              have q := shello_any hi tm w (unhide GX) h0
                              rw [e1, e2, e3, e4, errV_zero rfl] at q
                              subst hie
                              exact q)
                            have GX9 := hide (ServM.next_good (h := hi) (now := tm) (unhide GX))
                            have IV9 := hide e6
                            have HCN := hide (unhide IV).1
                            have x0 := (unhide GX).k0
                            generalize ServM.next x hi tm = y at CH GX9 IV9
                            generalize ServM.aEp x hi tm = aE at CH
                            generalize ServM.aAd x hi tm = aA at CH
                            generalize ServM.aTi x hi tm = aT at CH
                            generalize ServM.aTg x hi tm = aG at CH
                            clear e1 e2 e3 e4 e6 hie
                            subst e8
                            generalize x.k = xk at CH e5 IV9 HCN x0
                            have hcn := unhide HCN
                            have hcn2 : ¬ xk ≤ cn := by omega
                            clear HCN
                            have CQ := hide (fun w => cnumber_any 0 xk w)
                            rw [show ConnM.bad 0 xk = 0 from ConnM.bad_zero.2 (by omega), ConnM.told_zero rfl, errV_zero rfl] at CQ
                            have tlo := ConnM.turn_lo (4096 * 0 + xk)
                            have tlo2 : ¬ ConnM.turn (4096 * 0 + xk) < 0 := by omega
                            generalize ConnM.turn (4096 * 0 + xk) = tn at CQ tlo tlo2
                            have e9 : ¬ u < tm := by omega
                            have hpl : pb < wr.heap.size := World.block_lt_of_cell? _ _ hx
                            have hpF : pb ∉ F := fun hm => by have := ((unhide HS).all _ hm).1; omega
                            have HX0 := hide hx
                            obtain ⟨t0, t1, t2, t3⟩ := (unhide HT).c4.1
                            have tl := (unhide HT).2
                            go_wp2
                            have hnF : wr.heap.size ∉ F := (unhide HS).out (Nat.le_refl _)
                            have RS : Hid (∀ W : World, Kept F wr W → Hid (Kept F wr W) ∧ W.cell? ⟨bt, 0, none⟩ = some (.int .i64 0) ∧ W.cell? ⟨bt, 1, none⟩ = some (.int .i64 0) ∧ W.cell? ⟨bt, 2, none⟩ = some (.int .i64 u) ∧ W.cell? ⟨bt, 3, none⟩ = some (.int .i64 g) ∧ W.cell? ⟨pb, off + k, none⟩ = some (.int .i64 tm)) := hide (fun W hk => ⟨hide hk, (hk.held (unhide HT) (unhide HNT)).c4.1.1, (hk.held (unhide HT) (unhide HNT)).c4.1.2.1, (hk.held (unhide HT) (unhide HNT)).c4.1.2.2.1, (hk.held (unhide HT) (unhide HNT)).c4.1.2.2.2, (by rw [hk.cell hpl hpF]; exact unhide HX0)⟩)
                            have hR0 : Hid (Kept F wr wr.drew) ∧ wr.drew.cell? ⟨bt, 0, none⟩ = some (.int .i64 0) ∧ wr.drew.cell? ⟨bt, 1, none⟩ = some (.int .i64 0) ∧ wr.drew.cell? ⟨bt, 2, none⟩ = some (.int .i64 u) ∧ wr.drew.cell? ⟨bt, 3, none⟩ = some (.int .i64 g) ∧ wr.drew.cell? ⟨pb, off + k, none⟩ = some (.int .i64 tm) := unhide RS _ (Kept.refl _ _).drew
                            have hR1 : Hid (Kept F wr (wr.alloc (.cells #[.int .i64 0, .int .i64 0, .int .i64 0, .int .i64 0, .int .i64 0, .int .i64 0, .int .i64 0, .bool false] 37)).drew) ∧ (wr.alloc (.cells #[.int .i64 0, .int .i64 0, .int .i64 0, .int .i64 0, .int .i64 0, .int .i64 0, .int .i64 0, .bool false] 37)).drew.cell? ⟨bt, 0, none⟩ = some (.int .i64 0) ∧ (wr.alloc (.cells #[.int .i64 0, .int .i64 0, .int .i64 0, .int .i64 0, .int .i64 0, .int .i64 0, .int .i64 0, .bool false] 37)).drew.cell? ⟨bt, 1, none⟩ = some (.int .i64 0) ∧ (wr.alloc (.cells #[.int .i64 0, .int .i64 0, .int .i64 0, .int .i64 0, .int .i64 0, .int .i64 0, .int .i64 0, .bool false] 37)).drew.cell? ⟨bt, 2, none⟩ = some (.int .i64 u) ∧ (wr.alloc (.cells #[.int .i64 0, .int .i64 0, .int .i64 0, .int .i64 0, .int .i64 0, .int .i64 0, .int .i64 0, .bool false] 37)).drew.cell? ⟨bt, 3, none⟩ = some (.int .i64 g) ∧ (wr.alloc (.cells #[.int .i64 0, .int .i64 0, .int .i64 0, .int .i64 0, .int .i64 0, .int .i64 0, .int .i64 0, .bool false] 37)).drew.cell? ⟨pb, off + k, none⟩ = some (.int .i64 tm) := unhide RS _ ((Kept.refl _ _).alloc _).drew
                            go_region_held3 (fun w' => Hid (Kept F wr w') ∧ w'.cell? ⟨bt, 0, none⟩ = some (.int .i64 0) ∧ w'.cell? ⟨bt, 1, none⟩ = some (.int .i64 0) ∧ w'.cell? ⟨bt, 2, none⟩ = some (.int .i64 u) ∧ w'.cell? ⟨bt, 3, none⟩ = some (.int .i64 g) ∧ w'.cell? ⟨pb, off + k, none⟩ = some (.int .i64 tm)) (with_reducible assumption)
                              (first | (go_at_call 8; refine (unhide CH _ (by first | exact (unhide HS).drew | exact ((unhide HS).alloc _).drew)).mono ?_; rintro e w' ⟨rfl, hs⟩; have hk := hs.keep; have hS3 : Hid (Kept F wr w') ∧ w'.cell? ⟨bt, 0, none⟩ = some (.int .i64 0) ∧ w'.cell? ⟨bt, 1, none⟩ = some (.int .i64 0) ∧ w'.cell? ⟨bt, 2, none⟩ = some (.int .i64 u) ∧ w'.cell? ⟨bt, 3, none⟩ = some (.int .i64 g) ∧ w'.cell? ⟨pb, off + k, none⟩ = some (.int .i64 tm) := unhide RS w' (Kept.trans (unhide (And.left ‹Hid (Kept F wr _) ∧ _›)) hk); have hA3 : Hid (Kept F wr (w'.alloc (.cells #[.int .i64 0, .int .i64 0, .int .i64 0, .int .i64 0, .int .i64 0, .int .i64 0, .int .i64 0, .bool false] 37))) ∧ (w'.alloc (.cells #[.int .i64 0, .int .i64 0, .int .i64 0, .int .i64 0, .int .i64 0, .int .i64 0, .int .i64 0, .bool false] 37)).cell? ⟨bt, 0, none⟩ = some (.int .i64 0) ∧ (w'.alloc (.cells #[.int .i64 0, .int .i64 0, .int .i64 0, .int .i64 0, .int .i64 0, .int .i64 0, .int .i64 0, .bool false] 37)).cell? ⟨bt, 1, none⟩ = some (.int .i64 0) ∧ (w'.alloc (.cells #[.int .i64 0, .int .i64 0, .int .i64 0, .int .i64 0, .int .i64 0, .int .i64 0, .int .i64 0, .bool false] 37)).cell? ⟨bt, 2, none⟩ = some (.int .i64 u) ∧ (w'.alloc (.cells #[.int .i64 0, .int .i64 0, .int .i64 0, .int .i64 0, .int .i64 0, .int .i64 0, .int .i64 0, .bool false] 37)).cell? ⟨bt, 3, none⟩ = some (.int .i64 g) ∧ (w'.alloc (.cells #[.int .i64 0, .int .i64 0, .int .i64 0, .int .i64 0, .int .i64 0, .int .i64 0, .int .i64 0, .bool false] 37)).cell? ⟨pb, off + k, none⟩ = some (.int .i64 tm) := unhide RS _ (Kept.alloc (unhide (And.left hS3)) _); have hA4 : Hid (Kept F wr (w'.alloc (.cells #[.int .i64 1, .int .i64 aE, .int .i64 aA, .int .i64 aT, .int .i64 aG, .int .i64 0, .int .i64 xk, .bool true] 37))) ∧ (w'.alloc (.cells #[.int .i64 1, .int .i64 aE, .int .i64 aA, .int .i64 aT, .int .i64 aG, .int .i64 0, .int .i64 xk, .bool true] 37)).cell? ⟨bt, 0, none⟩ = some (.int .i64 0) ∧ (w'.alloc (.cells #[.int .i64 1, .int .i64 aE, .int .i64 aA, .int .i64 aT, .int .i64 aG, .int .i64 0, .int .i64 xk, .bool true] 37)).cell? ⟨bt, 1, none⟩ = some (.int .i64 0) ∧ (w'.alloc (.cells #[.int .i64 1, .int .i64 aE, .int .i64 aA, .int .i64 aT, .int .i64 aG, .int .i64 0, .int .i64 xk, .bool true] 37)).cell? ⟨bt, 2, none⟩ = some (.int .i64 u) ∧ (w'.alloc (.cells #[.int .i64 1, .int .i64 aE, .int .i64 aA, .int .i64 aT, .int .i64 aG, .int .i64 0, .int .i64 xk, .bool true] 37)).cell? ⟨bt, 3, none⟩ = some (.int .i64 g) ∧ (w'.alloc (.cells #[.int .i64 1, .int .i64 aE, .int .i64 aA, .int .i64 aT, .int .i64 aG, .int .i64 0, .int .i64 xk, .bool true] 37)).cell? ⟨pb, off + k, none⟩ = some (.int .i64 tm) := unhide RS _ (Kept.alloc (unhide (And.left hS3)) _); have hC : Hid (Kept F wr ((((((((w'.setCell ⟨wr.heap.size, 0, none⟩ (.int .i64 1)).setCell ⟨wr.heap.size, 1, none⟩ (.int .i64 aE)).setCell ⟨wr.heap.size, 2, none⟩ (.int .i64 aA)).setCell ⟨wr.heap.size, 3, none⟩ (.int .i64 aT)).setCell ⟨wr.heap.size, 4, none⟩ (.int .i64 aG)).setCell ⟨wr.heap.size, 5, none⟩ (.int .i64 0)).setCell ⟨wr.heap.size, 6, none⟩ (.int .i64 xk)).setCell ⟨wr.heap.size, 7, none⟩ (.bool true))) ∧ ((((((((w'.setCell ⟨wr.heap.size, 0, none⟩ (.int .i64 1)).setCell ⟨wr.heap.size, 1, none⟩ (.int .i64 aE)).setCell ⟨wr.heap.size, 2, none⟩ (.int .i64 aA)).setCell ⟨wr.heap.size, 3, none⟩ (.int .i64 aT)).setCell ⟨wr.heap.size, 4, none⟩ (.int .i64 aG)).setCell ⟨wr.heap.size, 5, none⟩ (.int .i64 0)).setCell ⟨wr.heap.size, 6, none⟩ (.int .i64 xk)).setCell ⟨wr.heap.size, 7, none⟩ (.bool true)).cell? ⟨bt, 0, none⟩ = some (.int .i64 0) ∧ ((((((((w'.setCell ⟨wr.heap.size, 0, none⟩ (.int .i64 1)).setCell ⟨wr.heap.size, 1, none⟩ (.int .i64 aE)).setCell ⟨wr.heap.size, 2, none⟩ (.int .i64 aA)).setCell ⟨wr.heap.size, 3, none⟩ (.int .i64 aT)).setCell ⟨wr.heap.size, 4, none⟩ (.int .i64 aG)).setCell ⟨wr.heap.size, 5, none⟩ (.int .i64 0)).setCell ⟨wr.heap.size, 6, none⟩ (.int .i64 xk)).setCell ⟨wr.heap.size, 7, none⟩ (.bool true)).cell? ⟨bt, 1, none⟩ = some (.int .i64 0) ∧ ((((((((w'.setCell ⟨wr.heap.size, 0, none⟩ (.int .i64 1)).setCell ⟨wr.heap.size, 1, none⟩ (.int .i64 aE)).setCell ⟨wr.heap.size, 2, none⟩ (.int .i64 aA)).setCell ⟨wr.heap.size, 3, none⟩ (.int .i64 aT)).setCell ⟨wr.heap.size, 4, none⟩ (.int .i64 aG)).setCell ⟨wr.heap.size, 5, none⟩ (.int .i64 0)).setCell ⟨wr.heap.size, 6, none⟩ (.int .i64 xk)).setCell ⟨wr.heap.size, 7, none⟩ (.bool true)).cell? ⟨bt, 2, none⟩ = some (.int .i64 u) ∧ ((((((((w'.setCell ⟨wr.heap.size, 0, none⟩ (.int .i64 1)).setCell ⟨wr.heap.size, 1, none⟩ (.int .i64 aE)).setCell ⟨wr.heap.size, 2, none⟩ (.int .i64 aA)).setCell ⟨wr.heap.size, 3, none⟩ (.int .i64 aT)).setCell ⟨wr.heap.size, 4, none⟩ (.int .i64 aG)).setCell ⟨wr.heap.size, 5, none⟩ (.int .i64 0)).setCell ⟨wr.heap.size, 6, none⟩ (.int .i64 xk)).setCell ⟨wr.heap.size, 7, none⟩ (.bool true)).cell? ⟨bt, 3, none⟩ = some (.int .i64 g) ∧ ((((((((w'.setCell ⟨wr.heap.size, 0, none⟩ (.int .i64 1)).setCell ⟨wr.heap.size, 1, none⟩ (.int .i64 aE)).setCell ⟨wr.heap.size, 2, none⟩ (.int .i64 aA)).setCell ⟨wr.heap.size, 3, none⟩ (.int .i64 aT)).setCell ⟨wr.heap.size, 4, none⟩ (.int .i64 aG)).setCell ⟨wr.heap.size, 5, none⟩ (.int .i64 0)).setCell ⟨wr.heap.size, 6, none⟩ (.int .i64 xk)).setCell ⟨wr.heap.size, 7, none⟩ (.bool true)).cell? ⟨pb, off + k, none⟩ = some (.int .i64 tm) := unhide RS _ (Kept.setCell (F := F) (p := ⟨wr.heap.size, 7, none⟩) (Kept.setCell (F := F) (p := ⟨wr.heap.size, 6, none⟩) (Kept.setCell (F := F) (p := ⟨wr.heap.size, 5, none⟩) (Kept.setCell (F := F) (p := ⟨wr.heap.size, 4, none⟩) (Kept.setCell (F := F) (p := ⟨wr.heap.size, 3, none⟩) (Kept.setCell (F := F) (p := ⟨wr.heap.size, 2, none⟩) (Kept.setCell (F := F) (p := ⟨wr.heap.size, 1, none⟩) (Kept.setCell (F := F) (p := ⟨wr.heap.size, 0, none⟩) (unhide (And.left hS3)) (.inr (Nat.le_refl _)) (.int .i64 1)) (.inr (Nat.le_refl _)) (.int .i64 aE)) (.inr (Nat.le_refl _)) (.int .i64 aA)) (.inr (Nat.le_refl _)) (.int .i64 aT)) (.inr (Nat.le_refl _)) (.int .i64 aG)) (.inr (Nat.le_refl _)) (.int .i64 0)) (.inr (Nat.le_refl _)) (.int .i64 xk)) (.inr (Nat.le_refl _)) (.bool true)); try (have hfa := (hk.fresh8 hnF).c8; have hfl := (hk.fresh8 hnF).2; obtain ⟨⟨hx0, hx1, hx2, hx3, hx4, hx5, hx6, hx7⟩, ⟨hxf0, hxf1, hxf2, hxf3, hxf4, hxf5, hxf6, hxf7⟩⟩ := hfa)))
                            · obtain ⟨F2, own2, lk2⟩ := hs
                              have HX2 : Hid (Held (w'.alloc (.cells #[.int .i64 1, .int .i64 aE, .int .i64 aA, .int .i64 aT, .int .i64 aG, .int .i64 0, .int .i64 xk, .bool true] 37)) w'.heap.size (na 1 aE aA aT aG xk true)) := hide (Held.fresh (w := w') (na 1 aE aA aT aG xk true) 37 rfl)
                              have HS2 := hide (own2.alloc (.cells #[.int .i64 1, .int .i64 aE, .int .i64 aA, .int .i64 aT, .int .i64 aG, .int .i64 0, .int .i64 xk, .bool true] 37))
                              have HL2 : Hid (SLink wr (w'.alloc (.cells #[.int .i64 1, .int .i64 aE, .int .i64 aA, .int .i64 aT, .int .i64 aG, .int .i64 0, .int .i64 xk, .bool true] 37)) F F2) := hide ⟨fun k hk => (lk2.1 k hk).imp_right (fun q => q), unhide (And.left hA4)⟩
                              have hxb : wr.heap.size ≤ w'.heap.size := hk.size
                              obtain ⟨-, cc0, cc1, cc2, cc3, cc4⟩ := hA4
                              clear own2 lk2 hk RS hR0 hR1 hS3 hA3 hC hnF
                              generalize (w'.alloc (.cells #[.int .i64 1, .int .i64 aE, .int .i64 aA, .int .i64 aT, .int .i64 aG, .int .i64 0, .int .i64 xk, .bool true] 37)) = W2 at HX2 HS2 HL2 cc0 cc1 cc2 cc3 cc4 ⊢
                              generalize w'.heap.size = xb at HX2 hxb ⊢
                              have HB9 : Hid (Below w.heap.size w W2) := hide ((unhide HL2).2.below (unhide HB) (unhide HB).size (fun k hk => Nat.le_trans zB ((unhide HS).all k hk).1))
                              have HT9 := hide ((unhide HL2).2.held (unhide HT) (unhide HNT))
                              have HN9 := hide ((unhide HL2).off (unhide HNT) (unhide HT).2)
                              have HS9 := HS2
                              clear HL2 cc0 cc1 cc2 cc3 t0 t1 t2 t3 tl hx hpl hpF HX0 hdc
                              obtain ⟨⟨u0, u1, u2, u3, u4, u5, u6, u7⟩, -⟩ := (unhide HX2).c8
                              have ul := (unhide HX2).2
                              go_wp2_with fail
                              refine (unhide CQ _).mono ?_
                              rintro e w10 ⟨rfl, hb10⟩
                              have HX10 := hide ((unhide HX2).later hb10)
                              have HS10 := hide ((unhide HS9).later hb10)
                              have HT10 := hide ((unhide HT9).later hb10)
                              have HB10 : Hid (Below w.heap.size w w10) := hide (bel3 (unhide HB9) (Below.refl _ _) hb10)
                              have cc := cell_later hb10 cc4
                              clear hb10 u0 u1 u2 u3 u4 u5 u6 u7 ul HX2 cc4
                              obtain ⟨⟨u0, u1, u2, u3, u4, u5, u6, u7⟩, -⟩ := (unhide HX10).c8
                              have ul := (unhide HX10).2
                              go_wp2
                              go_roundw
                              case rel => exact ⟨k + 1, tm, xk, 1, F2, y, by omega, rfl, rfl, by first | rfl | (congr 1; omega), by go_num, by omega, by omega, GX9, IV9, HS10, HT10, HN9, HB10⟩
                              case measure => simp [intOf]; omega
                            · obtain ⟨F2, own2, lk2⟩ := hs
                              have HX2 : Hid (Held ((((((((w'.setCell ⟨wr.heap.size, 0, none⟩ (.int .i64 1)).setCell ⟨wr.heap.size, 1, none⟩ (.int .i64 aE)).setCell ⟨wr.heap.size, 2, none⟩ (.int .i64 aA)).setCell ⟨wr.heap.size, 3, none⟩ (.int .i64 aT)).setCell ⟨wr.heap.size, 4, none⟩ (.int .i64 aG)).setCell ⟨wr.heap.size, 5, none⟩ (.int .i64 0)).setCell ⟨wr.heap.size, 6, none⟩ (.int .i64 xk)).setCell ⟨wr.heap.size, 7, none⟩ (.bool true)) wr.heap.size (na 1 aE aA aT aG xk true)) := hide (((((((((hk.fresh8 hnF).put 0 (.int .i64 1)).put 1 (.int .i64 aE)).put 2 (.int .i64 aA)).put 3 (.int .i64 aT)).put 4 (.int .i64 aG)).put 5 (.int .i64 0)).put 6 (.int .i64 xk)).put 7 (.bool true))
                              have HS2 := hide (own2.kept (w' := ((((((((w'.setCell ⟨wr.heap.size, 0, none⟩ (.int .i64 1)).setCell ⟨wr.heap.size, 1, none⟩ (.int .i64 aE)).setCell ⟨wr.heap.size, 2, none⟩ (.int .i64 aA)).setCell ⟨wr.heap.size, 3, none⟩ (.int .i64 aT)).setCell ⟨wr.heap.size, 4, none⟩ (.int .i64 aG)).setCell ⟨wr.heap.size, 5, none⟩ (.int .i64 0)).setCell ⟨wr.heap.size, 6, none⟩ (.int .i64 xk)).setCell ⟨wr.heap.size, 7, none⟩ (.bool true))) (Kept.setCell (p := ⟨wr.heap.size, 7, none⟩) (Kept.setCell (p := ⟨wr.heap.size, 6, none⟩) (Kept.setCell (p := ⟨wr.heap.size, 5, none⟩) (Kept.setCell (p := ⟨wr.heap.size, 4, none⟩) (Kept.setCell (p := ⟨wr.heap.size, 3, none⟩) (Kept.setCell (p := ⟨wr.heap.size, 2, none⟩) (Kept.setCell (p := ⟨wr.heap.size, 1, none⟩) (Kept.setCell (p := ⟨wr.heap.size, 0, none⟩) (Kept.refl [wr.heap.size] w') (.inl (List.mem_singleton.2 rfl)) (.int .i64 1)) (.inl (List.mem_singleton.2 rfl)) (.int .i64 aE)) (.inl (List.mem_singleton.2 rfl)) (.int .i64 aA)) (.inl (List.mem_singleton.2 rfl)) (.int .i64 aT)) (.inl (List.mem_singleton.2 rfl)) (.int .i64 aG)) (.inl (List.mem_singleton.2 rfl)) (.int .i64 0)) (.inl (List.mem_singleton.2 rfl)) (.int .i64 xk)) (.inl (List.mem_singleton.2 rfl)) (.bool true)) (fun k hk hm => by
                                rw [List.mem_singleton.1 hm] at hk
                                rcases lk2.1 _ hk with q | q
                                · exact hnF q
                                · simp at q; omega))
                              have HL2 : Hid (SLink wr ((((((((w'.setCell ⟨wr.heap.size, 0, none⟩ (.int .i64 1)).setCell ⟨wr.heap.size, 1, none⟩ (.int .i64 aE)).setCell ⟨wr.heap.size, 2, none⟩ (.int .i64 aA)).setCell ⟨wr.heap.size, 3, none⟩ (.int .i64 aT)).setCell ⟨wr.heap.size, 4, none⟩ (.int .i64 aG)).setCell ⟨wr.heap.size, 5, none⟩ (.int .i64 0)).setCell ⟨wr.heap.size, 6, none⟩ (.int .i64 xk)).setCell ⟨wr.heap.size, 7, none⟩ (.bool true)) F F2) := hide ⟨fun k hk => (lk2.1 k hk).imp_right (fun q => by simp at q; omega), unhide (And.left hC)⟩
                              obtain ⟨-, cc0, cc1, cc2, cc3, cc4⟩ := hC
                              clear own2 lk2 hk RS hR0 hR1 hS3 hA3 hA4 hnF hx0 hx1 hx2 hx3 hx4 hx5 hx6 hx7 hxf0 hxf1 hxf2 hxf3 hxf4 hxf5 hxf6 hxf7 hfl
                              generalize ((((((((w'.setCell ⟨wr.heap.size, 0, none⟩ (.int .i64 1)).setCell ⟨wr.heap.size, 1, none⟩ (.int .i64 aE)).setCell ⟨wr.heap.size, 2, none⟩ (.int .i64 aA)).setCell ⟨wr.heap.size, 3, none⟩ (.int .i64 aT)).setCell ⟨wr.heap.size, 4, none⟩ (.int .i64 aG)).setCell ⟨wr.heap.size, 5, none⟩ (.int .i64 0)).setCell ⟨wr.heap.size, 6, none⟩ (.int .i64 xk)).setCell ⟨wr.heap.size, 7, none⟩ (.bool true)) = W2 at HX2 HS2 HL2 cc0 cc1 cc2 cc3 cc4 ⊢
                              obtain ⟨xb, hxe⟩ : ∃ xb, xb = wr.heap.size := ⟨_, rfl⟩
                              have hxb : wr.heap.size ≤ xb := by omega
                              rw [← hxe] at HX2 ⊢
                              clear hxe
                              have HB9 : Hid (Below w.heap.size w W2) := hide ((unhide HL2).2.below (unhide HB) (unhide HB).size (fun k hk => Nat.le_trans zB ((unhide HS).all k hk).1))
                              have HT9 := hide ((unhide HL2).2.held (unhide HT) (unhide HNT))
                              have HN9 := hide ((unhide HL2).off (unhide HNT) (unhide HT).2)
                              have HS9 := HS2
                              clear HL2 cc0 cc1 cc2 cc3 t0 t1 t2 t3 tl hx hpl hpF HX0 hdc
                              obtain ⟨⟨u0, u1, u2, u3, u4, u5, u6, u7⟩, -⟩ := (unhide HX2).c8
                              have ul := (unhide HX2).2
                              go_wp2_with fail
                              refine (unhide CQ _).mono ?_
                              rintro e w10 ⟨rfl, hb10⟩
                              have HX10 := hide ((unhide HX2).later hb10)
                              have HS10 := hide ((unhide HS9).later hb10)
                              have HT10 := hide ((unhide HT9).later hb10)
                              have HB10 : Hid (Below w.heap.size w w10) := hide (bel3 (unhide HB9) (Below.refl _ _) hb10)
                              have cc := cell_later hb10 cc4
                              clear hb10 u0 u1 u2 u3 u4 u5 u6 u7 ul HX2 cc4
                              obtain ⟨⟨u0, u1, u2, u3, u4, u5, u6, u7⟩, -⟩ := (unhide HX10).c8
                              have ul := (unhide HX10).2
                              go_wp2
                              go_roundw
                              case rel => exact ⟨k + 1, tm, xk, 1, F2, y, by omega, rfl, rfl, by first | rfl | (congr 1; omega), by go_num, by omega, by omega, GX9, IV9, HS10, HT10, HN9, HB10⟩
                              case measure => simp [intOf]; omega
              · go_wp2
                go_ret
                exact ⟨rfl, unhide HB⟩
            · go_wp2
              go_ret
              exact ⟨rfl, unhide HB⟩
          · go_wp2
            go_ret
            exact ⟨rfl, unhide HB⟩

theorem walk (seed long : Int) (a0 : Option Addr) (len0 cap0 : Nat) (z0 : List Int) (a1 : Option Addr) (len1 cap1 : Nat) (z1 : List Int) (u ad : Int) (w : World) (_w0 : (Lit.int .i64 seed).wf = true) (_w1 : (Lit.int .i64 long).wf = true) (w2 : IsRow .i64 w a0 len0 cap0 z0) (w3 : IsRow .i64 w a1 len1 cap1 z1) (_w4 : (Lit.int .i64 u).wf = true) (_w5 : (Lit.int .i64 ad).wf = true) :
    Calls Try.prog 3 #[.int .i64 seed, .int .i64 long, .slice a0 len0 cap0, .slice a1 len1 cap1, .int .i64 u, .int .i64 ad] w fun e w' => e = .returned (.bool true) ∧ Below w.heap.size w w' := by
  obtain ⟨ds, hdl, hdi, _, _⟩ := row_ints rfl w2
  obtain ⟨zs, hll, hli, _, _⟩ := row_ints rfl w3
  exact walk1 seed long a0 len0 cap0 ds a1 len1 cap1 zs u ad w hdl hdi hll hli


set_option maxRecDepth 100000 in
theorem lifted (os : Os) (started : os.Started) (H : Type) (enc : TypeId × Value → H) :
    ReturnsInHanded {} Try.checked os 3 .any (Rows.serverOnceSpec.pre6 enc Try.prog Try.f3 Rows.serverOnceRow.domain false) (Rows.serverOnceSpec.post enc Try.prog Try.f3 false true false false) := by
  refine returnsInHanded_of_change (C := Try.checked) own started (by kernel_rfl) Try.func3
    (ChangeSpec.witness6 (enc := enc) (C := Try.checked) false ⟨#[], #[.int .i64 0, .int .i64 0, .slice none 0 0, .slice none 0 0, .int .i64 0, .int .i64 0], []⟩ 8 (by kernel_rfl) (by kernel_rfl) (by kernel_rfl) (by kernel_rfl)) ?_
  intro W base args ds gs before hval0 hW hcnd _
  have hval : ∀ (j : Nat) t v, Try.f3.params[j]? = some t → args[j]? = some v → Value.okWide Try.prog W .any base t v := hval0
  have hW' := hW
  obtain ⟨p, q, hA0, hV, rfl, hfz, hnd⟩ := hW
  have hA : DataW.TrodAll enc Try.prog W 0 (fun _ => true) true Try.f3.params.toList args.toList ds p := hA0
  rw [Try.params3] at hA hval
  obtain ⟨v0, vs0, d0, ds0, p0, q0, hargs, rfl, rfl, h0, r0⟩ := trodAll_cons hA
  obtain ⟨v1, vs1, d1, ds1, p1, q1, rfl, rfl, rfl, h1, r1⟩ := trodAll_cons r0
  obtain ⟨v2, vs2, d2, ds2, p2, q2, rfl, rfl, rfl, h2, r2⟩ := trodAll_cons r1
  obtain ⟨v3, vs3, d3, ds3, p3, q3, rfl, rfl, rfl, h3, r3⟩ := trodAll_cons r2
  obtain ⟨v4, vs4, d4, ds4, p4, q4, rfl, rfl, rfl, h4, r4⟩ := trodAll_cons r3
  obtain ⟨v5, vs5, d5, ds5, p5, q5, rfl, rfl, rfl, h5, r5⟩ := trodAll_cons r4
  obtain ⟨rfl, rfl, rfl⟩ := trodAll_nil r5
  obtain rfl : args = #[v0, v1, v2, v3, v4, v5] := by cases args; simp_all
  obtain ⟨rfl, rfl⟩ := trodVars_none hV
  have k0 := h0
  have lt0 : ∀ x ∈ p0, x.block < W.heap.size := by obtain ⟨m, hm⟩ := k0; exact DataW.trod_lt m _ _ _ hm
  obtain ⟨a0, rfl, rfl, rfl, w0⟩ := open_int Try.underlying3 (hval 0 3 v0 rfl rfl) h0
  have k1 := h1
  have lt1 : ∀ x ∈ p1, x.block < W.heap.size := by obtain ⟨m, hm⟩ := k1; exact DataW.trod_lt m _ _ _ hm
  obtain ⟨a1, rfl, rfl, rfl, w1⟩ := open_int Try.underlying3 (hval 1 3 v1 rfl rfl) h1
  have k2 := h2
  have lt2 : ∀ x ∈ p2, x.block < W.heap.size := by obtain ⟨m, hm⟩ := k2; exact DataW.trod_lt m _ _ _ hm
  obtain ⟨a2, len2, cap2, rfl⟩ := okWide_slice Try.underlying22 (hval 2 22 v2 rfl rfl)
  obtain ⟨z2, w2⟩ : ∃ zs, IsRow .i64 W a2 len2 cap2 zs := by
    obtain ⟨fuel, hf⟩ := h2
    rcases open_ints Try.underlying22 Try.underlying3 (by kernel_rfl) hf with ⟨hcs, _⟩ | ⟨x, l, c, zs, hcs, _, hl, hm, hz, _, hcell, hwz⟩
    · simp [Value.cells] at hcs
      obtain ⟨rfl, rfl, rfl⟩ := hcs
      exact ⟨[], .inl ⟨rfl, rfl, rfl, rfl⟩⟩
    · simp [Value.cells] at hcs
      obtain ⟨rfl, rfl, rfl⟩ := hcs
      exact ⟨zs, .inr ⟨_, rfl, hl, hm, by simpa using hz, hcell, hwz⟩⟩
  have k3 := h3
  have lt3 : ∀ x ∈ p3, x.block < W.heap.size := by obtain ⟨m, hm⟩ := k3; exact DataW.trod_lt m _ _ _ hm
  obtain ⟨a3, len3, cap3, rfl⟩ := okWide_slice Try.underlying22 (hval 3 22 v3 rfl rfl)
  obtain ⟨z3, w3⟩ : ∃ zs, IsRow .i64 W a3 len3 cap3 zs := by
    obtain ⟨fuel, hf⟩ := h3
    rcases open_ints Try.underlying22 Try.underlying3 (by kernel_rfl) hf with ⟨hcs, _⟩ | ⟨x, l, c, zs, hcs, _, hl, hm, hz, _, hcell, hwz⟩
    · simp [Value.cells] at hcs
      obtain ⟨rfl, rfl, rfl⟩ := hcs
      exact ⟨[], .inl ⟨rfl, rfl, rfl, rfl⟩⟩
    · simp [Value.cells] at hcs
      obtain ⟨rfl, rfl, rfl⟩ := hcs
      exact ⟨zs, .inr ⟨_, rfl, hl, hm, by simpa using hz, hcell, hwz⟩⟩
  have k4 := h4
  have lt4 : ∀ x ∈ p4, x.block < W.heap.size := by obtain ⟨m, hm⟩ := k4; exact DataW.trod_lt m _ _ _ hm
  obtain ⟨a4, rfl, rfl, rfl, w4⟩ := open_int Try.underlying3 (hval 4 3 v4 rfl rfl) h4
  have k5 := h5
  have lt5 : ∀ x ∈ p5, x.block < W.heap.size := by obtain ⟨m, hm⟩ := k5; exact DataW.trod_lt m _ _ _ hm
  obtain ⟨a5, rfl, rfl, rfl, w5⟩ := open_int Try.underlying3 (hval 5 3 v5 rfl rfl) h5
  clear hA0 hval0
  refine (walk a0 a1 a2 len2 cap2 z2 a3 len3 cap3 z3 a4 a5 W w0 w1 w2 w3 w4 w5).mono fun e W' ⟨he, bel⟩ => ?_
  subst he
  exact ⟨_, rfl, _, _, _, [], _, [], hW', trodAll_mk1 (shut_bool Try.underlying4 _), (trodAll_cons_mk (Below.trod laidOut (by kernel_rfl) (of_decide_eq_true (by kernel_rfl)) k0 bel lt0) (trodAll_cons_mk (Below.trod laidOut (by kernel_rfl) (of_decide_eq_true (by kernel_rfl)) k1 bel lt1) (trodAll_cons_mk (Below.trod laidOut (by kernel_rfl) (of_decide_eq_true (by kernel_rfl)) k2 bel lt2) (trodAll_cons_mk (Below.trod laidOut (by kernel_rfl) (of_decide_eq_true (by kernel_rfl)) k3 bel lt3) (trodAll_cons_mk (Below.trod laidOut (by kernel_rfl) (of_decide_eq_true (by kernel_rfl)) k4 bel lt4) (trodAll_cons_mk (Below.trod laidOut (by kernel_rfl) (of_decide_eq_true (by kernel_rfl)) k5 bel lt5) trodAll_mk0)))))), rfl, bel.frame _, fun h => by cases h⟩

theorem over : Rows.serverOnceRow.holds Try.pinned (OpenSpec.ofChange Rows.serverOnceSpec) :=
  OpenClaim.holds_of_wide 3 Try.f3 rfl rfl rfl rfl rfl rfl rfl ⟨rfl, rfl, rfl, rfl, rfl⟩ rfl rfl rfl rfl rfl (by kernel_rfl) Try.func3 (by kernel_rfl)
    (of_decide_eq_true (by kernel_rfl)) (by unfold Func.isWrapper; first | (rw [if_pos (by decide +kernel)]; kernel_rfl) | (rw [if_neg (by decide +kernel)]; exact ⟨rfl, rfl⟩))
    (fun os started H enc _ => lifted os started H enc)

end Go.Proofs.Ytimilfnbbimipaj.serverOnce
namespace Go.Proofs.Ytimilfnbbimipaj
theorem serverOnce_holds : Rows.ServerOnceSaid := serverOnce.over
#print axioms serverOnce_holds
end Go.Proofs.Ytimilfnbbimipaj

