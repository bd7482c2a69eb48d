/-
  IssueUnlike holds for every seed, every list of deeds and every list of times: the numbers of the tickets that are issued rise, whatever crashes between, and each ticket is right at its time. No condition.
-/
import Derived.Test.YtgjacfiplhnafahIssueReg
import Derived.ProofKit
import Derived.Lib.SmallJoins
namespace Go.Proofs.Ytgjacfiplhnafah.issueUnlike
open Go.ChangeShapes Go.WideShapes Go.ChangeAt Go.RowKit Go.Joins
set_option linter.unusedVariables false

theorem own : ownKnob Try.prog.godebug = none := by kernel_rfl
theorem laidOut : laidOutB Try.prog = true := by kernel_rfl
def IsRow (k : IntKind) (w : World) (a : Option Addr) (len cap : Nat) (zs : List Int) : Prop :=
  (a = none ∧ len = 0 ∧ cap = 0 ∧ zs = []) ∨
  ∃ x, a = some x ∧ len ≤ cap ∧ cap ≤ maxLen ∧ zs.length = cap ∧ (∀ i, i < zs.length → w.cell? (x.add i) = some (.int k (zs.getD i 0))) ∧ ∀ n ∈ zs, (Lit.int k n).wf = true
def IsStrs (w : World) (a : Option Addr) (len cap : Nat) (zs : List ByteArray) : Prop :=
  (a = none ∧ len = 0 ∧ cap = 0 ∧ zs = []) ∨
  ∃ x, a = some x ∧ len ≤ cap ∧ cap ≤ maxLen ∧ zs.length = cap ∧ (∀ i, i < zs.length → w.cell? (x.add i) = some (.string (zs.getD i ByteArray.empty))) ∧ ∀ s ∈ zs, s.size ≤ maxLen
def IsPairs (w : World) (a : Option Addr) (len cap : Nat) (zs : List (Int × Int)) : Prop :=
  (a = none ∧ len = 0 ∧ cap = 0 ∧ zs = []) ∨
  ∃ x, a = some x ∧ len ≤ cap ∧ cap ≤ maxLen ∧ zs.length = cap ∧ ∀ i, i < cap → w.cell? (x.add (i * 2)) = some (.int .i64 (zs.getD i (0, 0)).1) ∧ w.cell? (x.add (i * 2 + 1)) = some (.int .i64 (zs.getD i (0, 0)).2)
def IsRows (w : World) (a : Option Addr) (len cap : Nat) (A : Nat → Option Addr) (L C : Nat → Nat) (Z : Nat → List Int) : Prop :=
  (a = none ∧ len = 0 ∧ cap = 0) ∨
  ∃ x, a = some x ∧ len ≤ cap ∧ cap ≤ maxLen ∧ ∀ r, r < cap → w.cell? (x.add r) = some (.slice (A r) (L r) (C r)) ∧ L r ≤ C r ∧ C r ≤ maxLen ∧ (Z r).length = C r ∧ (∀ n ∈ Z r, (Lit.int .i64 n).wf = true) ∧ (A r = none → C r = 0) ∧
    ∀ a', A r = some a' → ∀ c, c < C r → w.cell? (a'.add c) = some (.int .i64 ((Z r).getD c 0))

attribute [local go_sem ↓] Go.wp_at_zero Go.wp_at_succ

theorem reg_step {W W1 W2 : World} {c0 c1 c2 c3 d0 d1 d2 d3 : Addr} {v0 v1 v2 v3 u0 u1 u2 u3 : Value}
    (h : Hid (Below W.heap.size W W1) ∧ W1.cell? c0 = some v0 ∧ W1.cell? c1 = some v1 ∧ W1.cell? c2 = some v2 ∧ W1.cell? c3 = some v3 ∧ W1.cell? d0 = some u0 ∧ W1.cell? d1 = some u1 ∧ W1.cell? d2 = some u2 ∧ W1.cell? d3 = some u3) (hb : Below W1.heap.size W1 W2) :
    Hid (Below W.heap.size W W2) ∧ W2.cell? c0 = some v0 ∧ W2.cell? c1 = some v1 ∧ W2.cell? c2 = some v2 ∧ W2.cell? c3 = some v3 ∧ W2.cell? d0 = some u0 ∧ W2.cell? d1 = some u1 ∧ W2.cell? d2 = some u2 ∧ W2.cell? d3 = some u3 := by
  obtain ⟨q, h0, h1, h2, h3, h4, h5, h6, h7⟩ := h
  exact ⟨hide (Below.trans (unhide q) (hb.mono (unhide q).size)), cell_later hb h0, cell_later hb h1, cell_later hb h2, cell_later hb h3, cell_later hb h4, cell_later hb h5, cell_later hb h6, cell_later hb h7⟩

set_option maxHeartbeats 12800000 in
set_option maxRecDepth 8000 in
theorem walk_bad (seed : Int) (v1 v2 : Value) (w : World) (h : seed < 0 ∨ 999983 ≤ seed) :
    Calls Try.prog 5 #[.int .i64 seed, v1, v2] w fun e w' => e = .returned (.bool true) ∧ Below w.heap.size w w' := by
  have C := hide (fun w => rnew_no seed w h)
  rcases h with h | h
  · go_enter Try.func5, Try.ntmps5
    go_wp2_with fail
    refine (unhide C _).mono ?_
    rintro e w1 ⟨rfl, hb1⟩
    have HB1 := hide hb1
    clear hb1
    go_wp2
    go_ret
    exact ⟨rfl, Below.alloc (unhide HB1) (unhide HB1).size _⟩
  · have h0 : ¬ seed < 0 := by omega
    have h1 : 999982 < seed := by omega
    go_enter Try.func5, Try.ntmps5
    go_wp2_with fail
    refine (unhide C _).mono ?_
    rintro e w1 ⟨rfl, hb1⟩
    have HB1 := hide hb1
    clear hb1
    go_wp2
    go_ret
    exact ⟨rfl, Below.alloc (unhide HB1) (unhide HB1).size _⟩

set_option maxHeartbeats 12800000 in
set_option maxRecDepth 8000 in
theorem walk1 (seed : Int) (da : Option Addr) (dlen dcap : Nat) (ds : List Int) (a : Option Addr) (len cap : Nat) (zs : List Int) (w : World) (hdl : ds.length = dlen) (hdi : Ints w da ds) (hll : zs.length = len) (hli : Ints w a zs) (h0 : 0 ≤ seed) (h1 : seed < 999983) :
    Calls Try.prog 5 #[.int .i64 seed, .slice da dlen dcap, .slice a len cap] w fun e w' => e = .returned (.bool true) ∧ Below w.heap.size w w' := by
  have HDL := hide hdl
  have HDI := hide hdi
  have HLL := hide hll
  have HLI := hide hli
  clear hdl hdi hll hli
  have C0 := hide (fun w => rnew_yes seed w h0 h1)
  have hk := TagM.tag_bd seed [0]
  generalize TagM.tag seed [0] = key at C0 hk
  have he : RingM.err 0 key 0 = 0 := RingM.err_zero.2 ⟨by omega, hk, by omega, fun _ => rfl⟩
  have C1 : Hid (∀ (s b : Nat) (w : World), IAt w s b 0 0 0 → Calls Try.prog 10 #[.pointer (some ⟨s, 0, none⟩), .agg #[.int .i64 0, .int .i64 key, .int .i64 0], .int .i64 10] w fun e w' => e = .returned (.tuple #[.agg #[.int .i64 0, .int .i64 0, .int .i64 10, .int .i64 (TagM.tag key [2, 0, 10])], .nilIface]) ∧ IAt w' s b 1 8 1 ∧ Kept [s, b] w w') := hide (fun s b w h => iissue_yes s b w h he rfl (by omega) (by omega) (by omega) (by omega) (by omega) (by omega) (by omega))
  have C2 : Hid (∀ (s b : Nat) (w : World), IAt w s b 8 8 1 → Calls Try.prog 10 #[.pointer (some ⟨s, 0, none⟩), .agg #[.int .i64 0, .int .i64 key, .int .i64 0], .int .i64 10] w fun e w' => e = .returned (.tuple #[.agg #[.int .i64 0, .int .i64 8, .int .i64 10, .int .i64 (TagM.tag key [2, 8, 10])], .nilIface]) ∧ IAt w' s b 9 16 2 ∧ Kept [s, b] w w') := hide (fun s b w h => iissue_yes s b w h he rfl (by omega) (by omega) (by omega) (by omega) (by omega) (by omega) (by omega))
  generalize TagM.tag key [2, 0, 10] = g1 at C1
  generalize TagM.tag key [2, 8, 10] = g2 at C2
  have HE := hide he
  clear hk he h0 h1
  go_enter Try.func5, Try.ntmps5
  go_wp2_with fail
  refine (unhide C0 _).mono ?_
  rintro e w1 ⟨rfl, hb1⟩
  have HB1 := hide hb1
  clear hb1 C0
  go_wp2_with fail
  refine (inew_any _).mono ?_
  rintro e w2 ⟨sa, ba, rfl, hi2, hs2, ht2, hb2⟩
  simp at hs2 ht2
  have z1 := (unhide HB1).size
  have HR2 : Hid (Held w2 w1.heap.size (n3 0 key 0)) := hide ((Held.fresh (w := w1) (n3 0 key 0) 30 rfl).later hb2)
  have HI2 := hide hi2
  have HB2 := hide (show Below w.heap.size w w2 from Below.trans (Below.alloc (unhide HB1) z1 _) (hb2.mono (by simp; omega)))
  clear hi2 hb2
  obtain ⟨r0, r1, r2⟩ := (unhide HR2).c3.1
  have rl := (unhide HR2).2
  go_wp2_with fail
  refine (unhide C1 sa ba _ (unhide HI2)).mono ?_
  rintro e w3 ⟨rfl, hi3, k3⟩
  clear r0 r1 r2 rl
  have HR3 := hide (k3.held (unhide HR2) (by simp; omega))
  have HB3 := hide (iown k3 (unhide HB2) (by omega) (by omega))
  have HI3 := hide hi3
  have z3 := hi3.lt
  clear hi3 k3
  go_wp2_with fail
  refine (icrash_any sa ba 1 8 1 _ ((unhide HI3).alloc _)).mono ?_
  rintro e w4 ⟨rfl, hi4, k4⟩
  have HA4 : Hid (Held w4 w3.heap.size (n4 0 0 10 g1)) := hide (k4.held (Held.fresh (w := w3) (n4 0 0 10 g1) 36 rfl) (by simp; omega))
  have HR4 := hide (k4.held ((unhide HR3).later (Below.alloc (Below.refl _ _) (Nat.le_refl _) _)) (by simp; omega))
  have HB4 := hide (iown k4 (Below.alloc (unhide HB3) (unhide HB3).size _) (by omega) (by omega))
  have HI4 := hide hi4
  clear hi4 k4
  obtain ⟨r0, r1, r2⟩ := (unhide HR4).c3.1
  have rl := (unhide HR4).2
  go_wp2_with fail
  refine (unhide C2 sa ba _ (unhide HI4)).mono ?_
  rintro e w5 ⟨rfl, hi5, k5⟩
  clear r0 r1 r2 rl
  have HA5 := hide (k5.held (unhide HA4) (by simp; omega))
  have HR5 := hide (k5.held (unhide HR4) (by simp; omega))
  have HB5 := hide (iown k5 (unhide HB4) (by omega) (by omega))
  clear hi5 k5 C1 C2
  obtain ⟨a0, a1, a2, a3⟩ := (unhide HA5).c4.1
  have al := (unhide HA5).2
  go_wp2_with fail
  refine (inew_any _).mono ?_
  rintro e w6 ⟨s, b, rfl, hi6, hs6, ht6, hb6⟩
  clear a0 a1 a2 a3 al
  simp at hs6 ht6
  have z5 := (unhide HB5).size
  have y5 := (unhide HR5).2
  have HR6 := hide (((unhide HR5).later (Below.alloc (Below.refl _ _) (Nat.le_refl _) _)).later hb6)
  have HI6 := hide hi6
  have HB6 := hide (show Below w.heap.size w w6 from Below.trans (Below.alloc (unhide HB5) z5 _) (hb6.mono (by simp; omega)))
  have hs : w.heap.size ≤ s := by omega
  have hb : w.heap.size ≤ b := by omega
  have hrs : w1.heap.size < s := by omega
  have hrb : w1.heap.size < b := by omega
  clear hi6 hb6 HA4 HA5 HR2 HR3 HR4 HR5 HI2 HI3 HI4 HB2 HB3 HB4 HB5 hs2 ht2 hs6 ht6 z3
  go_wp2
  go_loopw [15, 16] (fun v i wr => ∃ (k : Nat) (n m c t : Int), k ≤ 100 ∧ i = .int .i64 k ∧ v = .int .i64 t ∧ 0 ≤ n ∧ n ≤ m ∧ m ≤ 1000 ∧ m % 8 = 0 ∧ 0 ≤ c ∧ c ≤ (k : Int) ∧ t < n ∧ Hid (IAt wr s b n m c) ∧ Hid (Held wr w1.heap.size (n3 0 key 0)) ∧ Hid (Below w.heap.size w wr)) (fun _ i _ => 100 - (intOf i).toNat)
  case atStart => exact ⟨0, 0, 0, 0, -1, by omega, rfl, rfl, by omega, by omega, by omega, by omega, by omega, by omega, by omega, HI6, HR6, HB6⟩
  case round =>
    clear HI6 HR6 HB6
    obtain ⟨k, n, m, c, t, hk, rfl, rfl, hr0, hr1, hr2, hr3, hr4, hr5, hr6, HI, HR, HB⟩ := hrel
    by_cases hkd : (k : Int) < (dlen : Int)
    · by_cases hkl : (k : Int) < (len : Int)
      · by_cases hk1 : (k : Int) < 100
        · obtain ⟨db, doff, rfl, hd'⟩ := (unhide HDI).2 k (by rw [unhide HDL]; omega)
          have hdc := cell_later (unhide HB) hd'
          have hk0 : (0 : Int) ≤ (k : Int) := by omega
          generalize ds.getD k 0 = d at hdc
          clear hd'
          by_cases hd : d = 0
          · subst hd
            go_wp2_with fail
            refine (icrash_any s b n m c _ (unhide HI)).mono ?_
            rintro e w7 ⟨rfl, hi7, k7⟩
            have HI7 := hide hi7
            have HR7 := hide (k7.held (unhide HR) (by simp; omega))
            have HB7 := hide (iown k7 (unhide HB) hs hb)
            clear hi7 k7
            go_wp2
            go_roundw
            case rel => exact ⟨k + 1, m, m, c, t, by omega, by go_num, rfl, by omega, by omega, by omega, by omega, by omega, by omega, by omega, HI7, HR7, HB7⟩
            case measure => simp [intOf]; omega
          · obtain ⟨pb, off, rfl, hx'⟩ := (unhide HLI).2 k (by rw [unhide HLL]; omega)
            have hx := cell_later (unhide HB) hx'
            have hpw : pb < w.heap.size := World.block_lt_of_cell? _ _ hx'
            generalize zs.getD k 0 = x at hx
            clear hx'
            have hd2 : (d == 0) = false := by simp [hd]
            by_cases hq : IssueM.err 0 key 0 x n = 0
            · obtain ⟨-, hu, hn⟩ := IssueM.err_zero.1 hq
              have CI := hide (fun w h => iissue_yes s b (u := x) w h (unhide HE) hu hr0 hr1 hr2 hr3 hn hr4 (by omega))
              have CC := hide (fun w => kcheck_any 0 key 0 0 n x (TagM.tag key [2, n, x]) x w)
              rw [TicketM.check_made (TokenM.make_zero.2 ⟨unhide HE, (TagM.inB_iff n).2 (by omega), hu⟩) hu, if_neg (by omega), errV_zero rfl] at CC
              generalize TagM.tag key [2, n, x] = g at CI CC
              obtain ⟨v1, v2, v3⟩ := IssueM.up_bd hr1 hr2 hr3 hn
              generalize IssueM.up n m = m' at CI v1 v2 v3
              have q1 : ¬ n ≤ t := by omega
              have q2 : decide (n ≤ t) = false := by simp; omega
              have q3 : (x == x) = true := by simp
              clear hq hu hn
              have RS := hide (fun w' (hk : Kept [s, b] wr w') => reg_s (unhide HR) hx (by omega) (by omega) (by omega) (by omega) hk)
              obtain ⟨hsl, hbl⟩ := (unhide HI).lt
              have hplt : pb < wr.heap.size := World.block_lt_of_cell? _ _ hx
              obtain ⟨r0, r1, r2⟩ := (unhide HR).c3.1
              have rl := (unhide HR).2
              go_wp2
              go_region_held3 (fun w' => Hid (Kept [s, b] wr w') ∧ w'.cell? ⟨pb, off + k, none⟩ = some (.int .i64 x) ∧ w'.cell? ⟨w1.heap.size, 0, none⟩ = some (.int .i64 0) ∧ w'.cell? ⟨w1.heap.size, 1, none⟩ = some (.int .i64 key) ∧ w'.cell? ⟨w1.heap.size, 2, none⟩ = some (.int .i64 0)) (exact unhide RS _ (by repeat' (first | exact Kept.refl _ _ | exact unhide (And.left ‹Hid (Kept [s, b] wr _) ∧ _›) | exact Kept.trans (unhide (And.left ‹Hid (Kept [s, b] wr _) ∧ _›)) hk | exact Kept.trans (Kept.refl _ _).drew hk | refine Kept.drew ?_ | refine Kept.alloc ?_ _ | refine Kept.setCell ?_ (.inr (Nat.le_refl _)) _)))
                (first | (go_at_call 10; refine (unhide CI _ (by first | exact (unhide HI).drew | exact ((unhide HI).alloc _).drew)).mono ?_; rintro e w' ⟨rfl, hi, hk⟩; try (have hfa := fresh_cells hk hsl hbl; obtain ⟨⟨hx0, hx1, hx2, hx3⟩, ⟨hxf0, hxf1, hxf2, hxf3⟩, hxl⟩ := hfa)))
              · obtain ⟨K8, -, -, -, -⟩ := ‹Hid (Kept [s, b] wr _) ∧ _›
                have HX8 : Hid (Held (w'.alloc (Obj.cells #[Value.int .i64 0, Value.int .i64 n, Value.int .i64 x, Value.int .i64 g] 36)) w'.heap.size [Value.int .i64 0, Value.int .i64 n, Value.int .i64 x, Value.int .i64 g]) := hide (Held.fresh (w := w') [Value.int .i64 0, Value.int .i64 n, Value.int .i64 x, Value.int .i64 g] 36 rfl)
                have HI8 := hide (IAt.alloc hi (Obj.cells #[Value.int .i64 0, Value.int .i64 n, Value.int .i64 x, Value.int .i64 g] 36))
                have hxb : wr.heap.size ≤ w'.heap.size := hk.size
                clear hi hk
                generalize (w'.alloc (Obj.cells #[Value.int .i64 0, Value.int .i64 n, Value.int .i64 x, Value.int .i64 g] 36)) = W2 at HX8 HI8 K8 ⊢
                generalize w'.heap.size = xb at HX8 hxb ⊢
                have HR8 := hide ((unhide K8).held (unhide HR) (by simp; omega))
                have HB8 := hide (iown (unhide K8) (unhide HB) hs hb)
                have hx8 : W2.cell? ⟨pb, off + k, none⟩ = some (.int .i64 x) := by rw [(unhide K8).cell hplt (by simp; omega)]; exact hx
                clear RS K8 r0 r1 r2 rl hx hplt
                obtain ⟨r0, r1, r2⟩ := (unhide HR8).c3.1
                have rl := (unhide HR8).2
                obtain ⟨t0, t1, t2, t3⟩ := (unhide HX8).c4.1
                have tl := (unhide HX8).2
                go_wp2
                go_region_held3 (fun w' => Hid (Below W2.heap.size W2 w') ∧ w'.cell? ⟨pb, off + k, none⟩ = some (.int .i64 x) ∧ w'.cell? ⟨w1.heap.size, 0, none⟩ = some (.int .i64 0) ∧ w'.cell? ⟨w1.heap.size, 1, none⟩ = some (.int .i64 key) ∧ w'.cell? ⟨w1.heap.size, 2, none⟩ = some (.int .i64 0) ∧ w'.cell? ⟨xb, 0, none⟩ = some (.int .i64 0) ∧ w'.cell? ⟨xb, 1, none⟩ = some (.int .i64 n) ∧ w'.cell? ⟨xb, 2, none⟩ = some (.int .i64 x) ∧ w'.cell? ⟨xb, 3, none⟩ = some (.int .i64 g)) (first | exact reg_step (by assumption) hb9 | exact reg_step ⟨hide (Below.refl _ _), hx8, r0, r1, r2, t0, t1, t2, t3⟩ (Below.refl _ _).drew)
                  (first | (go_at_call 12; refine (unhide CC _).mono ?_; rintro e w' ⟨rfl, hb9⟩))
                obtain ⟨hb9', -, -, -, -, u0, u1, u2, u3⟩ := ‹Hid (Below W2.heap.size W2 _) ∧ _›
                have HI9 := hide ((unhide HI8).later (unhide hb9'))
                have HR9 := hide ((unhide HR8).later (unhide hb9'))
                have HB9 := hide (bel3 (unhide HB8) (Below.refl _ _) (unhide hb9'))
                have xl9 := Nat.lt_of_lt_of_le tl (unhide hb9').size
                clear hb9' r0 r1 r2 rl t0 t1 t2 t3 tl hx8
                go_wp2
                go_roundw
                case rel => exact ⟨k + 1, (n + 1), m', (c + 1), n, by omega, by go_num, rfl, by omega, by omega, by omega, by omega, by omega, by omega, by omega, HI9, HR9, HB9⟩
                case measure => simp [intOf]; omega
              · obtain ⟨K8, -, -, -, -⟩ := ‹Hid (Kept [s, b] wr _) ∧ _›
                have HX8 : Hid (Held ((((w'.setCell ⟨wr.heap.size, 0, none⟩ (.int .i64 0)).setCell ⟨wr.heap.size, 1, none⟩ (.int .i64 n)).setCell ⟨wr.heap.size, 2, none⟩ (.int .i64 x)).setCell ⟨wr.heap.size, 3, none⟩ (.int .i64 g)) wr.heap.size [Value.int .i64 0, Value.int .i64 n, Value.int .i64 x, Value.int .i64 g]) := hide ((((((hk.fresh4 hsl hbl).put 0 (.int .i64 0)).put 1 (.int .i64 n)).put 2 (.int .i64 x)).put 3 (.int .i64 g)))
                have HI8 := hide (((((hi.far (d := wr.heap.size) (by omega) (by omega) 0 (.int .i64 0)).far (d := wr.heap.size) (by omega) (by omega) 1 (.int .i64 n)).far (d := wr.heap.size) (by omega) (by omega) 2 (.int .i64 x)).far (d := wr.heap.size) (by omega) (by omega) 3 (.int .i64 g)))
                clear hi hk hx0 hx1 hx2 hx3 hxf0 hxf1 hxf2 hxf3 hxl
                generalize ((((w'.setCell ⟨wr.heap.size, 0, none⟩ (.int .i64 0)).setCell ⟨wr.heap.size, 1, none⟩ (.int .i64 n)).setCell ⟨wr.heap.size, 2, none⟩ (.int .i64 x)).setCell ⟨wr.heap.size, 3, none⟩ (.int .i64 g)) = W2 at HX8 HI8 K8 ⊢
                obtain ⟨xb, hxe⟩ : ∃ xb, xb = wr.heap.size := ⟨_, rfl⟩
                have hxb : wr.heap.size ≤ xb := by omega
                rw [← hxe] at HX8 ⊢
                clear hxe
                have HR8 := hide ((unhide K8).held (unhide HR) (by simp; omega))
                have HB8 := hide (iown (unhide K8) (unhide HB) hs hb)
                have hx8 : W2.cell? ⟨pb, off + k, none⟩ = some (.int .i64 x) := by rw [(unhide K8).cell hplt (by simp; omega)]; exact hx
                clear RS K8 r0 r1 r2 rl hx hplt
                obtain ⟨r0, r1, r2⟩ := (unhide HR8).c3.1
                have rl := (unhide HR8).2
                obtain ⟨t0, t1, t2, t3⟩ := (unhide HX8).c4.1
                have tl := (unhide HX8).2
                go_wp2
                go_region_held3 (fun w' => Hid (Below W2.heap.size W2 w') ∧ w'.cell? ⟨pb, off + k, none⟩ = some (.int .i64 x) ∧ w'.cell? ⟨w1.heap.size, 0, none⟩ = some (.int .i64 0) ∧ w'.cell? ⟨w1.heap.size, 1, none⟩ = some (.int .i64 key) ∧ w'.cell? ⟨w1.heap.size, 2, none⟩ = some (.int .i64 0) ∧ w'.cell? ⟨xb, 0, none⟩ = some (.int .i64 0) ∧ w'.cell? ⟨xb, 1, none⟩ = some (.int .i64 n) ∧ w'.cell? ⟨xb, 2, none⟩ = some (.int .i64 x) ∧ w'.cell? ⟨xb, 3, none⟩ = some (.int .i64 g)) (first | exact reg_step (by assumption) hb9 | exact reg_step ⟨hide (Below.refl _ _), hx8, r0, r1, r2, t0, t1, t2, t3⟩ (Below.refl _ _).drew)
                  (first | (go_at_call 12; refine (unhide CC _).mono ?_; rintro e w' ⟨rfl, hb9⟩))
                obtain ⟨hb9', -, -, -, -, u0, u1, u2, u3⟩ := ‹Hid (Below W2.heap.size W2 _) ∧ _›
                have HI9 := hide ((unhide HI8).later (unhide hb9'))
                have HR9 := hide ((unhide HR8).later (unhide hb9'))
                have HB9 := hide (bel3 (unhide HB8) (Below.refl _ _) (unhide hb9'))
                have xl9 := Nat.lt_of_lt_of_le tl (unhide hb9').size
                clear hb9' r0 r1 r2 rl t0 t1 t2 t3 tl hx8
                go_wp2
                go_roundw
                case rel => exact ⟨k + 1, (n + 1), m', (c + 1), n, by omega, by go_num, rfl, by omega, by omega, by omega, by omega, by omega, by omega, by omega, HI9, HR9, HB9⟩
                case measure => simp [intOf]; omega
            · have CI := hide (fun w h => iissue_no s b (ep := 0) (key := key) (old := 0) (u := x) (c := c) w h hr1 hr2 hq)
              generalize IssueM.err 0 key 0 x n = q at CI
              clear hq
              have RS := hide (fun w' (hk : Kept [s, b] wr w') => reg_s (unhide HR) hx (by omega) (by omega) (by omega) (by omega) hk)
              obtain ⟨hsl, hbl⟩ := (unhide HI).lt
              have hplt : pb < wr.heap.size := World.block_lt_of_cell? _ _ hx
              obtain ⟨r0, r1, r2⟩ := (unhide HR).c3.1
              have rl := (unhide HR).2
              go_wp2
              go_region_held3 (fun w' => Hid (Kept [s, b] wr w') ∧ w'.cell? ⟨pb, off + k, none⟩ = some (.int .i64 x) ∧ w'.cell? ⟨w1.heap.size, 0, none⟩ = some (.int .i64 0) ∧ w'.cell? ⟨w1.heap.size, 1, none⟩ = some (.int .i64 key) ∧ w'.cell? ⟨w1.heap.size, 2, none⟩ = some (.int .i64 0)) (exact unhide RS _ (by repeat' (first | exact Kept.refl _ _ | exact unhide (And.left ‹Hid (Kept [s, b] wr _) ∧ _›) | exact Kept.trans (unhide (And.left ‹Hid (Kept [s, b] wr _) ∧ _›)) hk | exact Kept.trans (Kept.refl _ _).drew hk | refine Kept.drew ?_ | refine Kept.alloc ?_ _ | refine Kept.setCell ?_ (.inr (Nat.le_refl _)) _)))
                (first | (go_at_call 10; refine (unhide CI _ (by first | exact (unhide HI).drew | exact ((unhide HI).alloc _).drew)).mono ?_; rintro e w' ⟨rfl, hi, hk⟩; try (have hfa := fresh_cells hk hsl hbl; obtain ⟨⟨hx0, hx1, hx2, hx3⟩, ⟨hxf0, hxf1, hxf2, hxf3⟩, hxl⟩ := hfa)))
              · obtain ⟨K8, -, -, -, -⟩ := ‹Hid (Kept [s, b] wr _) ∧ _›
                have HX8 : Hid (Held (w'.alloc (Obj.cells #[Value.int .i64 0, Value.int .i64 0, Value.int .i64 0, Value.int .i64 0] 36)) w'.heap.size [Value.int .i64 0, Value.int .i64 0, Value.int .i64 0, Value.int .i64 0]) := hide (Held.fresh (w := w') [Value.int .i64 0, Value.int .i64 0, Value.int .i64 0, Value.int .i64 0] 36 rfl)
                have HI8 := hide (IAt.alloc hi (Obj.cells #[Value.int .i64 0, Value.int .i64 0, Value.int .i64 0, Value.int .i64 0] 36))
                have hxb : wr.heap.size ≤ w'.heap.size := hk.size
                clear hi hk
                generalize (w'.alloc (Obj.cells #[Value.int .i64 0, Value.int .i64 0, Value.int .i64 0, Value.int .i64 0] 36)) = W2 at HX8 HI8 K8 ⊢
                generalize w'.heap.size = xb at HX8 hxb ⊢
                have HR8 := hide ((unhide K8).held (unhide HR) (by simp; omega))
                have HB8 := hide (iown (unhide K8) (unhide HB) hs hb)
                clear RS K8 HX8 r0 r1 r2 rl hx hplt
                go_wp2
                go_roundw
                case rel => exact ⟨k + 1, n, m, c, t, by omega, by go_num, rfl, by omega, by omega, by omega, by omega, by omega, by omega, by omega, HI8, HR8, HB8⟩
                case measure => simp [intOf]; omega
              · obtain ⟨K8, -, -, -, -⟩ := ‹Hid (Kept [s, b] wr _) ∧ _›
                have HX8 : Hid (Held ((((w'.setCell ⟨wr.heap.size, 0, none⟩ (.int .i64 0)).setCell ⟨wr.heap.size, 1, none⟩ (.int .i64 0)).setCell ⟨wr.heap.size, 2, none⟩ (.int .i64 0)).setCell ⟨wr.heap.size, 3, none⟩ (.int .i64 0)) wr.heap.size [Value.int .i64 0, Value.int .i64 0, Value.int .i64 0, Value.int .i64 0]) := hide ((((((hk.fresh4 hsl hbl).put 0 (.int .i64 0)).put 1 (.int .i64 0)).put 2 (.int .i64 0)).put 3 (.int .i64 0)))
                have HI8 := hide (((((hi.far (d := wr.heap.size) (by omega) (by omega) 0 (.int .i64 0)).far (d := wr.heap.size) (by omega) (by omega) 1 (.int .i64 0)).far (d := wr.heap.size) (by omega) (by omega) 2 (.int .i64 0)).far (d := wr.heap.size) (by omega) (by omega) 3 (.int .i64 0)))
                clear hi hk hx0 hx1 hx2 hx3 hxf0 hxf1 hxf2 hxf3 hxl
                generalize ((((w'.setCell ⟨wr.heap.size, 0, none⟩ (.int .i64 0)).setCell ⟨wr.heap.size, 1, none⟩ (.int .i64 0)).setCell ⟨wr.heap.size, 2, none⟩ (.int .i64 0)).setCell ⟨wr.heap.size, 3, none⟩ (.int .i64 0)) = W2 at HX8 HI8 K8 ⊢
                obtain ⟨xb, hxe⟩ : ∃ xb, xb = wr.heap.size := ⟨_, rfl⟩
                have hxb : wr.heap.size ≤ xb := by omega
                rw [← hxe] at HX8 ⊢
                clear hxe
                have HR8 := hide ((unhide K8).held (unhide HR) (by simp; omega))
                have HB8 := hide (iown (unhide K8) (unhide HB) hs hb)
                clear RS K8 HX8 r0 r1 r2 rl hx hplt
                go_wp2
                go_roundw
                case rel => exact ⟨k + 1, n, m, c, t, by omega, by go_num, rfl, by omega, by omega, by omega, by omega, by omega, by omega, by omega, HI8, HR8, HB8⟩
                case measure => simp [intOf]; omega
        · go_wp2
          go_ret
          exact ⟨rfl, unhide HB⟩
      · go_wp2
        go_ret
        exact ⟨rfl, unhide HB⟩
    · go_wp2
      go_ret
      exact ⟨rfl, unhide HB⟩

theorem walk (seed : Int) (a0 : Option Addr) (len0 cap0 : Nat) (z0 : List Int) (a1 : Option Addr) (len1 cap1 : Nat) (z1 : List Int) (w : World) (_w0 : (Lit.int .i64 seed).wf = true) (w1 : IsRow .i64 w a0 len0 cap0 z0) (w2 : IsRow .i64 w a1 len1 cap1 z1) :
    Calls Try.prog 5 #[.int .i64 seed, .slice a0 len0 cap0, .slice a1 len1 cap1] w fun e w' => e = .returned (.bool true) ∧ Below w.heap.size w w' := by
  obtain ⟨ds, hdl, hdi, _, _⟩ := row_ints rfl w1
  obtain ⟨zs, hll, hli, _, _⟩ := row_ints rfl w2
  by_cases h : 0 ≤ seed ∧ seed < 999983
  · exact walk1 seed a0 len0 cap0 ds a1 len1 cap1 zs w hdl hdi hll hli h.1 h.2
  · exact walk_bad seed _ _ w (by omega)


set_option maxRecDepth 100000 in
theorem lifted (os : Os) (started : os.Started) (H : Type) (enc : TypeId × Value → H) :
    ReturnsInHanded {} Try.checked os 5 .any (Rows.issueUnlikeSpec.pre6 enc Try.prog Try.f5 Rows.issueUnlikeRow.domain false) (Rows.issueUnlikeSpec.post enc Try.prog Try.f5 false true false false) := by
  refine returnsInHanded_of_change (C := Try.checked) own started (by kernel_rfl) Try.func5
    (ChangeSpec.witness6 (enc := enc) (C := Try.checked) false ⟨#[], #[.int .i64 0, .slice none 0 0, .slice none 0 0], []⟩ 8 (by kernel_rfl) (by kernel_rfl) (by kernel_rfl) (by kernel_rfl)) ?_
  intro W base args ds gs before hval0 hW hcnd _
  have hval : ∀ (j : Nat) t v, Try.f5.params[j]? = some t → args[j]? = some v → Value.okWide Try.prog W .any base t v := hval0
  have hW' := hW
  obtain ⟨p, q, hA0, hV, rfl, hfz, hnd⟩ := hW
  have hA : DataW.TrodAll enc Try.prog W 0 (fun _ => true) true Try.f5.params.toList args.toList ds p := hA0
  rw [Try.params5] at hA hval
  obtain ⟨v0, vs0, d0, ds0, p0, q0, hargs, rfl, rfl, h0, r0⟩ := trodAll_cons hA
  obtain ⟨v1, vs1, d1, ds1, p1, q1, rfl, rfl, rfl, h1, r1⟩ := trodAll_cons r0
  obtain ⟨v2, vs2, d2, ds2, p2, q2, rfl, rfl, rfl, h2, r2⟩ := trodAll_cons r1
  obtain ⟨rfl, rfl, rfl⟩ := trodAll_nil r2
  obtain rfl : args = #[v0, v1, v2] := by cases args; simp_all
  obtain ⟨rfl, rfl⟩ := trodVars_none hV
  have k0 := h0
  have lt0 : ∀ x ∈ p0, x.block < W.heap.size := by obtain ⟨m, hm⟩ := k0; exact DataW.trod_lt m _ _ _ hm
  obtain ⟨a0, rfl, rfl, rfl, w0⟩ := open_int Try.underlying3 (hval 0 3 v0 rfl rfl) h0
  have k1 := h1
  have lt1 : ∀ x ∈ p1, x.block < W.heap.size := by obtain ⟨m, hm⟩ := k1; exact DataW.trod_lt m _ _ _ hm
  obtain ⟨a1, len1, cap1, rfl⟩ := okWide_slice Try.underlying28 (hval 1 28 v1 rfl rfl)
  obtain ⟨z1, w1⟩ : ∃ zs, IsRow .i64 W a1 len1 cap1 zs := by
    obtain ⟨fuel, hf⟩ := h1
    rcases open_ints Try.underlying28 Try.underlying3 (by kernel_rfl) hf with ⟨hcs, _⟩ | ⟨x, l, c, zs, hcs, _, hl, hm, hz, _, hcell, hwz⟩
    · simp [Value.cells] at hcs
      obtain ⟨rfl, rfl, rfl⟩ := hcs
      exact ⟨[], .inl ⟨rfl, rfl, rfl, rfl⟩⟩
    · simp [Value.cells] at hcs
      obtain ⟨rfl, rfl, rfl⟩ := hcs
      exact ⟨zs, .inr ⟨_, rfl, hl, hm, by simpa using hz, hcell, hwz⟩⟩
  have k2 := h2
  have lt2 : ∀ x ∈ p2, x.block < W.heap.size := by obtain ⟨m, hm⟩ := k2; exact DataW.trod_lt m _ _ _ hm
  obtain ⟨a2, len2, cap2, rfl⟩ := okWide_slice Try.underlying28 (hval 2 28 v2 rfl rfl)
  obtain ⟨z2, w2⟩ : ∃ zs, IsRow .i64 W a2 len2 cap2 zs := by
    obtain ⟨fuel, hf⟩ := h2
    rcases open_ints Try.underlying28 Try.underlying3 (by kernel_rfl) hf with ⟨hcs, _⟩ | ⟨x, l, c, zs, hcs, _, hl, hm, hz, _, hcell, hwz⟩
    · simp [Value.cells] at hcs
      obtain ⟨rfl, rfl, rfl⟩ := hcs
      exact ⟨[], .inl ⟨rfl, rfl, rfl, rfl⟩⟩
    · simp [Value.cells] at hcs
      obtain ⟨rfl, rfl, rfl⟩ := hcs
      exact ⟨zs, .inr ⟨_, rfl, hl, hm, by simpa using hz, hcell, hwz⟩⟩
  clear hA0 hval0
  refine (walk a0 a1 len1 cap1 z1 a2 len2 cap2 z2 W w0 w1 w2).mono fun e W' ⟨he, bel⟩ => ?_
  subst he
  exact ⟨_, rfl, _, _, _, [], _, [], hW', trodAll_mk1 (shut_bool Try.underlying4 _), (trodAll_cons_mk (Below.trod laidOut (by kernel_rfl) (of_decide_eq_true (by kernel_rfl)) k0 bel lt0) (trodAll_cons_mk (Below.trod laidOut (by kernel_rfl) (of_decide_eq_true (by kernel_rfl)) k1 bel lt1) (trodAll_cons_mk (Below.trod laidOut (by kernel_rfl) (of_decide_eq_true (by kernel_rfl)) k2 bel lt2) trodAll_mk0))), rfl, bel.frame _, fun h => by cases h⟩

theorem over : Rows.issueUnlikeRow.holds Try.pinned (OpenSpec.ofChange Rows.issueUnlikeSpec) :=
  OpenClaim.holds_of_wide 5 Try.f5 rfl rfl rfl rfl rfl rfl rfl ⟨rfl, rfl, rfl, rfl, rfl⟩ rfl rfl rfl rfl rfl (by kernel_rfl) Try.func5 (by kernel_rfl)
    (of_decide_eq_true (by kernel_rfl)) (by unfold Func.isWrapper; first | (rw [if_pos (by decide +kernel)]; kernel_rfl) | (rw [if_neg (by decide +kernel)]; exact ⟨rfl, rfl⟩))
    (fun os started H enc _ => lifted os started H enc)

end Go.Proofs.Ytgjacfiplhnafah.issueUnlike
namespace Go.Proofs.Ytgjacfiplhnafah
theorem issueUnlike_holds : Rows.IssueUnlikeSaid := issueUnlike.over
#print axioms issueUnlike_holds
end Go.Proofs.Ytgjacfiplhnafah

