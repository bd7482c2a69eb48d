/-
  IssuePlays holds for every ring, every list of deeds and every list of times: what is refused, which tickets are issued and how many, are the document's. The listed variable errors.errorType starts as the program's text lays it (the card's tie). No other condition.
-/
import Derived.Test.YtgjacfiplhnafahDoorRefToken
import Derived.Test.YtgjacfiplhnafahDoorRefRing
import Derived.Test.YtgjacfiplhnafahDoorIssueReg
import Derived.Test.YtgjacfiplhnafahDoorTie
import Derived.Test.YtgjacfiplhnafahDoorCards
import Derived.ProofKit
import Derived.Lib.SmallJoins
import Derived.LaidMore
import Derived.LaidHandle
import Derived.LaidLaws
import Derived.Stop.Joined
import Derived.SevenTiedAt
namespace Go.Proofs.YtgjacfiplhnafahDoor.issuePlays
open Go.ChangeShapes Go.WideShapes Go.ChangeAt Go.RowKit Go.Joins
set_option linter.unusedVariables false

theorem own : ownKnob Tryd.prog.godebug = none := by kernel_rfl
theorem laidOut : laidOutB Tryd.prog = true := by kernel_rfl
def IsRow (k : IntKind) (w : World) (a : Option Addr) (len cap : Nat) (zs : List Int) : Prop :=
  (a = none ∧ len = 0 ∧ cap = 0 ∧ zs = []) ∨
  ∃ x, a = some x ∧ len ≤ cap ∧ cap ≤ maxLen ∧ zs.length = cap ∧ (∀ i, i < zs.length → w.cell? (x.add i) = some (.int k (zs.getD i 0))) ∧ ∀ n ∈ zs, (Lit.int k n).wf = true
def IsStrs (w : World) (a : Option Addr) (len cap : Nat) (zs : List ByteArray) : Prop :=
  (a = none ∧ len = 0 ∧ cap = 0 ∧ zs = []) ∨
  ∃ x, a = some x ∧ len ≤ cap ∧ cap ≤ maxLen ∧ zs.length = cap ∧ (∀ i, i < zs.length → w.cell? (x.add i) = some (.string (zs.getD i ByteArray.empty))) ∧ ∀ s ∈ zs, s.size ≤ maxLen
def IsPairs (w : World) (a : Option Addr) (len cap : Nat) (zs : List (Int × Int)) : Prop :=
  (a = none ∧ len = 0 ∧ cap = 0 ∧ zs = []) ∨
  ∃ x, a = some x ∧ len ≤ cap ∧ cap ≤ maxLen ∧ zs.length = cap ∧ ∀ i, i < cap → w.cell? (x.add (i * 2)) = some (.int .i64 (zs.getD i (0, 0)).1) ∧ w.cell? (x.add (i * 2 + 1)) = some (.int .i64 (zs.getD i (0, 0)).2)
def IsRows (w : World) (a : Option Addr) (len cap : Nat) (A : Nat → Option Addr) (L C : Nat → Nat) (Z : Nat → List Int) : Prop :=
  (a = none ∧ len = 0 ∧ cap = 0) ∨
  ∃ x, a = some x ∧ len ≤ cap ∧ cap ≤ maxLen ∧ ∀ r, r < cap → w.cell? (x.add r) = some (.slice (A r) (L r) (C r)) ∧ L r ≤ C r ∧ C r ≤ maxLen ∧ (Z r).length = C r ∧ (∀ n ∈ Z r, (Lit.int .i64 n).wf = true) ∧ (A r = none → C r = 0) ∧
    ∀ a', A r = some a' → ∀ c, c < C r → w.cell? (a'.add c) = some (.int .i64 ((Z r).getD c 0))

attribute [local go_sem ↓] Go.wp_at_zero Go.wp_at_succ

theorem reg_t {t rb pb o : Nat} {x e0 e1 e2 : Value} {wr w' : World} (hr : Held wr rb [e0, e1, e2]) (hx : wr.cell? ⟨pb, o, none⟩ = some x) (h1 : rb ≠ t) (h2 : pb ≠ t) (hk : Kept [t] wr w') :
    Hid (Kept [t] wr w') ∧ w'.cell? ⟨pb, o, none⟩ = some x ∧ w'.cell? ⟨rb, 0, none⟩ = some e0 ∧ w'.cell? ⟨rb, 1, none⟩ = some e1 := by
  have hp : pb < wr.heap.size := World.block_lt_of_cell? _ _ hx
  have h := hk.held hr (by simp; exact h1)
  exact ⟨hide hk, by rw [hk.cell hp (by simp; exact h2)]; exact hx, h.c3.1.1, h.c3.1.2.1⟩

set_option maxHeartbeats 12800000 in
set_option maxRecDepth 8000 in
theorem walk1 (ep key old : Int) (da : Option Addr) (dlen dcap : Nat) (ds : List Int) (a : Option Addr) (len cap : Nat) (zs : List Int) (w : World) (hdl : ds.length = dlen) (hdi : Ints w da ds) (hll : zs.length = len) (hli : Ints w a zs) (hg : ErrType w) :
    Calls Tryd.prog 3 #[.agg #[.int .i64 ep, .int .i64 key, .int .i64 old], .slice da dlen dcap, .slice a len cap] w fun e w' => e = .returned (.bool true) ∧ Below w.heap.size w w' := by
  have HG := hide hg
  have HDL := hide hdl
  have HDI := hide hdi
  have HLL := hide hll
  have HLI := hide hli
  clear hdl hdi hll hli hg
  go_enter Tryd.func3, Tryd.ntmps3
  go_wp2_with fail
  refine (inew_any _).mono ?_
  rintro e w1 ⟨s, b, rfl, hi1, hs1, ht1, hb1⟩
  simp at hs1 ht1
  obtain ⟨hsm, hbm⟩ := hi1.lt
  have HR1 : Hid (Held w1 w.heap.size (n3 ep key old)) := hide ((Held.fresh (w := w) (n3 ep key old) 23 rfl).later hb1)
  have HI1 := hide hi1
  have HB1 := hide (show Below w.heap.size w w1 from Below.trans (by (repeat' (first | exact Below.refl _ _ | refine Below.alloc ?_ ?_ _ | refine Below.setCell ?_ ?_ _ | refine Below.drew ?_)); all_goals (first | exact Nat.le_refl _ | omega | (simp; done) | (simp; omega))) (hb1.mono (by simp)))
  have hs : w.heap.size < s := by omega
  have hb : w.heap.size < b := by omega
  clear hi1 hb1 hs1 ht1
  go_wp2
  have HM2 := hide (Held.fresh (w := w1) (n2 0 0) 29 rfl)
  have HI2 := hide ((unhide HI1).alloc (.cells (n2 0 0).toArray 29))
  have HR2 := hide ((unhide HR1).later (Below.alloc (Below.refl _ _) (Nat.le_refl _) (.cells (n2 0 0).toArray 29)))
  have HB2 := hide (Below.alloc (unhide HB1) (unhide HB1).size (.cells (n2 0 0).toArray 29))
  clear HI1 HR1 HB1
  go_loopw [9, 10] (fun v i wr => ∃ (k : Nat) (n m c : Int), k ≤ 150 ∧ i = .int .i64 k ∧ v = .int .i64 c ∧ 0 ≤ n ∧ n ≤ m ∧ m ≤ 1000 ∧ m % 8 = 0 ∧ 0 ≤ c ∧ c ≤ (k : Int) ∧ Hid (IAt wr s b n m c) ∧ Hid (Held wr w1.heap.size (n2 n m)) ∧ Hid (Held wr w.heap.size (n3 ep key old)) ∧ Hid (Below w.heap.size w wr)) (fun _ i _ => 150 - (intOf i).toNat)
  case atStart => exact ⟨0, 0, 0, 0, by omega, rfl, rfl, by omega, by omega, by omega, by omega, by omega, by omega, HI2, HM2, HR2, HB2⟩
  case round =>
    clear HI2 HM2 HR2 HB2
    obtain ⟨k, n, m, c, hk, rfl, rfl, hr0, hr1, hr2, hr3, hr4, hr5, HI, HM, HR, HB⟩ := hrel
    by_cases hkd : (k : Int) < (dlen : Int)
    · by_cases hkl : (k : Int) < (len : Int)
      · by_cases hk1 : (k : Int) < 150
        · obtain ⟨db, doff, rfl, hd'⟩ := (unhide HDI).2 k (by rw [unhide HDL]; omega)
          have hdc := cell_later (unhide HB) hd'
          have hk0 : (0 : Int) ≤ (k : Int) := by omega
          generalize ds.getD k 0 = d at hdc
          clear hd'
          by_cases hd : d = 0
          · subst hd
            go_wp2_with fail
            refine (icrash_any s b n m c _ (unhide HI)).mono ?_
            rintro e w6 ⟨rfl, hi6, k6⟩
            have HI6 := hide hi6
            have HM6 := hide (k6.held (unhide HM) (by simp; omega))
            have HR6 := hide (k6.held (unhide HR) (by simp; omega))
            have HB6 := hide (iown k6 (unhide HB) (by omega) (by omega))
            clear hi6 k6
            obtain ⟨⟨m0, m1⟩, mf0, mf1⟩ := (unhide HM6).c2
            have ml := (unhide HM6).2
            go_wp2
            go_roundw
            case rel => exact ⟨k + 1, m, m, c, by omega, by go_num, by first | rfl | go_num, by omega, by omega, by omega, by omega, by omega, by omega, hide ((unhide HI6).far (d := w1.heap.size) (by omega) (by omega) _ _), hide ((unhide HM6).put 0 _), hide ((unhide HR6).far (c := w1.heap.size) (by omega) _ _), hide (Below.setCell (unhide HB6) (p := ⟨w1.heap.size, 0, none⟩) (show w.heap.size ≤ w1.heap.size by omega) _)⟩
            case measure => simp [intOf]; omega
          · have CR := hide (fun w => ref_ring ep key old w)
            have CT := hide (rtime_any (zs.getD k 0))
            obtain ⟨x, hxe⟩ : ∃ x, zs.getD k 0 = x := ⟨_, rfl⟩
            have HXE := hide hxe
            rw [hxe] at CT
            clear hxe
            by_cases he : RingM.err ep key old = 0
            · cases hu : TokenM.timeB x with
              | false =>
                have hq : ¬ IssueM.err ep key old x n = 0 := by rw [IssueM.err_time he hu]; omega
                have CI := hide (fun w h => iissue_no s b (ep := ep) (key := key) (old := old) (u := x) (n := n) (m := m) (c := c) w h hr1 hr2 hq)
                rw [IssueM.err_time he hu] at CI
                rw [he] at CR
                rw [hu] at CT
                clear he hu hq
                obtain ⟨pb, off, rfl, hx'⟩ := (unhide HLI).2 k (by rw [unhide HLL]; omega)
                have hx := cell_later (unhide HB) hx'
                have hpw : pb < w.heap.size := World.block_lt_of_cell? _ _ hx'
                rw [unhide HXE] at hx
                clear hx'
                have hd2 : (d == 0) = false := by simp [hd]
                obtain ⟨r0, r1, r2⟩ := (unhide HR).c3.1
                have rl := (unhide HR).2
                go_wp2_with fail
                refine (unhide CR _).mono ?_
                rintro e w5 ⟨rfl, hb5⟩
                clear r0 r1 r2 rl hdc
                have hx5 := cell_later hb5 hx
                have HI5 := hide ((unhide HI).later hb5)
                have HM5 := hide ((unhide HM).later hb5)
                have HR5 := hide ((unhide HR).later hb5)
                have HB5 := hide (bel3 (unhide HB) (Below.refl _ _) hb5)
                have z5 := (unhide HM5).2
                clear hb5 hx HI HM HR HB
                go_wp2_with fail
                refine (unhide CT _).mono ?_
                rintro e w' ⟨rfl, hw⟩
                obtain rfl := hw.symm
                clear hw
                go_wp2
                have HW6 : Hid (Held (w5.alloc (Obj.cells #[Value.int .i64 0, Value.int .i64 0, Value.int .i64 0, Value.int .i64 0] 33)) w5.heap.size [.int .i64 0, .int .i64 0, .int .i64 0, .int .i64 0]) := hide (Held.fresh (w := w5) [.int .i64 0, .int .i64 0, .int .i64 0, .int .i64 0] 33 rfl)
                have HI6 : Hid (IAt (w5.alloc (Obj.cells #[Value.int .i64 0, Value.int .i64 0, Value.int .i64 0, Value.int .i64 0] 33)) s b n m c) := hide ((unhide HI5).alloc _)
                have HM6 : Hid (Held (w5.alloc (Obj.cells #[Value.int .i64 0, Value.int .i64 0, Value.int .i64 0, Value.int .i64 0] 33)) w1.heap.size (n2 n m)) := hide ((unhide HM5).later (Below.alloc (Below.refl _ _) (Nat.le_refl _) _))
                have HR6 : Hid (Held (w5.alloc (Obj.cells #[Value.int .i64 0, Value.int .i64 0, Value.int .i64 0, Value.int .i64 0] 33)) w.heap.size (n3 ep key old)) := hide ((unhide HR5).later (Below.alloc (Below.refl _ _) (Nat.le_refl _) _))
                have HB6 : Hid (Below w.heap.size w (w5.alloc (Obj.cells #[Value.int .i64 0, Value.int .i64 0, Value.int .i64 0, Value.int .i64 0] 33))) := hide (Below.alloc (unhide HB5) (unhide HB5).size _)
                have hx6 : (w5.alloc (Obj.cells #[Value.int .i64 0, Value.int .i64 0, Value.int .i64 0, Value.int .i64 0] 33)).cell? ⟨pb, off + k, none⟩ = some (.int .i64 x) := cell_later (Below.alloc (Below.refl _ _) (Nat.le_refl _) _) hx5
                generalize (w5.alloc (Obj.cells #[Value.int .i64 0, Value.int .i64 0, Value.int .i64 0, Value.int .i64 0] 33)) = w6 at HW6 HI6 HM6 HR6 HB6 hx6 ⊢
                clear HI5 HM5 HR5 HB5 hx5
                have RS := hide (fun w' (hk : Kept [s, b] w6 w') => reg_s (unhide HR6) hx6 (by omega) (by omega) (by omega) (by omega) hk)
                obtain ⟨hsl, hbl⟩ := (unhide HI6).lt
                have hwl := (unhide HW6).2
                have HI := HI6
                obtain ⟨r0, r1, r2⟩ := (unhide HR6).c3.1
                have rl := (unhide HR6).2
                go_region_held3 (fun w' => Hid (Kept [s, b] w6 w') ∧ w'.cell? ⟨pb, off + k, none⟩ = some (.int .i64 x) ∧ w'.cell? ⟨w.heap.size, 0, none⟩ = some (.int .i64 ep) ∧ w'.cell? ⟨w.heap.size, 1, none⟩ = some (.int .i64 key) ∧ w'.cell? ⟨w.heap.size, 2, none⟩ = some (.int .i64 old)) (exact unhide RS _ (by repeat' (first | exact Kept.refl _ _ | exact unhide (And.left ‹Hid (Kept [s, b] w6 _) ∧ _›) | exact Kept.trans (unhide (And.left ‹Hid (Kept [s, b] w6 _) ∧ _›)) hk | exact Kept.trans (Kept.refl _ _).drew hk | refine Kept.drew ?_ | refine Kept.alloc ?_ _ | refine Kept.setCell ?_ (.inr (Nat.le_refl _)) _)))
                  (first | (go_at_call 10; refine (unhide CI _ (by first | exact (unhide HI).drew | exact ((unhide HI).alloc _).drew)).mono ?_; rintro e w' ⟨rfl, hi, hk⟩; try (have hfa := fresh_cells hk hsl hbl; obtain ⟨⟨hx0, hx1, hx2, hx3⟩, ⟨hxf0, hxf1, hxf2, hxf3⟩, hxl⟩ := hfa)))
                · obtain ⟨K8, -, -, -, -⟩ := ‹Hid (Kept [s, b] w6 _) ∧ _›
                  have HX8 : Hid (Held (w'.alloc (Obj.cells #[Value.int .i64 0, Value.int .i64 0, Value.int .i64 0, Value.int .i64 0] 33)) w'.heap.size [Value.int .i64 0, Value.int .i64 0, Value.int .i64 0, Value.int .i64 0]) := hide (Held.fresh (w := w') [Value.int .i64 0, Value.int .i64 0, Value.int .i64 0, Value.int .i64 0] 33 rfl)
                  have HI8 := hide (IAt.alloc hi (Obj.cells #[Value.int .i64 0, Value.int .i64 0, Value.int .i64 0, Value.int .i64 0] 33))
                  have hxb : w6.heap.size ≤ w'.heap.size := hk.size
                  clear hi hk
                  generalize (w'.alloc (Obj.cells #[Value.int .i64 0, Value.int .i64 0, Value.int .i64 0, Value.int .i64 0] 33)) = W2 at HX8 HI8 K8 ⊢
                  generalize w'.heap.size = xb at HX8 hxb ⊢
                  have HM8 := hide ((unhide K8).held (unhide HM6) (by simp; omega))
                  have HW8 := hide ((unhide K8).held (unhide HW6) (by simp; omega))
                  have HR8 := hide ((unhide K8).held (unhide HR6) (by simp; omega))
                  have HB8 := hide (iown (unhide K8) (unhide HB6) (by omega) (by omega))
                  clear RS K8 HI HI6 HM6 HW6 HR6 HB6 r0 r1 r2 rl hx6
                  go_wp2_with fail
                  refine (same_errno _ _ _ ((unhide HG).later (unhide HB8))).mono ?_
                  rintro e w9 ⟨rfl, hb9⟩
                  have HX9 := hide ((unhide HX8).later hb9)
                  have HI9 := hide ((unhide HI8).later hb9)
                  have HM9 := hide ((unhide HM8).later hb9)
                  have HW9 := hide ((unhide HW8).later hb9)
                  have HR9 := hide ((unhide HR8).later hb9)
                  have HB9 := hide (bel3 (unhide HB8) (Below.refl _ _) hb9)
                  clear hb9 HX8 HI8 HM8 HW8 HR8 HB8
                  obtain ⟨t0, t1, t2, t3⟩ := (unhide HX9).c4.1
                  have tl := (unhide HX9).2
                  obtain ⟨v0, v1, v2, v3⟩ := (unhide HW9).c4.1
                  have vl := (unhide HW9).2
                  go_wp2_with fail
                  refine (imany_any s b n m c _ (unhide HI9)).mono ?_
                  rintro e w' ⟨rfl, hw⟩
                  obtain rfl := hw.symm
                  clear hw
                  clear t0 t1 t2 t3 tl v0 v1 v2 v3 vl
                  go_wp2
                  go_roundw
                  case rel => exact ⟨k + 1, n, m, c, by omega, by go_num, by first | rfl | go_num, by omega, by omega, by omega, by omega, by omega, by omega, HI9, HM9, HR9, HB9⟩
                  case measure => simp [intOf]; omega
                · obtain ⟨K8, -, -, -, -⟩ := ‹Hid (Kept [s, b] w6 _) ∧ _›
                  have HX8 : Hid (Held ((((w'.setCell ⟨w6.heap.size, 0, none⟩ (.int .i64 0)).setCell ⟨w6.heap.size, 1, none⟩ (.int .i64 0)).setCell ⟨w6.heap.size, 2, none⟩ (.int .i64 0)).setCell ⟨w6.heap.size, 3, none⟩ (.int .i64 0)) w6.heap.size [Value.int .i64 0, Value.int .i64 0, Value.int .i64 0, Value.int .i64 0]) := hide ((((((hk.fresh4 hsl hbl).put 0 (.int .i64 0)).put 1 (.int .i64 0)).put 2 (.int .i64 0)).put 3 (.int .i64 0)))
                  have HI8 := hide (((((hi.far (d := w6.heap.size) (by omega) (by omega) 0 (.int .i64 0)).far (d := w6.heap.size) (by omega) (by omega) 1 (.int .i64 0)).far (d := w6.heap.size) (by omega) (by omega) 2 (.int .i64 0)).far (d := w6.heap.size) (by omega) (by omega) 3 (.int .i64 0)))
                  clear hi hk hx0 hx1 hx2 hx3 hxf0 hxf1 hxf2 hxf3 hxl
                  generalize ((((w'.setCell ⟨w6.heap.size, 0, none⟩ (.int .i64 0)).setCell ⟨w6.heap.size, 1, none⟩ (.int .i64 0)).setCell ⟨w6.heap.size, 2, none⟩ (.int .i64 0)).setCell ⟨w6.heap.size, 3, none⟩ (.int .i64 0)) = W2 at HX8 HI8 K8 ⊢
                  obtain ⟨xb, hxe⟩ : ∃ xb, xb = w6.heap.size := ⟨_, rfl⟩
                  have hxb : w6.heap.size ≤ xb := by omega
                  rw [← hxe] at HX8 ⊢
                  clear hxe
                  have HM8 := hide ((unhide K8).held (unhide HM6) (by simp; omega))
                  have HW8 := hide ((unhide K8).held (unhide HW6) (by simp; omega))
                  have HR8 := hide ((unhide K8).held (unhide HR6) (by simp; omega))
                  have HB8 := hide (iown (unhide K8) (unhide HB6) (by omega) (by omega))
                  clear RS K8 HI HI6 HM6 HW6 HR6 HB6 r0 r1 r2 rl hx6
                  go_wp2_with fail
                  refine (same_errno _ _ _ ((unhide HG).later (unhide HB8))).mono ?_
                  rintro e w9 ⟨rfl, hb9⟩
                  have HX9 := hide ((unhide HX8).later hb9)
                  have HI9 := hide ((unhide HI8).later hb9)
                  have HM9 := hide ((unhide HM8).later hb9)
                  have HW9 := hide ((unhide HW8).later hb9)
                  have HR9 := hide ((unhide HR8).later hb9)
                  have HB9 := hide (bel3 (unhide HB8) (Below.refl _ _) hb9)
                  clear hb9 HX8 HI8 HM8 HW8 HR8 HB8
                  obtain ⟨t0, t1, t2, t3⟩ := (unhide HX9).c4.1
                  have tl := (unhide HX9).2
                  obtain ⟨v0, v1, v2, v3⟩ := (unhide HW9).c4.1
                  have vl := (unhide HW9).2
                  go_wp2_with fail
                  refine (imany_any s b n m c _ (unhide HI9)).mono ?_
                  rintro e w' ⟨rfl, hw⟩
                  obtain rfl := hw.symm
                  clear hw
                  clear t0 t1 t2 t3 tl v0 v1 v2 v3 vl
                  go_wp2
                  go_roundw
                  case rel => exact ⟨k + 1, n, m, c, by omega, by go_num, by first | rfl | go_num, by omega, by omega, by omega, by omega, by omega, by omega, HI9, HM9, HR9, HB9⟩
                  case measure => simp [intOf]; omega
              | true =>
                by_cases hn : n = 1000
                · subst hn
                  obtain rfl : m = 1000 := by omega
                  have hq : ¬ IssueM.err ep key old x 1000 = 0 := by rw [IssueM.err_full he hu]; omega
                  have CI := hide (fun w h => iissue_no s b (ep := ep) (key := key) (old := old) (u := x) (n := 1000) (m := 1000) (c := c) w h (by omega) (by omega) hq)
                  rw [IssueM.err_full he hu] at CI
                  rw [he] at CR
                  rw [hu] at CT
                  clear he hu hq
                  obtain ⟨pb, off, rfl, hx'⟩ := (unhide HLI).2 k (by rw [unhide HLL]; omega)
                  have hx := cell_later (unhide HB) hx'
                  have hpw : pb < w.heap.size := World.block_lt_of_cell? _ _ hx'
                  rw [unhide HXE] at hx
                  clear hx'
                  have hd2 : (d == 0) = false := by simp [hd]
                  obtain ⟨r0, r1, r2⟩ := (unhide HR).c3.1
                  have rl := (unhide HR).2
                  go_wp2_with fail
                  refine (unhide CR _).mono ?_
                  rintro e w5 ⟨rfl, hb5⟩
                  clear r0 r1 r2 rl hdc
                  have hx5 := cell_later hb5 hx
                  have HI5 := hide ((unhide HI).later hb5)
                  have HM5 := hide ((unhide HM).later hb5)
                  have HR5 := hide ((unhide HR).later hb5)
                  have HB5 := hide (bel3 (unhide HB) (Below.refl _ _) hb5)
                  have z5 := (unhide HM5).2
                  clear hb5 hx HI HM HR HB
                  go_wp2_with fail
                  refine (unhide CT _).mono ?_
                  rintro e w' ⟨rfl, hw⟩
                  obtain rfl := hw.symm
                  clear hw
                  have HW5 : Hid (Held (w5.alloc (Obj.cells #[Value.int .i64 0, Value.int .i64 0, Value.int .i64 0, Value.int .i64 0] 33)) w5.heap.size [.int .i64 0, .int .i64 0, .int .i64 0, .int .i64 0]) := hide (Held.fresh (w := w5) [.int .i64 0, .int .i64 0, .int .i64 0, .int .i64 0] 33 rfl)
                  have zi5 := (unhide HI5).lt
                  go_wp2_with fail
                  refine (rbnext_full _ 1000 _ ((unhide HM5).later (Below.alloc (Below.refl _ _) (Nat.le_refl _) _)) (by omega) (by omega)).mono ?_
                  rintro e w6 ⟨rfl, h6, k6⟩
                  have HM6 := hide h6
                  have HW6 := hide (k6.held (unhide HW5) (by simp; omega))
                  have HI6 := hide (((unhide HI5).alloc _).kept k6 (by simp; omega) (by simp; omega))
                  have HR6 := hide (k6.held ((unhide HR5).later (Below.alloc (Below.refl _ _) (Nat.le_refl _) _)) (by simp; omega))
                  have HB6 := hide (bown k6 (Below.alloc (unhide HB5) (unhide HB5).size _) (by omega))
                  have hx6 : w6.cell? ⟨pb, off + k, none⟩ = some (.int .i64 x) := by
                    rw [k6.cell (by simp; omega) (by simp; omega)]
                    exact cell_later (Below.alloc (Below.refl _ _) (Nat.le_refl _) _) hx5
                  clear h6 k6 HM5 HW5 HI5 HR5 HB5 hx5
                  go_wp2
                  have RS := hide (fun w' (hk : Kept [s, b] w6 w') => reg_s (unhide HR6) hx6 (by omega) (by omega) (by omega) (by omega) hk)
                  obtain ⟨hsl, hbl⟩ := (unhide HI6).lt
                  have hwl := (unhide HW6).2
                  have HI := HI6
                  obtain ⟨r0, r1, r2⟩ := (unhide HR6).c3.1
                  have rl := (unhide HR6).2
                  go_region_held3 (fun w' => Hid (Kept [s, b] w6 w') ∧ w'.cell? ⟨pb, off + k, none⟩ = some (.int .i64 x) ∧ w'.cell? ⟨w.heap.size, 0, none⟩ = some (.int .i64 ep) ∧ w'.cell? ⟨w.heap.size, 1, none⟩ = some (.int .i64 key) ∧ w'.cell? ⟨w.heap.size, 2, none⟩ = some (.int .i64 old)) (exact unhide RS _ (by repeat' (first | exact Kept.refl _ _ | exact unhide (And.left ‹Hid (Kept [s, b] w6 _) ∧ _›) | exact Kept.trans (unhide (And.left ‹Hid (Kept [s, b] w6 _) ∧ _›)) hk | exact Kept.trans (Kept.refl _ _).drew hk | refine Kept.drew ?_ | refine Kept.alloc ?_ _ | refine Kept.setCell ?_ (.inr (Nat.le_refl _)) _)))
                    (first | (go_at_call 10; refine (unhide CI _ (by first | exact (unhide HI).drew | exact ((unhide HI).alloc _).drew)).mono ?_; rintro e w' ⟨rfl, hi, hk⟩; try (have hfa := fresh_cells hk hsl hbl; obtain ⟨⟨hx0, hx1, hx2, hx3⟩, ⟨hxf0, hxf1, hxf2, hxf3⟩, hxl⟩ := hfa)))
                  · obtain ⟨K8, -, -, -, -⟩ := ‹Hid (Kept [s, b] w6 _) ∧ _›
                    have HX8 : Hid (Held (w'.alloc (Obj.cells #[Value.int .i64 0, Value.int .i64 0, Value.int .i64 0, Value.int .i64 0] 33)) w'.heap.size [Value.int .i64 0, Value.int .i64 0, Value.int .i64 0, Value.int .i64 0]) := hide (Held.fresh (w := w') [Value.int .i64 0, Value.int .i64 0, Value.int .i64 0, Value.int .i64 0] 33 rfl)
                    have HI8 := hide (IAt.alloc hi (Obj.cells #[Value.int .i64 0, Value.int .i64 0, Value.int .i64 0, Value.int .i64 0] 33))
                    have hxb : w6.heap.size ≤ w'.heap.size := hk.size
                    clear hi hk
                    generalize (w'.alloc (Obj.cells #[Value.int .i64 0, Value.int .i64 0, Value.int .i64 0, Value.int .i64 0] 33)) = W2 at HX8 HI8 K8 ⊢
                    generalize w'.heap.size = xb at HX8 hxb ⊢
                    have HM8 := hide ((unhide K8).held (unhide HM6) (by simp; omega))
                    have HW8 := hide ((unhide K8).held (unhide HW6) (by simp; omega))
                    have HR8 := hide ((unhide K8).held (unhide HR6) (by simp; omega))
                    have HB8 := hide (iown (unhide K8) (unhide HB6) (by omega) (by omega))
                    clear RS K8 HI HI6 HM6 HW6 HR6 HB6 r0 r1 r2 rl hx6
                    go_wp2_with fail
                    refine (same_errno _ _ _ ((unhide HG).later (unhide HB8))).mono ?_
                    rintro e w9 ⟨rfl, hb9⟩
                    have HX9 := hide ((unhide HX8).later hb9)
                    have HI9 := hide ((unhide HI8).later hb9)
                    have HM9 := hide ((unhide HM8).later hb9)
                    have HW9 := hide ((unhide HW8).later hb9)
                    have HR9 := hide ((unhide HR8).later hb9)
                    have HB9 := hide (bel3 (unhide HB8) (Below.refl _ _) hb9)
                    clear hb9 HX8 HI8 HM8 HW8 HR8 HB8
                    obtain ⟨t0, t1, t2, t3⟩ := (unhide HX9).c4.1
                    have tl := (unhide HX9).2
                    obtain ⟨v0, v1, v2, v3⟩ := (unhide HW9).c4.1
                    have vl := (unhide HW9).2
                    go_wp2_with fail
                    refine (imany_any s b 1000 1000 c _ (unhide HI9)).mono ?_
                    rintro e w' ⟨rfl, hw⟩
                    obtain rfl := hw.symm
                    clear hw
                    clear t0 t1 t2 t3 tl v0 v1 v2 v3 vl
                    go_wp2
                    go_roundw
                    case rel => exact ⟨k + 1, 1000, 1000, c, by omega, by go_num, by first | rfl | go_num, by omega, by omega, by omega, by omega, by omega, by omega, HI9, HM9, HR9, HB9⟩
                    case measure => simp [intOf]; omega
                  · obtain ⟨K8, -, -, -, -⟩ := ‹Hid (Kept [s, b] w6 _) ∧ _›
                    have HX8 : Hid (Held ((((w'.setCell ⟨w6.heap.size, 0, none⟩ (.int .i64 0)).setCell ⟨w6.heap.size, 1, none⟩ (.int .i64 0)).setCell ⟨w6.heap.size, 2, none⟩ (.int .i64 0)).setCell ⟨w6.heap.size, 3, none⟩ (.int .i64 0)) w6.heap.size [Value.int .i64 0, Value.int .i64 0, Value.int .i64 0, Value.int .i64 0]) := hide ((((((hk.fresh4 hsl hbl).put 0 (.int .i64 0)).put 1 (.int .i64 0)).put 2 (.int .i64 0)).put 3 (.int .i64 0)))
                    have HI8 := hide (((((hi.far (d := w6.heap.size) (by omega) (by omega) 0 (.int .i64 0)).far (d := w6.heap.size) (by omega) (by omega) 1 (.int .i64 0)).far (d := w6.heap.size) (by omega) (by omega) 2 (.int .i64 0)).far (d := w6.heap.size) (by omega) (by omega) 3 (.int .i64 0)))
                    clear hi hk hx0 hx1 hx2 hx3 hxf0 hxf1 hxf2 hxf3 hxl
                    generalize ((((w'.setCell ⟨w6.heap.size, 0, none⟩ (.int .i64 0)).setCell ⟨w6.heap.size, 1, none⟩ (.int .i64 0)).setCell ⟨w6.heap.size, 2, none⟩ (.int .i64 0)).setCell ⟨w6.heap.size, 3, none⟩ (.int .i64 0)) = W2 at HX8 HI8 K8 ⊢
                    obtain ⟨xb, hxe⟩ : ∃ xb, xb = w6.heap.size := ⟨_, rfl⟩
                    have hxb : w6.heap.size ≤ xb := by omega
                    rw [← hxe] at HX8 ⊢
                    clear hxe
                    have HM8 := hide ((unhide K8).held (unhide HM6) (by simp; omega))
                    have HW8 := hide ((unhide K8).held (unhide HW6) (by simp; omega))
                    have HR8 := hide ((unhide K8).held (unhide HR6) (by simp; omega))
                    have HB8 := hide (iown (unhide K8) (unhide HB6) (by omega) (by omega))
                    clear RS K8 HI HI6 HM6 HW6 HR6 HB6 r0 r1 r2 rl hx6
                    go_wp2_with fail
                    refine (same_errno _ _ _ ((unhide HG).later (unhide HB8))).mono ?_
                    rintro e w9 ⟨rfl, hb9⟩
                    have HX9 := hide ((unhide HX8).later hb9)
                    have HI9 := hide ((unhide HI8).later hb9)
                    have HM9 := hide ((unhide HM8).later hb9)
                    have HW9 := hide ((unhide HW8).later hb9)
                    have HR9 := hide ((unhide HR8).later hb9)
                    have HB9 := hide (bel3 (unhide HB8) (Below.refl _ _) hb9)
                    clear hb9 HX8 HI8 HM8 HW8 HR8 HB8
                    obtain ⟨t0, t1, t2, t3⟩ := (unhide HX9).c4.1
                    have tl := (unhide HX9).2
                    obtain ⟨v0, v1, v2, v3⟩ := (unhide HW9).c4.1
                    have vl := (unhide HW9).2
                    go_wp2_with fail
                    refine (imany_any s b 1000 1000 c _ (unhide HI9)).mono ?_
                    rintro e w' ⟨rfl, hw⟩
                    obtain rfl := hw.symm
                    clear hw
                    clear t0 t1 t2 t3 tl v0 v1 v2 v3 vl
                    go_wp2
                    go_roundw
                    case rel => exact ⟨k + 1, 1000, 1000, c, by omega, by go_num, by first | rfl | go_num, by omega, by omega, by omega, by omega, by omega, by omega, HI9, HM9, HR9, HB9⟩
                    case measure => simp [intOf]; omega
                · have CI := hide (fun w h => iissue_yes s b (u := x) (n := n) (m := m) (c := c) w h he hu hr0 hr1 hr2 hr3 hn hr4 (by omega))
                  have CN := hide (fun w h => rbnext_any w1.heap.size n m w h hr0 hr1 hr2 hr3 hn)
                  obtain ⟨_, hkey, _⟩ := RingM.err_zero.1 he
                  have CG := hide (fun c w c0 c1 c2 => tag3 key 2 n x c w c0 c1 c2 hkey rfl ((TagM.inB_iff n).2 (by omega)) (TokenM.timeB_in hu))
                  generalize TagM.tag key [2, n, x] = g at CI CG
                  obtain ⟨q1, q2, q3⟩ := IssueM.up_bd hr1 hr2 hr3 hn
                  generalize IssueM.up n m = m' at CI CN q1 q2 q3
                  rw [he] at CR
                  rw [hu] at CT
                  have hxx : (x == x) = true := by simp
                  clear he hu hn hkey
                  obtain ⟨pb, off, rfl, hx'⟩ := (unhide HLI).2 k (by rw [unhide HLL]; omega)
                  have hx := cell_later (unhide HB) hx'
                  have hpw : pb < w.heap.size := World.block_lt_of_cell? _ _ hx'
                  rw [unhide HXE] at hx
                  clear hx'
                  have hd2 : (d == 0) = false := by simp [hd]
                  obtain ⟨r0, r1, r2⟩ := (unhide HR).c3.1
                  have rl := (unhide HR).2
                  go_wp2_with fail
                  refine (unhide CR _).mono ?_
                  rintro e w5 ⟨rfl, hb5⟩
                  clear r0 r1 r2 rl hdc
                  have hx5 := cell_later hb5 hx
                  have HI5 := hide ((unhide HI).later hb5)
                  have HM5 := hide ((unhide HM).later hb5)
                  have HR5 := hide ((unhide HR).later hb5)
                  have HB5 := hide (bel3 (unhide HB) (Below.refl _ _) hb5)
                  have z5 := (unhide HM5).2
                  clear hb5 hx HI HM HR HB
                  go_wp2_with fail
                  refine (unhide CT _).mono ?_
                  rintro e w' ⟨rfl, hw⟩
                  obtain rfl := hw.symm
                  clear hw
                  have HW5 : Hid (Held (w5.alloc (Obj.cells #[Value.int .i64 0, Value.int .i64 0, Value.int .i64 0, Value.int .i64 0] 33)) w5.heap.size [.int .i64 0, .int .i64 0, .int .i64 0, .int .i64 0]) := hide (Held.fresh (w := w5) [.int .i64 0, .int .i64 0, .int .i64 0, .int .i64 0] 33 rfl)
                  have zi5 := (unhide HI5).lt
                  go_wp2_with fail
                  refine (unhide CN _ ((unhide HM5).later (Below.alloc (Below.refl _ _) (Nat.le_refl _) _))).mono ?_
                  rintro e w6 ⟨rfl, h6, k6⟩
                  have HM6 := hide h6
                  have HW6 := hide (k6.held (unhide HW5) (by simp; omega))
                  have HI6 := hide (((unhide HI5).alloc _).kept k6 (by simp; omega) (by simp; omega))
                  have HR6 := hide (k6.held ((unhide HR5).later (Below.alloc (Below.refl _ _) (Nat.le_refl _) _)) (by simp; omega))
                  have HB6 := hide (bown k6 (Below.alloc (unhide HB5) (unhide HB5).size _) (by omega))
                  have hx6 : w6.cell? ⟨pb, off + k, none⟩ = some (.int .i64 x) := by
                    rw [k6.cell (by simp; omega) (by simp; omega)]
                    exact cell_later (Below.alloc (Below.refl _ _) (Nat.le_refl _) _) hx5
                  clear h6 k6 HM5 HW5 HI5 HR5 HB5 hx5
                  have RT := hide (fun w' (hk : Kept [w5.heap.size] w6 w') => reg_t (unhide HR6) hx6 (by omega) (by omega) hk)
                  obtain ⟨⟨v0, v1, v2, v3⟩, vf0, vf1, vf2, vf3⟩ := (unhide HW6).c4
                  have vl := (unhide HW6).2
                  obtain ⟨r0, r1, r2⟩ := (unhide HR6).c3.1
                  have rl := (unhide HR6).2
                  have hpl : pb < w6.heap.size := World.block_lt_of_cell? _ _ hx6
                  go_wp2
                  go_region_held3 (fun w' => Hid (Kept [w5.heap.size] w6 w') ∧ w'.cell? ⟨pb, off + k, none⟩ = some (.int .i64 x) ∧ w'.cell? ⟨w.heap.size, 0, none⟩ = some (.int .i64 ep) ∧ w'.cell? ⟨w.heap.size, 1, none⟩ = some (.int .i64 key)) (exact unhide RT _ (by repeat' (first | exact Kept.refl _ _ | exact unhide (And.left ‹Hid (Kept [w5.heap.size] w6 _) ∧ _›) | refine Kept.drew ?_ | refine Kept.alloc ?_ _ | refine Kept.setCell ?_ (.inl (by simp)) _)))
                    (first | (go_at_call 9; refine (unhide CG _ _ (by first | (rw [World.cell?_alloc_at _ _ _ _ (by simp)]; rfl) | (rw [World.cell?_drew, World.cell?_alloc_at _ _ _ _ (by simp)]; rfl)) (by first | (rw [World.cell?_alloc_at _ _ _ _ (by simp)]; rfl) | (rw [World.cell?_drew, World.cell?_alloc_at _ _ _ _ (by simp)]; rfl)) (by first | (rw [World.cell?_alloc_at _ _ _ _ (by simp)]; rfl) | (rw [World.cell?_drew, World.cell?_alloc_at _ _ _ _ (by simp)]; rfl))).mono ?_; rintro e w' ⟨rfl, rfl⟩))
                  obtain ⟨K7, hx7, -, -⟩ := ‹Hid (Kept [w5.heap.size] w6 _) ∧ _›
                  have HW7 : Hid (Held (((((w6.setCell ⟨w5.heap.size, 0, none⟩ (Value.int .i64 ep)).setCell ⟨w5.heap.size, 1, none⟩ (Value.int .i64 n)).setCell ⟨w5.heap.size, 2, none⟩ (Value.int .i64 x)).setCell ⟨w5.heap.size, 3, none⟩ (Value.int .i64 g)).alloc (Obj.cells #[Value.int .i64 2, Value.int .i64 n, Value.int .i64 x] 3)).drew w5.heap.size [.int .i64 ep, .int .i64 n, .int .i64 x, .int .i64 g]) := hide ((((((unhide HW6).put 0 (.int .i64 ep)).put 1 (.int .i64 n)).put 2 (.int .i64 x)).put 3 (.int .i64 g)).later ((Below.alloc (Below.refl _ _) (Nat.le_refl _) _).drew))
                  have HI7 := hide ((unhide HI6).kept (unhide K7) (by simp; omega) (by simp; omega))
                  have HM7 := hide ((unhide K7).held (unhide HM6) (by simp; omega))
                  have HR7 := hide ((unhide K7).held (unhide HR6) (by simp; omega))
                  have HB7 := hide (bown (unhide K7) (unhide HB6) (by omega))
                  generalize (((((w6.setCell ⟨w5.heap.size, 0, none⟩ (Value.int .i64 ep)).setCell ⟨w5.heap.size, 1, none⟩ (Value.int .i64 n)).setCell ⟨w5.heap.size, 2, none⟩ (Value.int .i64 x)).setCell ⟨w5.heap.size, 3, none⟩ (Value.int .i64 g)).alloc (Obj.cells #[Value.int .i64 2, Value.int .i64 n, Value.int .i64 x] 3)).drew = w7 at K7 hx7 HW7 HI7 HM7 HR7 HB7 ⊢
                  clear RT K7 v0 v1 v2 v3 vf0 vf1 vf2 vf3 vl r0 r1 r2 rl hpl HW6 HI6 HM6 HR6 HB6 hx6
                  go_wp2
                  have RS := hide (fun w' (hk : Kept [s, b] w7 w') => reg_s (unhide HR7) hx7 (by omega) (by omega) (by omega) (by omega) hk)
                  obtain ⟨hsl, hbl⟩ := (unhide HI7).lt
                  have hwl := (unhide HW7).2
                  have HI := HI7
                  obtain ⟨r0, r1, r2⟩ := (unhide HR7).c3.1
                  have rl := (unhide HR7).2
                  go_region_held3 (fun w' => Hid (Kept [s, b] w7 w') ∧ w'.cell? ⟨pb, off + k, none⟩ = some (.int .i64 x) ∧ w'.cell? ⟨w.heap.size, 0, none⟩ = some (.int .i64 ep) ∧ w'.cell? ⟨w.heap.size, 1, none⟩ = some (.int .i64 key) ∧ w'.cell? ⟨w.heap.size, 2, none⟩ = some (.int .i64 old)) (exact unhide RS _ (by repeat' (first | exact Kept.refl _ _ | exact unhide (And.left ‹Hid (Kept [s, b] w7 _) ∧ _›) | exact Kept.trans (unhide (And.left ‹Hid (Kept [s, b] w7 _) ∧ _›)) hk | exact Kept.trans (Kept.refl _ _).drew hk | refine Kept.drew ?_ | refine Kept.alloc ?_ _ | refine Kept.setCell ?_ (.inr (Nat.le_refl _)) _)))
                    (first | (go_at_call 10; refine (unhide CI _ (by first | exact (unhide HI).drew | exact ((unhide HI).alloc _).drew)).mono ?_; rintro e w' ⟨rfl, hi, hk⟩; try (have hfa := fresh_cells hk hsl hbl; obtain ⟨⟨hx0, hx1, hx2, hx3⟩, ⟨hxf0, hxf1, hxf2, hxf3⟩, hxl⟩ := hfa)))
                  · obtain ⟨K8, -, -, -, -⟩ := ‹Hid (Kept [s, b] w7 _) ∧ _›
                    have HX8 : Hid (Held (w'.alloc (Obj.cells #[Value.int .i64 ep, Value.int .i64 n, Value.int .i64 x, Value.int .i64 g] 33)) w'.heap.size [Value.int .i64 ep, Value.int .i64 n, Value.int .i64 x, Value.int .i64 g]) := hide (Held.fresh (w := w') [Value.int .i64 ep, Value.int .i64 n, Value.int .i64 x, Value.int .i64 g] 33 rfl)
                    have HI8 := hide (IAt.alloc hi (Obj.cells #[Value.int .i64 ep, Value.int .i64 n, Value.int .i64 x, Value.int .i64 g] 33))
                    have hxb : w7.heap.size ≤ w'.heap.size := hk.size
                    clear hi hk
                    generalize (w'.alloc (Obj.cells #[Value.int .i64 ep, Value.int .i64 n, Value.int .i64 x, Value.int .i64 g] 33)) = W2 at HX8 HI8 K8 ⊢
                    generalize w'.heap.size = xb at HX8 hxb ⊢
                    have HM8 := hide ((unhide K8).held (unhide HM7) (by simp; omega))
                    have HW8 := hide ((unhide K8).held (unhide HW7) (by simp; omega))
                    have HR8 := hide ((unhide K8).held (unhide HR7) (by simp; omega))
                    have HB8 := hide (iown (unhide K8) (unhide HB7) (by omega) (by omega))
                    clear RS K8 HI HI7 HM7 HW7 HR7 HB7 r0 r1 r2 rl hx7
                    go_wp2_with fail
                    refine (same_nil _ _).mono ?_
                    rintro e w9 ⟨rfl, hb9⟩
                    have HX9 := hide ((unhide HX8).later hb9)
                    have HI9 := hide ((unhide HI8).later hb9)
                    have HM9 := hide ((unhide HM8).later hb9)
                    have HW9 := hide ((unhide HW8).later hb9)
                    have HR9 := hide ((unhide HR8).later hb9)
                    have HB9 := hide (bel3 (unhide HB8) (Below.refl _ _) hb9)
                    clear hb9 HX8 HI8 HM8 HW8 HR8 HB8
                    obtain ⟨t0, t1, t2, t3⟩ := (unhide HX9).c4.1
                    have tl := (unhide HX9).2
                    obtain ⟨v0, v1, v2, v3⟩ := (unhide HW9).c4.1
                    have vl := (unhide HW9).2
                    go_wp2_with fail
                    refine (imany_any s b (n + 1) m' (c + 1) _ (unhide HI9)).mono ?_
                    rintro e w' ⟨rfl, hw⟩
                    obtain rfl := hw.symm
                    clear hw
                    clear t0 t1 t2 t3 tl v0 v1 v2 v3 vl
                    go_wp2
                    go_roundw
                    case rel => exact ⟨k + 1, (n + 1), m', (c + 1), by omega, by go_num, by first | rfl | go_num, by omega, by omega, by omega, by omega, by omega, by omega, HI9, HM9, HR9, HB9⟩
                    case measure => simp [intOf]; omega
                  · obtain ⟨K8, -, -, -, -⟩ := ‹Hid (Kept [s, b] w7 _) ∧ _›
                    have HX8 : Hid (Held ((((w'.setCell ⟨w7.heap.size, 0, none⟩ (.int .i64 ep)).setCell ⟨w7.heap.size, 1, none⟩ (.int .i64 n)).setCell ⟨w7.heap.size, 2, none⟩ (.int .i64 x)).setCell ⟨w7.heap.size, 3, none⟩ (.int .i64 g)) w7.heap.size [Value.int .i64 ep, Value.int .i64 n, Value.int .i64 x, Value.int .i64 g]) := hide ((((((hk.fresh4 hsl hbl).put 0 (.int .i64 ep)).put 1 (.int .i64 n)).put 2 (.int .i64 x)).put 3 (.int .i64 g)))
                    have HI8 := hide (((((hi.far (d := w7.heap.size) (by omega) (by omega) 0 (.int .i64 ep)).far (d := w7.heap.size) (by omega) (by omega) 1 (.int .i64 n)).far (d := w7.heap.size) (by omega) (by omega) 2 (.int .i64 x)).far (d := w7.heap.size) (by omega) (by omega) 3 (.int .i64 g)))
                    clear hi hk hx0 hx1 hx2 hx3 hxf0 hxf1 hxf2 hxf3 hxl
                    generalize ((((w'.setCell ⟨w7.heap.size, 0, none⟩ (.int .i64 ep)).setCell ⟨w7.heap.size, 1, none⟩ (.int .i64 n)).setCell ⟨w7.heap.size, 2, none⟩ (.int .i64 x)).setCell ⟨w7.heap.size, 3, none⟩ (.int .i64 g)) = W2 at HX8 HI8 K8 ⊢
                    obtain ⟨xb, hxe⟩ : ∃ xb, xb = w7.heap.size := ⟨_, rfl⟩
                    have hxb : w7.heap.size ≤ xb := by omega
                    rw [← hxe] at HX8 ⊢
                    clear hxe
                    have HM8 := hide ((unhide K8).held (unhide HM7) (by simp; omega))
                    have HW8 := hide ((unhide K8).held (unhide HW7) (by simp; omega))
                    have HR8 := hide ((unhide K8).held (unhide HR7) (by simp; omega))
                    have HB8 := hide (iown (unhide K8) (unhide HB7) (by omega) (by omega))
                    clear RS K8 HI HI7 HM7 HW7 HR7 HB7 r0 r1 r2 rl hx7
                    go_wp2_with fail
                    refine (same_nil _ _).mono ?_
                    rintro e w9 ⟨rfl, hb9⟩
                    have HX9 := hide ((unhide HX8).later hb9)
                    have HI9 := hide ((unhide HI8).later hb9)
                    have HM9 := hide ((unhide HM8).later hb9)
                    have HW9 := hide ((unhide HW8).later hb9)
                    have HR9 := hide ((unhide HR8).later hb9)
                    have HB9 := hide (bel3 (unhide HB8) (Below.refl _ _) hb9)
                    clear hb9 HX8 HI8 HM8 HW8 HR8 HB8
                    obtain ⟨t0, t1, t2, t3⟩ := (unhide HX9).c4.1
                    have tl := (unhide HX9).2
                    obtain ⟨v0, v1, v2, v3⟩ := (unhide HW9).c4.1
                    have vl := (unhide HW9).2
                    go_wp2_with fail
                    refine (imany_any s b (n + 1) m' (c + 1) _ (unhide HI9)).mono ?_
                    rintro e w' ⟨rfl, hw⟩
                    obtain rfl := hw.symm
                    clear hw
                    clear t0 t1 t2 t3 tl v0 v1 v2 v3 vl
                    go_wp2
                    go_roundw
                    case rel => exact ⟨k + 1, (n + 1), m', (c + 1), by omega, by go_num, by first | rfl | go_num, by omega, by omega, by omega, by omega, by omega, by omega, HI9, HM9, HR9, HB9⟩
                    case measure => simp [intOf]; omega
            · have hq : ¬ IssueM.err ep key old x n = 0 := by rw [IssueM.err_ring he]; exact he
              have CI := hide (fun w h => iissue_no s b (ep := ep) (key := key) (old := old) (u := x) (n := n) (m := m) (c := c) w h hr1 hr2 hq)
              rw [IssueM.err_ring he] at CI
              have hgb : (RingM.err ep key old == 0) = false := by simp [he]
              have hgs : (RingM.err ep key old == RingM.err ep key old) = true := by simp
              generalize RingM.err ep key old = g at CR CI hgb hgs
              clear he hq
              obtain ⟨pb, off, rfl, hx'⟩ := (unhide HLI).2 k (by rw [unhide HLL]; omega)
              have hx := cell_later (unhide HB) hx'
              have hpw : pb < w.heap.size := World.block_lt_of_cell? _ _ hx'
              rw [unhide HXE] at hx
              clear hx'
              have hd2 : (d == 0) = false := by simp [hd]
              obtain ⟨r0, r1, r2⟩ := (unhide HR).c3.1
              have rl := (unhide HR).2
              go_wp2_with fail
              refine (unhide CR _).mono ?_
              rintro e w5 ⟨rfl, hb5⟩
              clear r0 r1 r2 rl hdc
              have hx5 := cell_later hb5 hx
              have HI5 := hide ((unhide HI).later hb5)
              have HM5 := hide ((unhide HM).later hb5)
              have HR5 := hide ((unhide HR).later hb5)
              have HB5 := hide (bel3 (unhide HB) (Below.refl _ _) hb5)
              have z5 := (unhide HM5).2
              clear hb5 hx HI HM HR HB
              go_wp2_with fail
              refine (unhide CT _).mono ?_
              rintro e w' ⟨rfl, hw⟩
              obtain rfl := hw.symm
              clear hw
              go_wp2
              have HW6 : Hid (Held (w5.alloc (Obj.cells #[Value.int .i64 0, Value.int .i64 0, Value.int .i64 0, Value.int .i64 0] 33)) w5.heap.size [.int .i64 0, .int .i64 0, .int .i64 0, .int .i64 0]) := hide (Held.fresh (w := w5) [.int .i64 0, .int .i64 0, .int .i64 0, .int .i64 0] 33 rfl)
              have HI6 : Hid (IAt (w5.alloc (Obj.cells #[Value.int .i64 0, Value.int .i64 0, Value.int .i64 0, Value.int .i64 0] 33)) s b n m c) := hide ((unhide HI5).alloc _)
              have HM6 : Hid (Held (w5.alloc (Obj.cells #[Value.int .i64 0, Value.int .i64 0, Value.int .i64 0, Value.int .i64 0] 33)) w1.heap.size (n2 n m)) := hide ((unhide HM5).later (Below.alloc (Below.refl _ _) (Nat.le_refl _) _))
              have HR6 : Hid (Held (w5.alloc (Obj.cells #[Value.int .i64 0, Value.int .i64 0, Value.int .i64 0, Value.int .i64 0] 33)) w.heap.size (n3 ep key old)) := hide ((unhide HR5).later (Below.alloc (Below.refl _ _) (Nat.le_refl _) _))
              have HB6 : Hid (Below w.heap.size w (w5.alloc (Obj.cells #[Value.int .i64 0, Value.int .i64 0, Value.int .i64 0, Value.int .i64 0] 33))) := hide (Below.alloc (unhide HB5) (unhide HB5).size _)
              have hx6 : (w5.alloc (Obj.cells #[Value.int .i64 0, Value.int .i64 0, Value.int .i64 0, Value.int .i64 0] 33)).cell? ⟨pb, off + k, none⟩ = some (.int .i64 x) := cell_later (Below.alloc (Below.refl _ _) (Nat.le_refl _) _) hx5
              generalize (w5.alloc (Obj.cells #[Value.int .i64 0, Value.int .i64 0, Value.int .i64 0, Value.int .i64 0] 33)) = w6 at HW6 HI6 HM6 HR6 HB6 hx6 ⊢
              clear HI5 HM5 HR5 HB5 hx5
              have RS := hide (fun w' (hk : Kept [s, b] w6 w') => reg_s (unhide HR6) hx6 (by omega) (by omega) (by omega) (by omega) hk)
              obtain ⟨hsl, hbl⟩ := (unhide HI6).lt
              have hwl := (unhide HW6).2
              have HI := HI6
              obtain ⟨r0, r1, r2⟩ := (unhide HR6).c3.1
              have rl := (unhide HR6).2
              go_region_held3 (fun w' => Hid (Kept [s, b] w6 w') ∧ w'.cell? ⟨pb, off + k, none⟩ = some (.int .i64 x) ∧ w'.cell? ⟨w.heap.size, 0, none⟩ = some (.int .i64 ep) ∧ w'.cell? ⟨w.heap.size, 1, none⟩ = some (.int .i64 key) ∧ w'.cell? ⟨w.heap.size, 2, none⟩ = some (.int .i64 old)) (exact unhide RS _ (by repeat' (first | exact Kept.refl _ _ | exact unhide (And.left ‹Hid (Kept [s, b] w6 _) ∧ _›) | exact Kept.trans (unhide (And.left ‹Hid (Kept [s, b] w6 _) ∧ _›)) hk | exact Kept.trans (Kept.refl _ _).drew hk | refine Kept.drew ?_ | refine Kept.alloc ?_ _ | refine Kept.setCell ?_ (.inr (Nat.le_refl _)) _)))
                (first | (go_at_call 10; refine (unhide CI _ (by first | exact (unhide HI).drew | exact ((unhide HI).alloc _).drew)).mono ?_; rintro e w' ⟨rfl, hi, hk⟩; try (have hfa := fresh_cells hk hsl hbl; obtain ⟨⟨hx0, hx1, hx2, hx3⟩, ⟨hxf0, hxf1, hxf2, hxf3⟩, hxl⟩ := hfa)))
              · obtain ⟨K8, -, -, -, -⟩ := ‹Hid (Kept [s, b] w6 _) ∧ _›
                have HX8 : Hid (Held (w'.alloc (Obj.cells #[Value.int .i64 0, Value.int .i64 0, Value.int .i64 0, Value.int .i64 0] 33)) w'.heap.size [Value.int .i64 0, Value.int .i64 0, Value.int .i64 0, Value.int .i64 0]) := hide (Held.fresh (w := w') [Value.int .i64 0, Value.int .i64 0, Value.int .i64 0, Value.int .i64 0] 33 rfl)
                have HI8 := hide (IAt.alloc hi (Obj.cells #[Value.int .i64 0, Value.int .i64 0, Value.int .i64 0, Value.int .i64 0] 33))
                have hxb : w6.heap.size ≤ w'.heap.size := hk.size
                clear hi hk
                generalize (w'.alloc (Obj.cells #[Value.int .i64 0, Value.int .i64 0, Value.int .i64 0, Value.int .i64 0] 33)) = W2 at HX8 HI8 K8 ⊢
                generalize w'.heap.size = xb at HX8 hxb ⊢
                have HM8 := hide ((unhide K8).held (unhide HM6) (by simp; omega))
                have HW8 := hide ((unhide K8).held (unhide HW6) (by simp; omega))
                have HR8 := hide ((unhide K8).held (unhide HR6) (by simp; omega))
                have HB8 := hide (iown (unhide K8) (unhide HB6) (by omega) (by omega))
                clear RS K8 HI HI6 HM6 HW6 HR6 HB6 r0 r1 r2 rl hx6
                go_wp2_with fail
                refine (same_errno _ _ _ ((unhide HG).later (unhide HB8))).mono ?_
                rintro e w9 ⟨rfl, hb9⟩
                have HX9 := hide ((unhide HX8).later hb9)
                have HI9 := hide ((unhide HI8).later hb9)
                have HM9 := hide ((unhide HM8).later hb9)
                have HW9 := hide ((unhide HW8).later hb9)
                have HR9 := hide ((unhide HR8).later hb9)
                have HB9 := hide (bel3 (unhide HB8) (Below.refl _ _) hb9)
                clear hb9 HX8 HI8 HM8 HW8 HR8 HB8
                obtain ⟨t0, t1, t2, t3⟩ := (unhide HX9).c4.1
                have tl := (unhide HX9).2
                obtain ⟨v0, v1, v2, v3⟩ := (unhide HW9).c4.1
                have vl := (unhide HW9).2
                go_wp2_with fail
                refine (imany_any s b n m c _ (unhide HI9)).mono ?_
                rintro e w' ⟨rfl, hw⟩
                obtain rfl := hw.symm
                clear hw
                clear t0 t1 t2 t3 tl v0 v1 v2 v3 vl
                go_wp2
                go_roundw
                case rel => exact ⟨k + 1, n, m, c, by omega, by go_num, by first | rfl | go_num, by omega, by omega, by omega, by omega, by omega, by omega, HI9, HM9, HR9, HB9⟩
                case measure => simp [intOf]; omega
              · obtain ⟨K8, -, -, -, -⟩ := ‹Hid (Kept [s, b] w6 _) ∧ _›
                have HX8 : Hid (Held ((((w'.setCell ⟨w6.heap.size, 0, none⟩ (.int .i64 0)).setCell ⟨w6.heap.size, 1, none⟩ (.int .i64 0)).setCell ⟨w6.heap.size, 2, none⟩ (.int .i64 0)).setCell ⟨w6.heap.size, 3, none⟩ (.int .i64 0)) w6.heap.size [Value.int .i64 0, Value.int .i64 0, Value.int .i64 0, Value.int .i64 0]) := hide ((((((hk.fresh4 hsl hbl).put 0 (.int .i64 0)).put 1 (.int .i64 0)).put 2 (.int .i64 0)).put 3 (.int .i64 0)))
                have HI8 := hide (((((hi.far (d := w6.heap.size) (by omega) (by omega) 0 (.int .i64 0)).far (d := w6.heap.size) (by omega) (by omega) 1 (.int .i64 0)).far (d := w6.heap.size) (by omega) (by omega) 2 (.int .i64 0)).far (d := w6.heap.size) (by omega) (by omega) 3 (.int .i64 0)))
                clear hi hk hx0 hx1 hx2 hx3 hxf0 hxf1 hxf2 hxf3 hxl
                generalize ((((w'.setCell ⟨w6.heap.size, 0, none⟩ (.int .i64 0)).setCell ⟨w6.heap.size, 1, none⟩ (.int .i64 0)).setCell ⟨w6.heap.size, 2, none⟩ (.int .i64 0)).setCell ⟨w6.heap.size, 3, none⟩ (.int .i64 0)) = W2 at HX8 HI8 K8 ⊢
                obtain ⟨xb, hxe⟩ : ∃ xb, xb = w6.heap.size := ⟨_, rfl⟩
                have hxb : w6.heap.size ≤ xb := by omega
                rw [← hxe] at HX8 ⊢
                clear hxe
                have HM8 := hide ((unhide K8).held (unhide HM6) (by simp; omega))
                have HW8 := hide ((unhide K8).held (unhide HW6) (by simp; omega))
                have HR8 := hide ((unhide K8).held (unhide HR6) (by simp; omega))
                have HB8 := hide (iown (unhide K8) (unhide HB6) (by omega) (by omega))
                clear RS K8 HI HI6 HM6 HW6 HR6 HB6 r0 r1 r2 rl hx6
                go_wp2_with fail
                refine (same_errno _ _ _ ((unhide HG).later (unhide HB8))).mono ?_
                rintro e w9 ⟨rfl, hb9⟩
                have HX9 := hide ((unhide HX8).later hb9)
                have HI9 := hide ((unhide HI8).later hb9)
                have HM9 := hide ((unhide HM8).later hb9)
                have HW9 := hide ((unhide HW8).later hb9)
                have HR9 := hide ((unhide HR8).later hb9)
                have HB9 := hide (bel3 (unhide HB8) (Below.refl _ _) hb9)
                clear hb9 HX8 HI8 HM8 HW8 HR8 HB8
                obtain ⟨t0, t1, t2, t3⟩ := (unhide HX9).c4.1
                have tl := (unhide HX9).2
                obtain ⟨v0, v1, v2, v3⟩ := (unhide HW9).c4.1
                have vl := (unhide HW9).2
                go_wp2_with fail
                refine (imany_any s b n m c _ (unhide HI9)).mono ?_
                rintro e w' ⟨rfl, hw⟩
                obtain rfl := hw.symm
                clear hw
                clear t0 t1 t2 t3 tl v0 v1 v2 v3 vl
                go_wp2
                go_roundw
                case rel => exact ⟨k + 1, n, m, c, by omega, by go_num, by first | rfl | go_num, by omega, by omega, by omega, by omega, by omega, by omega, HI9, HM9, HR9, HB9⟩
                case measure => simp [intOf]; omega
        · go_wp2
          go_ret
          exact ⟨rfl, unhide HB⟩
      · go_wp2
        go_ret
        exact ⟨rfl, unhide HB⟩
    · go_wp2
      go_ret
      exact ⟨rfl, unhide HB⟩

theorem walk (ep key old : Int) (a0 : Option Addr) (len0 cap0 : Nat) (z0 : List Int) (a1 : Option Addr) (len1 cap1 : Nat) (z1 : List Int) (w : World) (_w0_0 : (Lit.int .i64 ep).wf = true) (_w0_1 : (Lit.int .i64 key).wf = true) (_w0_2 : (Lit.int .i64 old).wf = true) (w1 : IsRow .i64 w a0 len0 cap0 z0) (w2 : IsRow .i64 w a1 len1 cap1 z1) (hg : ErrType w) :
    Calls Tryd.prog 3 #[.agg #[.int .i64 ep, .int .i64 key, .int .i64 old], .slice a0 len0 cap0, .slice a1 len1 cap1] w fun e w' => e = .returned (.bool true) ∧ Below w.heap.size w w' := by
  obtain ⟨ds, hdl, hdi, _, _⟩ := row_ints rfl w1
  obtain ⟨zs, hll, hli, _, _⟩ := row_ints rfl w2
  exact walk1 ep key old a0 len0 cap0 ds a1 len1 cap1 zs w hdl hdi hll hli hg


theorem gErr : Tryd.prog.globalNamed "errors.errorType" = some 0 := by kernel_rfl
theorem rtErr : (Tryd.prog.cutTypes.find? (·.1 == "internal/reflectlite.rtype")).map (·.2) = some 74 := by kernel_rfl
theorem oneRow : ((List.range 116).filter fun t => Tryd.prog.rowNamed t [101, 114, 114, 111, 114]) = [38] := by kernel_rfl
theorem sizeT : Tryd.prog.types.size = 116 := by kernel_rfl
theorem handle_of_laid {W : World} (h : laidMetH Tryd.prog Rows.issuePlaysRow.laid W) : ErrType W := by
  have h' : laidMet Tryd.prog [] W ∧ handlesMet Tryd.prog Rows.issuePlaysRow.laid W := h
  obtain ⟨name, u, ty, e1, e2, e3, e4, e5⟩ := h'.2 _ (List.mem_singleton.2 rfl)
  have en : name = [101, 114, 114, 111, 114] := (Option.some.inj e1).symm
  subst en
  obtain rfl := Option.some.inj (rtErr.symm.trans e2)
  have hm : ty ∈ (List.range 116).filter fun t => Tryd.prog.rowNamed t [101, 114, 114, 111, 114] := List.mem_filter.2 ⟨List.mem_range.2 (by rw [← sizeT]; exact e3), e4⟩
  rw [oneRow] at hm
  obtain rfl := List.mem_singleton.1 hm
  have hh : typeHandle Tryd.prog 38 = .pointer (some ⟨1, 38, none⟩) := by kernel_rfl
  rw [hh] at e5
  unfold ErrType
  simpa using World.var?_cell gErr e5 0
theorem door_met (os : Os) (args : Array Value) : laidMetH Tryd.prog Rows.issuePlaysRow.laid ((World.doorLaid Tryd.prog 400 os).forCall (fun _ _ => 0) ⟨#[], args, []⟩).memory :=
  laidMetH_of_parts (laidMet_nil _ _) (by kernel_rfl)


set_option maxRecDepth 100000 in
theorem lifted (os : Os) (started : os.Started) (H : Type) (enc : TypeId × Value → H) :
    ReturnsInHanded {} Tryd.checked os 3 .any (fun w args => (Rows.issuePlaysSpec.pre enc Tryd.prog Tryd.f3 [] false w args ∧ laidMetH Tryd.prog Rows.issuePlaysRow.laid w) ∧ sizedMet enc Tryd.prog Tryd.f3 (OpenSpec.ofChange Rows.issuePlaysSpec) false w args) (Rows.issuePlaysSpec.post enc Tryd.prog Tryd.f3 false true false false) := by
  refine returnsInHanded_of_change_and (C := Tryd.checked) (X := fun w _ => laidMetH Tryd.prog Rows.issuePlaysRow.laid w) (fun _ _ _ hh h => h.of_heap hh) own started (by kernel_rfl) Tryd.func3
    (ChangeSpec.witness_shaped (enc := enc) (C := Tryd.checked) (os := os) (X := fun w _ => laidMetH Tryd.prog Rows.issuePlaysRow.laid w) false (World.doorLaid Tryd.prog 400 os) #[.agg #[.int .i64 0, .int .i64 0, .int .i64 0], .slice none 0 0, .slice none 0 0] 8 rfl (World.shaped_of_RefB (by kernel_rfl) (by kernel_rfl)) (by kernel_rfl) (by kernel_rfl) (by kernel_rfl) (door_met os _)) ?_
  intro W base args ds gs before hval0 hW _ hsz hL _
  have hg := handle_of_laid hL
  have hval : ∀ (j : Nat) t v, Tryd.f3.params[j]? = some t → args[j]? = some v → Value.okWide Tryd.prog W .any base t v := hval0
  have hW' := hW
  obtain ⟨p, q, hA0, hV, rfl, hfz, hnd⟩ := hW
  have hA : DataW.TrodAll enc Tryd.prog W 0 (fun _ => true) true Tryd.f3.params.toList args.toList ds p := hA0
  rw [Tryd.params3] at hA hval
  obtain ⟨v0, vs0, d0, ds0, p0, q0, hargs, rfl, rfl, h0, r0⟩ := trodAll_cons hA
  obtain ⟨v1, vs1, d1, ds1, p1, q1, rfl, rfl, rfl, h1, r1⟩ := trodAll_cons r0
  obtain ⟨v2, vs2, d2, ds2, p2, q2, rfl, rfl, rfl, h2, r2⟩ := trodAll_cons r1
  obtain ⟨rfl, rfl, rfl⟩ := trodAll_nil r2
  obtain rfl : args = #[v0, v1, v2] := by cases args; simp_all
  obtain ⟨rfl, rfl⟩ := trodVars_none hV
  have k0 := h0
  have lt0 : ∀ x ∈ p0, x.block < W.heap.size := by obtain ⟨m, hm⟩ := k0; exact DataW.trod_lt m _ _ _ hm
  obtain ⟨c0_0, c0_1, c0_2, y0_0, y0_1, y0_2, m0, rfl, rfl, rfl, g0_0, g0_1, g0_2⟩ := open_agg3 Tryd.underlying23 (by kernel_rfl) (by kernel_rfl) (hval 0 23 v0 rfl rfl) h0
  obtain ⟨a0_0, e0_0, rfl, w0_0⟩ := DataW.trod_int Tryd.underlying3 g0_0
  simp at e0_0; subst e0_0
  obtain ⟨a0_1, e0_1, rfl, w0_1⟩ := DataW.trod_int Tryd.underlying3 g0_1
  simp at e0_1; subst e0_1
  obtain ⟨a0_2, e0_2, rfl, w0_2⟩ := DataW.trod_int Tryd.underlying3 g0_2
  simp at e0_2; subst e0_2
  have k1 := h1
  have lt1 : ∀ x ∈ p1, x.block < W.heap.size := by obtain ⟨m, hm⟩ := k1; exact DataW.trod_lt m _ _ _ hm
  obtain ⟨a1, len1, cap1, rfl⟩ := okWide_slice Tryd.underlying24 (hval 1 24 v1 rfl rfl)
  obtain ⟨z1, w1⟩ : ∃ zs, IsRow .i64 W a1 len1 cap1 zs := by
    obtain ⟨fuel, hf⟩ := h1
    rcases open_ints Tryd.underlying24 Tryd.underlying3 (by kernel_rfl) hf with ⟨hcs, _⟩ | ⟨x, l, c, zs, hcs, _, hl, hm, hz, _, hcell, hwz⟩
    · simp [Value.cells] at hcs
      obtain ⟨rfl, rfl, rfl⟩ := hcs
      exact ⟨[], .inl ⟨rfl, rfl, rfl, rfl⟩⟩
    · simp [Value.cells] at hcs
      obtain ⟨rfl, rfl, rfl⟩ := hcs
      exact ⟨zs, .inr ⟨_, rfl, hl, hm, by simpa using hz, hcell, hwz⟩⟩
  have k2 := h2
  have lt2 : ∀ x ∈ p2, x.block < W.heap.size := by obtain ⟨m, hm⟩ := k2; exact DataW.trod_lt m _ _ _ hm
  obtain ⟨a2, len2, cap2, rfl⟩ := okWide_slice Tryd.underlying24 (hval 2 24 v2 rfl rfl)
  obtain ⟨z2, w2⟩ : ∃ zs, IsRow .i64 W a2 len2 cap2 zs := by
    obtain ⟨fuel, hf⟩ := h2
    rcases open_ints Tryd.underlying24 Tryd.underlying3 (by kernel_rfl) hf with ⟨hcs, _⟩ | ⟨x, l, c, zs, hcs, _, hl, hm, hz, _, hcell, hwz⟩
    · simp [Value.cells] at hcs
      obtain ⟨rfl, rfl, rfl⟩ := hcs
      exact ⟨[], .inl ⟨rfl, rfl, rfl, rfl⟩⟩
    · simp [Value.cells] at hcs
      obtain ⟨rfl, rfl, rfl⟩ := hcs
      exact ⟨zs, .inr ⟨_, rfl, hl, hm, by simpa using hz, hcell, hwz⟩⟩
  clear hA0 hval0
  refine (walk a0_0 a0_1 a0_2 a1 len1 cap1 z1 a2 len2 cap2 z2 W w0_0 w0_1 w0_2 w1 w2 hg).mono fun e W' ⟨he, bel⟩ => ?_
  subst he
  exact ⟨_, rfl, _, _, _, [], _, [], hW', trodAll_mk1 (shut_bool Tryd.underlying4 _), (trodAll_cons_mk (Below.trod laidOut (by kernel_rfl) (of_decide_eq_true (by kernel_rfl)) k0 bel lt0) (trodAll_cons_mk (Below.trod laidOut (by kernel_rfl) (of_decide_eq_true (by kernel_rfl)) k1 bel lt1) (trodAll_cons_mk (Below.trod laidOut (by kernel_rfl) (of_decide_eq_true (by kernel_rfl)) k2 bel lt2) trodAll_mk0))), rfl, bel.frame _, fun h => by cases h⟩

theorem over : Rows.issuePlaysRow.holds Tryd.pinned (OpenSpec.ofChange Rows.issuePlaysSpec) :=
  OpenClaim.holds_of_wide 3 Tryd.f3 rfl rfl rfl rfl rfl rfl rfl ⟨rfl, rfl, rfl, rfl, rfl⟩ rfl rfl rfl rfl rfl (by kernel_rfl) Tryd.func3 (by kernel_rfl)
    (of_decide_eq_true (by kernel_rfl)) (by unfold Func.isWrapper; first | (rw [if_pos (by decide +kernel)]; kernel_rfl) | (rw [if_neg (by decide +kernel)]; exact ⟨rfl, rfl⟩))
    (fun os started H enc _ => lifted os started H enc)

theorem card : Rows.IssuePlaysCardSaid :=
  Claim7.holds_tied_plain_at .later [] [.handle] true (true, "11a6f3afacffb92a9974bade795e447f3e080dd54df8deab8eb68f38ee55ea7b") true
    over (fun _ h => by cases h) (by kernel_rfl) (fun _ h => by cases h) issuePlays_row_tie rfl ⟨rfl, rfl⟩ (by kernel_rfl) rfl
    (fun f fn hf hfn => by
      obtain rfl : f = 3 := Option.some.inj ((show Tryd.prog.funcNamed "tokenfold/foldlaw2.IssuePlays" = some 3 by kernel_rfl).symm.trans hf) |>.symm
      obtain rfl : fn = Tryd.f3 := (Option.some.inj (Tryd.func3.symm.trans hfn)).symm
      exact ⟨by kernel_rfl, fun j t ht => by
        rw [Tryd.params3] at ht
        have hm : t ∈ [23, 24, 24] := by simpa using Array.mem_of_getElem? ht
        have hall : ([23, 24, 24].all fun u => !Tryd.prog.wantsStandIn u) = true := by kernel_rfl
        exact (show Tryd.prog.wantsStandIn t = false by simpa using List.all_eq_true.1 hall t hm)⟩)
    (by kernel_rfl)

end Go.Proofs.YtgjacfiplhnafahDoor.issuePlays
namespace Go.Proofs.YtgjacfiplhnafahDoor
theorem issuePlays_holds : Rows.IssuePlaysCardSaid := issuePlays.card
#print axioms issuePlays_holds
end Go.Proofs.YtgjacfiplhnafahDoor

