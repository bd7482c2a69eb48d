/-
  TopLives holds for every key, every list of deeds and every bucket: the tags of lives with their numbers are all unlike, and of a bucket no more are told than there were. No condition.
-/
import Derived.Test.YtbfofcblhjlgmafLifeWalks
import Derived.Test.YtbfofcblhjlgmafBucketWalks
import Derived.Test.YtbfofcblhjlgmafHeld
import Derived.Test.YtbfofcblhjlgmafPairs
import Derived.ProofKit
import Derived.Lib.SmallJoins
namespace Go.Proofs.Ytbfofcblhjlgmaf.topLives
open Go.ChangeShapes Go.WideShapes Go.ChangeAt Go.RowKit Go.Joins
set_option linter.unusedVariables false

theorem own : ownKnob Try.prog.godebug = none := by kernel_rfl
theorem laidOut : laidOutB Try.prog = true := by kernel_rfl
def IsRow (k : IntKind) (w : World) (a : Option Addr) (len cap : Nat) (zs : List Int) : Prop :=
  (a = none ∧ len = 0 ∧ cap = 0 ∧ zs = []) ∨
  ∃ x, a = some x ∧ len ≤ cap ∧ cap ≤ maxLen ∧ zs.length = cap ∧ (∀ i, i < zs.length → w.cell? (x.add i) = some (.int k (zs.getD i 0))) ∧ ∀ n ∈ zs, (Lit.int k n).wf = true
def IsPairs (w : World) (a : Option Addr) (len cap : Nat) (zs : List (Int × Int)) : Prop :=
  (a = none ∧ len = 0 ∧ cap = 0 ∧ zs = []) ∨
  ∃ x, a = some x ∧ len ≤ cap ∧ cap ≤ maxLen ∧ zs.length = cap ∧ ∀ i, i < cap → w.cell? (x.add (i * 2)) = some (.int .i64 (zs.getD i (0, 0)).1) ∧ w.cell? (x.add (i * 2 + 1)) = some (.int .i64 (zs.getD i (0, 0)).2)
def IsRows (w : World) (a : Option Addr) (len cap : Nat) (A : Nat → Option Addr) (L C : Nat → Nat) (Z : Nat → List Int) : Prop :=
  (a = none ∧ len = 0 ∧ cap = 0) ∨
  ∃ x, a = some x ∧ len ≤ cap ∧ cap ≤ maxLen ∧ ∀ r, r < cap → w.cell? (x.add r) = some (.slice (A r) (L r) (C r)) ∧ L r ≤ C r ∧ C r ≤ maxLen ∧ (Z r).length = C r ∧ (∀ n ∈ Z r, (Lit.int .i64 n).wf = true) ∧ (A r = none → C r = 0) ∧
    ∀ a', A r = some a' → ∀ c, c < C r → w.cell? (a'.add c) = some (.int .i64 ((Z r).getD c 0))


theorem infoInt : (Try.prog.info? 3).map (fun i => (i.zero, i.size, i.bytes)) = some (some (.int .i64 0), 1, 8) := by kernel_rfl
theorem ints1 {w : World} {b : Nat} {x : Int} (c0 : w.cell? ⟨b, 0, none⟩ = some (.int .i64 x)) : Ints w (some ⟨b, 0, none⟩) [x] :=
  ⟨by simp, fun k hk => ⟨b, 0, rfl, by
    match k, hk with
    | 0, _ => exact c0
    | k + 1, hk => simp at hk⟩⟩
theorem ints2 {w : World} {b : Nat} {x y : Int} (c0 : w.cell? ⟨b, 0, none⟩ = some (.int .i64 x)) (c1 : w.cell? ⟨b, 1, none⟩ = some (.int .i64 y)) : Ints w (some ⟨b, 0, none⟩) [x, y] :=
  ⟨by simp, fun k hk => ⟨b, 0, rfl, by
    match k, hk with
    | 0, _ => exact c0
    | 1, _ => exact c1
    | k + 2, hk => simp at hk; omega⟩⟩
theorem make1_yes (key x : Int) (b : Nat) (w : World) (c0 : w.cell? ⟨b, 0, none⟩ = some (.int .i64 x)) (hk : TagM.inB key = true) (hx : TagM.inB x = true) :
    Calls Try.prog 8 #[.int .i64 key, .slice (some ⟨b, 0, none⟩) 1 1] w fun e w' => e = .returned (.tuple #[.int .i64 (TagM.tag key [x]), .nilIface]) ∧ Below w.heap.size w w' := by
  have h := make_yes key (some ⟨b, 0, none⟩) 1 [x] w (ints1 c0) (TagM.err_zero.2 ⟨hk, by simp, by simp [hx]⟩)
  refine Calls.mono h ?_
  rintro e w' ⟨rfl, rfl⟩
  exact ⟨rfl, Below.refl _ _⟩
theorem make1_key (key x : Int) (b : Nat) (w : World) (c0 : w.cell? ⟨b, 0, none⟩ = some (.int .i64 x)) (hk : TagM.inB key = false) :
    Calls Try.prog 8 #[.int .i64 key, .slice (some ⟨b, 0, none⟩) 1 1] w fun e w' => e = .returned (.tuple #[.int .i64 0, .iface 43 (.int .i64 1)]) ∧ Below w.heap.size w w' := by
  have e : TagM.err key [x] = 1 := by unfold TagM.err; rw [if_pos hk]
  have h := make_no key (some ⟨b, 0, none⟩) 1 [x] w (ints1 c0) (by rw [e]; omega)
  rw [e] at h
  refine Calls.mono h ?_
  rintro e w' ⟨rfl, rfl⟩
  exact ⟨rfl, Below.refl _ _⟩
theorem make2_yes (key x y : Int) (b : Nat) (w : World) (c0 : w.cell? ⟨b, 0, none⟩ = some (.int .i64 x)) (c1 : w.cell? ⟨b, 1, none⟩ = some (.int .i64 y)) (hk : TagM.inB key = true) (hx : TagM.inB x = true) (hy : TagM.inB y = true) :
    Calls Try.prog 8 #[.int .i64 key, .slice (some ⟨b, 0, none⟩) 2 2] w fun e w' => e = .returned (.tuple #[.int .i64 (TagM.tag key [x, y]), .nilIface]) ∧ w' = w :=
  make_yes key (some ⟨b, 0, none⟩) 2 [x, y] w (ints2 c0 c1) (TagM.err_zero.2 ⟨hk, by simp, by simp [hx, hy]⟩)
theorem check2_yes (key x y : Int) (b : Nat) (w : World) (c0 : w.cell? ⟨b, 0, none⟩ = some (.int .i64 x)) (c1 : w.cell? ⟨b, 1, none⟩ = some (.int .i64 y)) (hk : TagM.inB key = true) (hx : TagM.inB x = true) (hy : TagM.inB y = true) :
    Calls Try.prog 11 #[.int .i64 key, .slice (some ⟨b, 0, none⟩) 2 2, .int .i64 (TagM.tag key [x, y])] w fun e w' => e = .returned (.tuple #[.bool true, .nilIface]) ∧ w' = w := by
  have hb := TagM.tag_bd key [x, y]
  have h := check_yes key (some ⟨b, 0, none⟩) 2 [x, y] (TagM.tag key [x, y]) w (ints2 c0 c1) (TagM.err_zero.2 ⟨hk, by simp, by simp [hx, hy]⟩) hb.1 hb.2
  rw [show (TagM.tag key [x, y] == TagM.tag key [x, y]) = true by simp] at h
  exact h
theorem one_true (w : World) : Calls Try.prog 4 #[] w fun e w' => e = .returned (.bool true) ∧ Below w.heap.size w w' := by
  have C1 := hide (fun b w c0 c1 => make2_yes 3 4 5 b w c0 c1 rfl rfl rfl)
  have C2 := hide (fun b w c0 c1 => check2_yes 3 4 5 b w c0 c1 rfl rfl rfl)
  generalize TagM.tag 3 [4, 5] = t at C1 C2
  go_enter Try.func4, Try.ntmps4
  go_wp2_with fail
  refine (unhide C1 _ _ (by simp) (by simp)).mono ?_
  rintro e w' ⟨rfl, rfl⟩
  go_wp2_with fail
  refine (unhide C2 _ _ (by simp) (by simp)).mono ?_
  rintro e w' ⟨rfl, rfl⟩
  go_wp2
  go_ret
  exact ⟨rfl, (by (repeat' (first | exact Below.refl _ _ | refine Below.alloc ?_ ?_ _ | refine Below.setCell ?_ ?_ _ | refine Below.drew ?_)); all_goals (first | exact Nat.le_refl _ | omega | (simp; done) | (simp; omega)))⟩
theorem own_ints' {w : World} {base n cap : Nat} {e : TypeId} {a : Option Addr} {zs : List Int} (h : w.ownsRow base e 1 (.slice a n cap) n (zs.map (Value.int .i64))) (hn : n ≤ 60) : Ints w a zs := by
  obtain ⟨a', cap', e, _, hi⟩ := own_took h hn
  cases e
  exact hi
/-- All tags so far are those of lesser numbers: a greater one has another. -/
theorem tags_unlike {key X : Int} {tg : List Int} (h : ∀ z ∈ tg, ∃ x, 0 ≤ x ∧ x < X ∧ z = TagM.tag key [x]) (hk : TagM.inB key = true) (h0 : 0 ≤ X) (h1 : X < 999983) {j : Nat} (hj : j < tg.length) : ¬ tg.getD j 0 = TagM.tag key [X] := by
  intro he
  obtain ⟨x, x0, x1, hz⟩ := h (tg.getD j 0) (by simp [List.getD, hj])
  have := (TagM.tag_one (a := []) (c := []) ((TagM.inB_iff _).1 hk) (n := x) (m := X) ⟨x0, by omega⟩ ⟨h0, h1⟩).1 (hz.symm.trans he)
  omega

set_option maxHeartbeats 12800000 in
set_option maxRecDepth 8000 in
theorem walk_bad (key : Int) (a : Option Addr) (len cap : Nat) (l : List Int) (s r H0 T : Int) (w : World) (hlen : l.length = len) (hI : Ints w a l) (hkey : TagM.inB key = false) :
    Calls Try.prog 3 #[.int .i64 key, .slice a len cap, .agg #[.int .i64 s, .int .i64 r, .int .i64 H0, .int .i64 T]] w fun e w' => e = .returned (.bool true) ∧ Below w.heap.size w w' := by
  have HLEN := hide hlen
  have HI := hide hI
  have HK := hide hkey
  clear hlen hI hkey
  go_enter Try.func3, Try.ntmps3
  go_wp2_with fail
  refine (one_true _).mono ?_
  rintro e w1 ⟨rfl, hb1⟩
  have HP1 := hide ((Held.fresh (w := w) (n4 s r H0 T) 24 rfl).later hb1)
  have HB1 := hide (bel3 (Below.refl w.heap.size w) ((Below.refl _ _).alloc (Nat.le_refl _) _) hb1)
  clear hb1
  go_wp2_with fail
  refine (lnew_any _).mono ?_
  rintro e w2 ⟨rfl, h2, hb2⟩
  have HP2 := hide ((unhide HP1).later hb2)
  have HB2 := hide (bel3 (unhide HB1) (Below.refl _ _) hb2)
  have HL2 := hide h2
  have z1 : w.heap.size < w1.heap.size := (unhide HP1).2
  have z2 : w1.heap.size < w2.heap.size := h2.2
  clear h2 hb2 HP1 HB1
  obtain ⟨p0, p1, p2, p3⟩ := (unhide HP2).c4.1
  have pl := (unhide HP2).2
  go_wp2
  clear p0 p1 p2 p3 pl
  go_loopw [9, 10, 12] (fun v t0 i wr => ∃ (k : Nat) (a n : Int), k ≤ 40 ∧ i = .int .i64 k ∧ v = .slice none 0 0 ∧ t0 = .int .i64 0 ∧ 0 ≤ a ∧ a ≤ 100 ∧ 0 ≤ n ∧ n ≤ 30 ∧ (a = 0 → n = 0) ∧ Hid (Held wr w.heap.size (n4 s r H0 T)) ∧ Hid (Held wr w1.heap.size (n2 a n)) ∧ Hid (Below w.heap.size w wr)) (fun _ _ i _ => 40 - (intOf i).toNat)
  case atStart => exact ⟨0, 0, 0, by omega, rfl, rfl, rfl, by omega, by omega, by omega, by omega, by omega, HP2, HL2, HB2⟩
  case round =>
    clear HP2 HL2 HB2
    obtain ⟨k, a, n, hk, rfl, rfl, rfl, hr0, hr1, hr2, hr3, hr4, HP, HL, HB⟩ := hrel
    by_cases hkl : (k : Int) < (len : Int)
    · by_cases hk1 : (k : Int) < 40
      · obtain ⟨b, off, rfl, hc'⟩ := (unhide HI).2 k (by rw [unhide HLEN]; omega)
        have hc := cell_later (unhide HB) hc'
        have hk0 : (0 : Int) ≤ (k : Int) := by omega
        have hbl : b < wr.heap.size := World.block_lt_of_cell? _ _ hc
        generalize l.getD k 0 = d at hc
        clear hc'
        by_cases hd : d = 0
        · subst hd
          by_cases ha : a = 100
          · subst ha
            go_wp2_with fail
            refine (lstart_full _ n _ (unhide HL)).mono ?_
            rintro e w' ⟨rfl, hw⟩
            obtain rfl := hw.symm
            clear hw
            go_wp2
            go_roundw
            case rel => exact ⟨k + 1, 100, n, by omega, by go_num, rfl, rfl, by omega, by omega, by omega, by omega, by omega, HP, HL, HB⟩
            case measure => simp [intOf]; omega
          · have ha1 : a < 100 := by omega
            go_wp2_with fail
            refine (lstart_yes _ a n _ (unhide HL) (by omega) ha1).mono ?_
            rintro e w6 ⟨rfl, h6, k6⟩
            have HL6 := hide h6
            have HP6 := hide (k6.held (unhide HP) (by rw [List.mem_singleton]; omega))
            have HB6 := hide (k6.own (unhide HB) (by omega))
            have hs6 := k6.size
            clear h6 k6
            go_wp2
            go_roundw
            case rel => exact ⟨k + 1, a + 1, 0, by omega, by go_num, rfl, rfl, by omega, by omega, by omega, by omega, by omega, HP6, HL6, HB6⟩
            case measure => simp [intOf]; omega
        · have hd2 : (d == 0) = false := by simp [hd]
          by_cases ha : a = 0
          · obtain rfl : n = 0 := hr4 ha
            subst ha
            go_wp2_with fail
            refine (lnext_none _ 0 _ (unhide HL)).mono ?_
            rintro e w' ⟨rfl, hw⟩
            obtain rfl := hw.symm
            clear hw
            go_wp2
            go_roundw
            case rel => exact ⟨k + 1, 0, 0, by omega, by go_num, rfl, rfl, by omega, by omega, by omega, by omega, by omega, HP, HL, HB⟩
            case measure => simp [intOf]; omega
          · by_cases hn : n = 30
            · subst hn
              go_wp2_with fail
              refine (lnext_full _ a _ (unhide HL) ha).mono ?_
              rintro e w' ⟨rfl, hw⟩
              obtain rfl := hw.symm
              clear hw
              go_wp2
              go_roundw
              case rel => exact ⟨k + 1, a, 30, by omega, by go_num, rfl, rfl, by omega, by omega, by omega, by omega, by omega, HP, HL, HB⟩
              case measure => simp [intOf]; omega
            · have hn1 : n < 30 := by omega
              go_wp2_with fail
              refine (lnext_yes _ a n _ (unhide HL) ha (by omega) hn1).mono ?_
              rintro e w6 ⟨rfl, h6, k6⟩
              have HL6 := hide h6
              have HP6 := hide (k6.held (unhide HP) (by rw [List.mem_singleton]; omega))
              have HB6 := hide (k6.own (unhide HB) (by omega))
              have hs6 := k6.size
              clear h6 k6
              go_wp2_with fail
              refine (make1_key key (a * 30 + n) _ _ (by simp) (unhide HK)).mono ?_
              rintro e w7 ⟨rfl, hb7⟩
              have HB7 := hide (bel3 (unhide HB6) ((Below.refl _ _).alloc (Nat.le_refl _) _) hb7)
              clear hb7
              rcases (TagM.inB_not _).1 (unhide HK) with hq | hq
              · go_wp2
                go_ret
                exact ⟨rfl, unhide HB7⟩
              · have hq0 : ¬ key < 0 := by omega
                have hq1 : 999982 < key := by omega
                go_wp2
                go_ret
                exact ⟨rfl, unhide HB7⟩
      · obtain ⟨p0, p1, p2, p3⟩ := (unhide HP).c4.1
        have pl := (unhide HP).2
        have CK := hide (fun W => bcheck_any s r H0 T W)
        by_cases hf : BucketM.fault s r H0 T = 0
        · rw [hf, errV_zero rfl] at CK
          have hH0 := (BucketM.fault_zero.1 hf).h0
          have hH1 : H0 ≤ 100 := by have := (BucketM.fault_zero.1 hf).h1; have := (BucketM.fault_zero.1 hf).s1; omega
          go_wp2_with fail
          refine (unhide CK _).mono ?_
          rintro e w8 ⟨rfl, hb8⟩
          have HP8 := hide ((unhide HP).later hb8)
          have HB8 := hide (bel3 (unhide HB) (Below.refl _ _) hb8)
          clear hb8 p0 p1 p2 p3 pl
          obtain ⟨p0, p1, p2, p3⟩ := (unhide HP8).c4.1
          have pl := (unhide HP8).2
          go_wp2
          go_ret
          exact ⟨rfl, unhide HB8⟩
        · rw [BucketM.fault_one hf, errV_pos (by omega)] at CK
          go_wp2_with fail
          refine (unhide CK _).mono ?_
          rintro e w8 ⟨rfl, hb8⟩
          have HB8 := hide (bel3 (unhide HB) (Below.refl _ _) hb8)
          clear hb8
          go_wp2
          go_ret
          exact ⟨rfl, unhide HB8⟩
    · obtain ⟨p0, p1, p2, p3⟩ := (unhide HP).c4.1
      have pl := (unhide HP).2
      have CK := hide (fun W => bcheck_any s r H0 T W)
      by_cases hf : BucketM.fault s r H0 T = 0
      · rw [hf, errV_zero rfl] at CK
        have hH0 := (BucketM.fault_zero.1 hf).h0
        have hH1 : H0 ≤ 100 := by have := (BucketM.fault_zero.1 hf).h1; have := (BucketM.fault_zero.1 hf).s1; omega
        go_wp2_with fail
        refine (unhide CK _).mono ?_
        rintro e w8 ⟨rfl, hb8⟩
        have HP8 := hide ((unhide HP).later hb8)
        have HB8 := hide (bel3 (unhide HB) (Below.refl _ _) hb8)
        clear hb8 p0 p1 p2 p3 pl
        obtain ⟨p0, p1, p2, p3⟩ := (unhide HP8).c4.1
        have pl := (unhide HP8).2
        go_wp2
        go_ret
        exact ⟨rfl, unhide HB8⟩
      · rw [BucketM.fault_one hf, errV_pos (by omega)] at CK
        go_wp2_with fail
        refine (unhide CK _).mono ?_
        rintro e w8 ⟨rfl, hb8⟩
        have HB8 := hide (bel3 (unhide HB) (Below.refl _ _) hb8)
        clear hb8
        go_wp2
        go_ret
        exact ⟨rfl, unhide HB8⟩

set_option maxHeartbeats 12800000 in
set_option maxRecDepth 8000 in
theorem walk_key (key : Int) (a : Option Addr) (len cap : Nat) (l : List Int) (s r H0 T : Int) (w : World) (hlen : l.length = len) (hI : Ints w a l) (hkey : TagM.inB key = true) :
    Calls Try.prog 3 #[.int .i64 key, .slice a len cap, .agg #[.int .i64 s, .int .i64 r, .int .i64 H0, .int .i64 T]] w fun e w' => e = .returned (.bool true) ∧ Below w.heap.size w w' := by
  obtain ⟨i0, hi, hz0, hz1, hz2⟩ := info_parts infoInt
  obtain ⟨F, hF⟩ : ∃ F, BucketM.fault s r H0 T = F := ⟨_, rfl⟩
  have HF0 := hide hF
  clear hF
  have HLEN := hide hlen
  have HI := hide hI
  have HK := hide hkey
  clear hlen hI hkey
  go_enter Try.func3, Try.ntmps3
  go_wp2_with fail
  refine (one_true _).mono ?_
  rintro e w1 ⟨rfl, hb1⟩
  have HP1 := hide ((Held.fresh (w := w) (n4 s r H0 T) 24 rfl).later hb1)
  have HB1 := hide (bel3 (Below.refl w.heap.size w) ((Below.refl _ _).alloc (Nat.le_refl _) _) hb1)
  clear hb1
  go_wp2_with fail
  refine (lnew_any _).mono ?_
  rintro e w2 ⟨rfl, h2, hb2⟩
  have HP2 := hide ((unhide HP1).later hb2)
  have HB2 := hide (bel3 (unhide HB1) (Below.refl _ _) hb2)
  have HL2 := hide h2
  have z1 : w.heap.size < w1.heap.size := (unhide HP1).2
  have z2 : w1.heap.size < w2.heap.size := h2.2
  clear h2 hb2 HP1 HB1
  obtain ⟨p0, p1, p2, p3⟩ := (unhide HP2).c4.1
  have pl := (unhide HP2).2
  go_wp2
  clear p0 p1 p2 p3 pl
  go_loopw [9, 10, 12] (fun v t0 i wr => ∃ (k m : Nat) (tg : List Int) (a n h t : Int), k ≤ 40 ∧ m ≤ k ∧ i = .int .i64 k ∧ t0 = .int .i64 t ∧ 0 ≤ t ∧ t ≤ k ∧ Hid (H0 = h + t) ∧ 0 ≤ a ∧ a ≤ 100 ∧ 0 ≤ n ∧ n ≤ 30 ∧ (a = 0 → n = 0) ∧ Hid (BucketM.fault s r h T = F) ∧ Hid (F = 0 → 0 ≤ h) ∧ Hid (∀ z ∈ tg, ∃ x, 0 ≤ x ∧ x < a * 30 + n ∧ z = TagM.tag key [x]) ∧ Hid (wr.ownsRow w2.heap.size 3 1 v m (tg.map (Value.int .i64))) ∧ Hid (Held wr w.heap.size (n4 s r h T)) ∧ Hid (Held wr w1.heap.size (n2 a n)) ∧ Hid (Below w.heap.size w wr) ∧ w2.heap.size ≤ wr.heap.size) (fun _ _ i _ => 40 - (intOf i).toNat)
  case atStart => exact ⟨0, 0, [], 0, 0, H0, 0, by omega, by omega, rfl, rfl, by omega, by omega, hide (by omega), by omega, by omega, by omega, by omega, by omega, HF0, hide (fun h => (BucketM.fault_zero.1 (by rw [unhide HF0]; exact h)).h0), hide (fun z hz => by simp at hz), hide (World.ownsRow_nil _ _ _ _), HP2, HL2, HB2, Nat.le_refl _⟩
  case round =>
    clear HP2 HL2 HB2 HF0
    obtain ⟨k, m, tg, a, n, h, t, hk, hm, rfl, rfl, ht0, ht1, hH, hr0, hr1, hr2, hr3, hr4, HF, HN, HT, HO, HP, HL, HB, hsz⟩ := hrel
    obtain ⟨av, cv, rfl, hml, -⟩ := own_took (unhide HO) (by omega)
    have HML := hide hml
    clear hml
    by_cases hkl : (k : Int) < (len : Int)
    · by_cases hk1 : (k : Int) < 40
      · obtain ⟨b, off, rfl, hc'⟩ := (unhide HI).2 k (by rw [unhide HLEN]; omega)
        have hc := cell_later (unhide HB) hc'
        have hk0 : (0 : Int) ≤ (k : Int) := by omega
        have hbl : b < wr.heap.size := World.block_lt_of_cell? _ _ hc
        generalize l.getD k 0 = d at hc
        clear hc'
        by_cases hd : d = 0
        · subst hd
          by_cases ha : a = 100
          · subst ha
            go_wp2_with fail
            refine (lstart_full _ n _ (unhide HL)).mono ?_
            rintro e w' ⟨rfl, hw⟩
            obtain rfl := hw.symm
            clear hw
            go_wp2
            go_roundw
            case rel => exact ⟨k + 1, m, tg, 100, n, h, t, by omega, by omega, by go_num, rfl, by omega, by omega, hH, by omega, by omega, by omega, by omega, by omega, HF, HN, HT, HO, HP, HL, HB, by omega⟩
            case measure => simp [intOf]; omega
          · have ha1 : a < 100 := by omega
            go_wp2_with fail
            refine (lstart_yes _ a n _ (unhide HL) (by omega) ha1).mono ?_
            rintro e w6 ⟨rfl, h6, k6⟩
            have HL6 := hide h6
            have HP6 := hide (k6.held (unhide HP) (by rw [List.mem_singleton]; omega))
            have HO6 := hide (k6.row (unhide HO) z2)
            have HB6 := hide (k6.own (unhide HB) (by omega))
            have hs6 := k6.size
            clear h6 k6
            go_wp2
            go_roundw
            case rel => exact ⟨k + 1, m, tg, a + 1, 0, h, t, by omega, by omega, by go_num, rfl, by omega, by omega, hH, by omega, by omega, by omega, by omega, by omega, HF, HN, hide (fun z hz => by obtain ⟨x, x0, x1, e⟩ := unhide HT z hz; exact ⟨x, x0, by omega, e⟩), HO6, HP6, HL6, HB6, by omega⟩
            case measure => simp [intOf]; omega
        · have hd2 : (d == 0) = false := by simp [hd]
          by_cases ha : a = 0
          · obtain rfl : n = 0 := hr4 ha
            subst ha
            go_wp2_with fail
            refine (lnext_none _ 0 _ (unhide HL)).mono ?_
            rintro e w' ⟨rfl, hw⟩
            obtain rfl := hw.symm
            clear hw
            go_wp2
            go_roundw
            case rel => exact ⟨k + 1, m, tg, 0, 0, h, t, by omega, by omega, by go_num, rfl, by omega, by omega, hH, by omega, by omega, by omega, by omega, by omega, HF, HN, HT, HO, HP, HL, HB, by omega⟩
            case measure => simp [intOf]; omega
          · by_cases hn : n = 30
            · subst hn
              go_wp2_with fail
              refine (lnext_full _ a _ (unhide HL) ha).mono ?_
              rintro e w' ⟨rfl, hw⟩
              obtain rfl := hw.symm
              clear hw
              go_wp2
              go_roundw
              case rel => exact ⟨k + 1, m, tg, a, 30, h, t, by omega, by omega, by go_num, rfl, by omega, by omega, hH, by omega, by omega, by omega, by omega, by omega, HF, HN, HT, HO, HP, HL, HB, by omega⟩
              case measure => simp [intOf]; omega
            · have hn1 : n < 30 := by omega
              go_wp2_with fail
              refine (lnext_yes _ a n _ (unhide HL) ha (by omega) hn1).mono ?_
              rintro e w3 ⟨rfl, h3, k3⟩
              have HL3 := hide h3
              have HP3 := hide (k3.held (unhide HP) (by rw [List.mem_singleton]; omega))
              have HO3 := hide (k3.row (unhide HO) z2)
              have HB3 := hide (k3.own (unhide HB) (by omega))
              have hs3 := k3.size
              clear h3 k3
              have hX0 : 0 ≤ a * 30 + n := by omega
              have hX1 : a * 30 + n < 999983 := by omega
              go_wp2_with fail
              refine (make1_yes key (a * 30 + n) _ _ (by simp) (unhide HK) ((TagM.inB_iff _).2 ⟨hX0, hX1⟩)).mono ?_
              rintro e w4 ⟨rfl, hb4⟩
              have hq4 := bel3 (Below.refl w3.heap.size w3) ((Below.refl _ _).alloc (Nat.le_refl _) _) hb4
              have HP4 := hide ((unhide HP3).later hq4)
              have HL4 := hide ((unhide HL3).later hq4)
              have HO4 := hide (own_later (unhide HO3) hq4)
              have HB4 := hide (bel3 (unhide HB3) (Below.refl _ _) hq4)
              have hs4 := (unhide HB4).size
              have hs5 := hq4.size
              clear hb4 hq4 HP3 HL3 HO3 HB3 HP HL HO HB
              have HU := hide (fun (j : Nat) hj => tags_unlike (j := j) (unhide HT) (unhide HK) hX0 hX1 hj)
              have HT1 := hide (show ∀ z ∈ tg ++ [TagM.tag key [a * 30 + n]], ∃ x, 0 ≤ x ∧ x < a * 30 + (n + 1) ∧ z = TagM.tag key [x] from fun z hz => by
                rcases List.mem_append.1 hz with h | h
                · obtain ⟨x, x0, x1, e⟩ := unhide HT z h; exact ⟨x, x0, by omega, e⟩
                · exact ⟨a * 30 + n, hX0, by omega, List.mem_singleton.1 h⟩)
              generalize TagM.tag key [a * 30 + n] = N at HU HT1 ⊢
              clear HT
              have HIN := hide (own_ints' (unhide HO4) (by omega))
              have HLT := hide (fun q hq => (unhide HO4).lt q hq)
              clear hc
              go_wp2
              go_loop [17] (fun i => ∃ j : Nat, j ≤ m ∧ i = .int .i64 j) (fun i => m - (intOf i).toNat)
              case atStart => exact ⟨0, Nat.zero_le _, rfl⟩
              case round =>
                obtain ⟨j, hj, rfl⟩ := hrel
                by_cases hjm : (j : Int) < (m : Int)
                · obtain ⟨g, og, rfl, hcj⟩ := (unhide HIN).2 j (by rw [unhide HML]; omega)
                  have hu := unhide HU j (by rw [unhide HML]; omega)
                  generalize tg.getD j 0 = y at hcj hu
                  have hu2 : (y == N) = false := by simp [hu]
                  have hj0 : (0 : Int) ≤ (j : Int) := by omega
                  go_wp2
                  go_round
                  case rel => exact ⟨j + 1, by omega, by go_num⟩
                  case measure => simp [intOf]; omega
                · obtain rfl : j = m := by omega
                  go_wp2_with (at_builtin; refine wpList_append_own _ rfl _ _ 22 rfl w2.heap.size 3 i0 (.int .i64 0) 1 8 Try.underlying22 hi hz0 hz1 hz2 rfl (by decide) _ _ _ rfl ((unhide HO4).alloc _) ⟨w4.heap.size, 0, none⟩ 1 1 [.int .i64 N] rfl rfl ?c1 ?c2 ?c3 ?c4 ?c5 ?_)
                  case c2 => first | exact ints_one [N] | rfl
                  case c3 => unfold maxLen; omega
                  case c4 => omega
                  case c5 => first | omega | (simp; omega)
                  · intro v' w7 hown' hgrow _
                    have HP7 := hide (((unhide HP4).later ((Below.refl _ _).alloc (Nat.le_refl _) _)).grew hgrow (fun e => by have := (unhide HLT _ e.symm).1; omega))
                    have HL7 := hide (((unhide HL4).later ((Below.refl _ _).alloc (Nat.le_refl _) _)).grew hgrow (fun e => by have := (unhide HLT _ e.symm).1; omega))
                    have HB7 := hide (((unhide HB4).alloc hs4 _).grown hgrow (by simp; omega) (fun q hq => by have := (unhide HLT q hq).1; omega))
                    have HO7 := hide (show w7.ownsRow w2.heap.size 3 1 v' (j + 1) ((tg ++ [N]).map (Value.int .i64)) by simpa using hown')
                    have hsz7 := hgrow.size
                    simp at hsz7
                    clear hown' hgrow HP4 HL4 HB4 HO4 HIN HLT
                    obtain ⟨p0, p1, p2, p3⟩ := (unhide HP7).c4.1
                    have pl := (unhide HP7).2
                    have S1 := hide (fun W => btake_any s r h T T 1 W)
                    by_cases he : BucketM.takeErr s r h T T 1 = 0
                    · obtain ⟨ea, e0, e1⟩ := BucketM.take_zero.1 he
                      have hf0 : BucketM.fault s r h T = 0 := (BucketM.at_zero.1 ea).1
                      have hst := BucketM.still (BucketM.fault_zero.1 hf0)
                      have hri := BucketM.take_right he
                      rw [hst] at e1 hri
                      rw [he, BucketM.told_zero rfl, BucketM.told_zero rfl, BucketM.told_zero rfl, BucketM.told_zero rfl, errV_zero rfl, hst] at S1
                      have HF1 := hide (show BucketM.fault s r (h - 1) T = F by rw [BucketM.fault_zero.2 hri, ← unhide HF, hf0])
                      have HN1 := hide (fun (_ : F = 0) => hri.h0)
                      have hh1 : h ≤ 100 := by have := (BucketM.fault_zero.1 hf0).h1; have := (BucketM.fault_zero.1 hf0).s1; omega
                      clear he ea hst hri hf0 e0
                      go_wp2_with fail
                      refine (unhide S1 _).mono ?_
                      rintro e w8 ⟨rfl, hb8⟩
                      have HP8 := hide ((unhide HP7).later hb8)
                      have HL8 := hide ((unhide HL7).later hb8)
                      have HO8 := hide (own_later (unhide HO7) hb8)
                      have HB8 := hide (bel3 (unhide HB7) (Below.refl _ _) hb8)
                      have hs8 := hb8.size
                      have hs9 := (unhide HB8).size
                      clear HP7 HL7 HO7 HB7 S1 p0 p1 p2 p3 pl hb8
                      go_upto_region 25 with fail
                      have HX9 := hide (Held.fresh (w := w8) [Value.int .i64 s, Value.int .i64 r, Value.int .i64 (h - 1), Value.int .i64 T] 24 rfl)
                      have HP9 := hide ((unhide HP8).later ((Below.refl _ _).alloc (Nat.le_refl _) (Obj.cells [Value.int .i64 s, Value.int .i64 r, Value.int .i64 (h - 1), Value.int .i64 T].toArray 24)))
                      have HL9 := hide ((unhide HL8).later ((Below.refl _ _).alloc (Nat.le_refl _) (Obj.cells [Value.int .i64 s, Value.int .i64 r, Value.int .i64 (h - 1), Value.int .i64 T].toArray 24)))
                      have HO9 := hide ((unhide HO8).alloc (Obj.cells [Value.int .i64 s, Value.int .i64 r, Value.int .i64 (h - 1), Value.int .i64 T].toArray 24))
                      have HB9 := hide ((unhide HB8).alloc hs9 (Obj.cells [Value.int .i64 s, Value.int .i64 r, Value.int .i64 (h - 1), Value.int .i64 T].toArray 24))
                      generalize w8.alloc (Obj.cells [Value.int .i64 s, Value.int .i64 r, Value.int .i64 (h - 1), Value.int .i64 T].toArray 24) = W2 at HX9 HP9 HL9 HO9 HB9 ⊢
                      clear HP8 HL8 HO8 HB8
                      obtain ⟨xb, hxe⟩ : ∃ xb, xb = w8.heap.size := ⟨_, rfl⟩
                      have hnx : ¬ xb = w.heap.size := by omega
                      have hxl := (unhide HX9).2
                      rw [← hxe] at HX9 hxl ⊢
                      have hs10 : w2.heap.size ≤ W2.heap.size := by omega
                      clear hxe
                      obtain ⟨x0, x1, x2, x3⟩ := (unhide HX9).c4.1
                      obtain ⟨⟨p0, p1, p2, p3⟩, pf0, pf1, pf2, pf3⟩ := (unhide HP9).c4
                      have pl := (unhide HP9).2
                      go_wp2
                      go_roundw
                      case rel => exact ⟨k + 1, j + 1, tg ++ [N], a, n + 1, h - 1, t + 1, by omega, by omega, by go_num, by go_num, by omega, by omega, hide (by have := unhide hH; omega), by omega, by omega, by omega, by omega, by omega, HF1, HN1, HT1, hide (ownsRow_setCell_below (ownsRow_setCell_below (ownsRow_setCell_below (ownsRow_setCell_below (unhide HO9) (by show w.heap.size < w2.heap.size; omega) _) (by show w.heap.size < w2.heap.size; omega) _) (by show w.heap.size < w2.heap.size; omega) _) (by show w.heap.size < w2.heap.size; omega) _), hide (((((unhide HP9).put 0 _).put 1 _).put 2 _).put 3 _), hide (((((unhide HL9).far (by omega) _ _).far (by omega) _ _).far (by omega) _ _).far (by omega) _ _), hide (((((unhide HB9).setCell (Nat.le_refl _) _).setCell (Nat.le_refl _) _).setCell (Nat.le_refl _) _).setCell (Nat.le_refl _) _), by simp; omega⟩
                      case measure => simp [intOf]; omega
                    · rw [BucketM.told_pos he, BucketM.told_pos he, BucketM.told_pos he, BucketM.told_pos he, errV_pos he] at S1
                      generalize BucketM.takeErr s r h T T 1 = E at S1
                      clear he
                      go_wp2_with fail
                      refine (unhide S1 _).mono ?_
                      rintro e w8 ⟨rfl, hb8⟩
                      have HP8 := hide ((unhide HP7).later hb8)
                      have HL8 := hide ((unhide HL7).later hb8)
                      have HO8 := hide (own_later (unhide HO7) hb8)
                      have HB8 := hide (bel3 (unhide HB7) (Below.refl _ _) hb8)
                      have hs8 := hb8.size
                      have hs9 := (unhide HB8).size
                      clear HP7 HL7 HO7 HB7 S1 p0 p1 p2 p3 pl hb8
                      go_upto_region 25 with fail
                      have HX9 := hide (Held.fresh (w := w8) [Value.int .i64 0, Value.int .i64 0, Value.int .i64 0, Value.int .i64 0] 24 rfl)
                      have HP9 := hide ((unhide HP8).later ((Below.refl _ _).alloc (Nat.le_refl _) (Obj.cells [Value.int .i64 0, Value.int .i64 0, Value.int .i64 0, Value.int .i64 0].toArray 24)))
                      have HL9 := hide ((unhide HL8).later ((Below.refl _ _).alloc (Nat.le_refl _) (Obj.cells [Value.int .i64 0, Value.int .i64 0, Value.int .i64 0, Value.int .i64 0].toArray 24)))
                      have HO9 := hide ((unhide HO8).alloc (Obj.cells [Value.int .i64 0, Value.int .i64 0, Value.int .i64 0, Value.int .i64 0].toArray 24))
                      have HB9 := hide ((unhide HB8).alloc hs9 (Obj.cells [Value.int .i64 0, Value.int .i64 0, Value.int .i64 0, Value.int .i64 0].toArray 24))
                      generalize w8.alloc (Obj.cells [Value.int .i64 0, Value.int .i64 0, Value.int .i64 0, Value.int .i64 0].toArray 24) = W2 at HX9 HP9 HL9 HO9 HB9 ⊢
                      clear HP8 HL8 HO8 HB8
                      obtain ⟨xb, hxe⟩ : ∃ xb, xb = w8.heap.size := ⟨_, rfl⟩
                      have hnx : ¬ xb = w.heap.size := by omega
                      have hxl := (unhide HX9).2
                      rw [← hxe] at HX9 hxl ⊢
                      have hs10 : w2.heap.size ≤ W2.heap.size := by omega
                      clear hxe
                      go_wp2
                      go_roundw
                      case rel => exact ⟨k + 1, j + 1, tg ++ [N], a, n + 1, h, t, by omega, by omega, by go_num, rfl, by omega, by omega, hH, by omega, by omega, by omega, by omega, by omega, HF, HN, HT1, HO9, HP9, HL9, HB9, hs10⟩
                      case measure => simp [intOf]; omega
      · obtain rfl : h = H0 - t := by have := unhide hH; omega
        obtain ⟨p0, p1, p2, p3⟩ := (unhide HP).c4.1
        have pl := (unhide HP).2
        have CK := hide (fun W => bcheck_any s r (H0 - t) T W)
        by_cases hf : BucketM.fault s r (H0 - t) T = 0
        · rw [hf, errV_zero rfl] at CK
          have hh0 := (BucketM.fault_zero.1 hf).h0
          have hh1 : H0 - t ≤ 100 := by have := (BucketM.fault_zero.1 hf).h1; have := (BucketM.fault_zero.1 hf).s1; omega
          have hle : t ≤ H0 := by omega
          go_wp2_with fail
          refine (unhide CK _).mono ?_
          rintro e w8 ⟨rfl, hb8⟩
          have HP8 := hide ((unhide HP).later hb8)
          have HB8 := hide (bel3 (unhide HB) (Below.refl _ _) hb8)
          clear hb8 p0 p1 p2 p3 pl
          obtain ⟨p0, p1, p2, p3⟩ := (unhide HP8).c4.1
          have pl := (unhide HP8).2
          go_wp2
          go_ret
          exact ⟨rfl, unhide HB8⟩
        · rw [BucketM.fault_one hf, errV_pos (by omega)] at CK
          go_wp2_with fail
          refine (unhide CK _).mono ?_
          rintro e w8 ⟨rfl, hb8⟩
          have HB8 := hide (bel3 (unhide HB) (Below.refl _ _) hb8)
          clear hb8
          go_wp2
          go_ret
          exact ⟨rfl, unhide HB8⟩
    · obtain rfl : h = H0 - t := by have := unhide hH; omega
      obtain ⟨p0, p1, p2, p3⟩ := (unhide HP).c4.1
      have pl := (unhide HP).2
      have CK := hide (fun W => bcheck_any s r (H0 - t) T W)
      by_cases hf : BucketM.fault s r (H0 - t) T = 0
      · rw [hf, errV_zero rfl] at CK
        have hh0 := (BucketM.fault_zero.1 hf).h0
        have hh1 : H0 - t ≤ 100 := by have := (BucketM.fault_zero.1 hf).h1; have := (BucketM.fault_zero.1 hf).s1; omega
        have hle : t ≤ H0 := by omega
        go_wp2_with fail
        refine (unhide CK _).mono ?_
        rintro e w8 ⟨rfl, hb8⟩
        have HP8 := hide ((unhide HP).later hb8)
        have HB8 := hide (bel3 (unhide HB) (Below.refl _ _) hb8)
        clear hb8 p0 p1 p2 p3 pl
        obtain ⟨p0, p1, p2, p3⟩ := (unhide HP8).c4.1
        have pl := (unhide HP8).2
        go_wp2
        go_ret
        exact ⟨rfl, unhide HB8⟩
      · rw [BucketM.fault_one hf, errV_pos (by omega)] at CK
        go_wp2_with fail
        refine (unhide CK _).mono ?_
        rintro e w8 ⟨rfl, hb8⟩
        have HB8 := hide (bel3 (unhide HB) (Below.refl _ _) hb8)
        clear hb8
        go_wp2
        go_ret
        exact ⟨rfl, unhide HB8⟩

theorem walk (key : Int) (a : Option Addr) (len cap : Nat) (z : List Int) (s r H0 T : Int) (w : World) (_w0 : (Lit.int .i64 key).wf = true) (w1 : IsRow .i64 w a len cap z) (_w2_0 : (Lit.int .i64 s).wf = true) (_w2_1 : (Lit.int .i64 r).wf = true) (_w2_2 : (Lit.int .i64 H0).wf = true) (_w2_3 : (Lit.int .i64 T).wf = true) :
    Calls Try.prog 3 #[.int .i64 key, .slice a len cap, .agg #[.int .i64 s, .int .i64 r, .int .i64 H0, .int .i64 T]] w fun e w' => e = .returned (.bool true) ∧ Below w.heap.size w w' := by
  obtain ⟨zs, hlen, hI, _, _⟩ := row_ints rfl w1
  cases hk : TagM.inB key with
  | false => exact walk_bad key a len cap zs s r H0 T w hlen hI hk
  | true => exact walk_key key a len cap zs s r H0 T w hlen hI hk


set_option maxRecDepth 100000 in
theorem lifted (os : Os) (started : os.Started) (H : Type) (enc : TypeId × Value → H) :
    ReturnsInHanded {} Try.checked os 3 .any (Rows.topLivesSpec.pre6 enc Try.prog Try.f3 Rows.topLivesRow.domain false) (Rows.topLivesSpec.post enc Try.prog Try.f3 false true false false) := by
  refine returnsInHanded_of_change (C := Try.checked) own started (by kernel_rfl) Try.func3
    (ChangeSpec.witness6 (enc := enc) (C := Try.checked) false ⟨#[], #[.int .i64 0, .slice none 0 0, .agg #[.int .i64 0, .int .i64 0, .int .i64 0, .int .i64 0]], []⟩ 8 (by kernel_rfl) (by kernel_rfl) (by kernel_rfl) (by kernel_rfl)) ?_
  intro W base args ds gs before hval0 hW hcnd _
  have hval : ∀ (j : Nat) t v, Try.f3.params[j]? = some t → args[j]? = some v → Value.okWide Try.prog W .any base t v := hval0
  have hW' := hW
  obtain ⟨p, q, hA0, hV, rfl, hfz, hnd⟩ := hW
  have hA : DataW.TrodAll enc Try.prog W 0 (fun _ => true) true Try.f3.params.toList args.toList ds p := hA0
  rw [Try.params3] at hA hval
  obtain ⟨v0, vs0, d0, ds0, p0, q0, hargs, rfl, rfl, h0, r0⟩ := trodAll_cons hA
  obtain ⟨v1, vs1, d1, ds1, p1, q1, rfl, rfl, rfl, h1, r1⟩ := trodAll_cons r0
  obtain ⟨v2, vs2, d2, ds2, p2, q2, rfl, rfl, rfl, h2, r2⟩ := trodAll_cons r1
  obtain ⟨rfl, rfl, rfl⟩ := trodAll_nil r2
  obtain rfl : args = #[v0, v1, v2] := by cases args; simp_all
  obtain ⟨rfl, rfl⟩ := trodVars_none hV
  have k0 := h0
  have lt0 : ∀ x ∈ p0, x.block < W.heap.size := by obtain ⟨m, hm⟩ := k0; exact DataW.trod_lt m _ _ _ hm
  obtain ⟨a0, rfl, rfl, rfl, w0⟩ := open_int Try.underlying3 (hval 0 3 v0 rfl rfl) h0
  have k1 := h1
  have lt1 : ∀ x ∈ p1, x.block < W.heap.size := by obtain ⟨m, hm⟩ := k1; exact DataW.trod_lt m _ _ _ hm
  obtain ⟨a1, len1, cap1, rfl⟩ := okWide_slice Try.underlying22 (hval 1 22 v1 rfl rfl)
  obtain ⟨z1, w1⟩ : ∃ zs, IsRow .i64 W a1 len1 cap1 zs := by
    obtain ⟨fuel, hf⟩ := h1
    rcases open_ints Try.underlying22 Try.underlying3 (by kernel_rfl) hf with ⟨hcs, _⟩ | ⟨x, l, c, zs, hcs, _, hl, hm, hz, _, hcell, hwz⟩
    · simp [Value.cells] at hcs
      obtain ⟨rfl, rfl, rfl⟩ := hcs
      exact ⟨[], .inl ⟨rfl, rfl, rfl, rfl⟩⟩
    · simp [Value.cells] at hcs
      obtain ⟨rfl, rfl, rfl⟩ := hcs
      exact ⟨zs, .inr ⟨_, rfl, hl, hm, by simpa using hz, hcell, hwz⟩⟩
  have k2 := h2
  have lt2 : ∀ x ∈ p2, x.block < W.heap.size := by obtain ⟨m, hm⟩ := k2; exact DataW.trod_lt m _ _ _ hm
  obtain ⟨c2_0, c2_1, c2_2, c2_3, y2_0, y2_1, y2_2, y2_3, m2, rfl, rfl, rfl, g2_0, g2_1, g2_2, g2_3⟩ := open_agg4 Try.underlying24 (by kernel_rfl) (by kernel_rfl) (hval 2 24 v2 rfl rfl) h2
  obtain ⟨a2_0, e2_0, rfl, w2_0⟩ := DataW.trod_int Try.underlying3 g2_0
  simp at e2_0; subst e2_0
  obtain ⟨a2_1, e2_1, rfl, w2_1⟩ := DataW.trod_int Try.underlying3 g2_1
  simp at e2_1; subst e2_1
  obtain ⟨a2_2, e2_2, rfl, w2_2⟩ := DataW.trod_int Try.underlying3 g2_2
  simp at e2_2; subst e2_2
  obtain ⟨a2_3, e2_3, rfl, w2_3⟩ := DataW.trod_int Try.underlying3 g2_3
  simp at e2_3; subst e2_3
  clear hA0 hval0
  refine (walk a0 a1 len1 cap1 z1 a2_0 a2_1 a2_2 a2_3 W w0 w1 w2_0 w2_1 w2_2 w2_3).mono fun e W' ⟨he, bel⟩ => ?_
  subst he
  exact ⟨_, rfl, _, _, _, [], _, [], hW', trodAll_mk1 (shut_bool Try.underlying4 _), (trodAll_cons_mk (Below.trod laidOut (by kernel_rfl) (of_decide_eq_true (by kernel_rfl)) k0 bel lt0) (trodAll_cons_mk (Below.trod laidOut (by kernel_rfl) (of_decide_eq_true (by kernel_rfl)) k1 bel lt1) (trodAll_cons_mk (Below.trod laidOut (by kernel_rfl) (of_decide_eq_true (by kernel_rfl)) k2 bel lt2) trodAll_mk0))), rfl, bel.frame _, fun h => by cases h⟩

theorem over : Rows.topLivesRow.holds Try.pinned (OpenSpec.ofChange Rows.topLivesSpec) :=
  OpenClaim.holds_of_wide 3 Try.f3 rfl rfl rfl rfl rfl rfl rfl ⟨rfl, rfl, rfl, rfl, rfl⟩ rfl rfl rfl rfl rfl (by kernel_rfl) Try.func3 (by kernel_rfl)
    (of_decide_eq_true (by kernel_rfl)) (by unfold Func.isWrapper; first | (rw [if_pos (by decide +kernel)]; kernel_rfl) | (rw [if_neg (by decide +kernel)]; exact ⟨rfl, rfl⟩))
    (fun os started H enc _ => lifted os started H enc)

end Go.Proofs.Ytbfofcblhjlgmaf.topLives
namespace Go.Proofs.Ytbfofcblhjlgmaf
theorem topLives_holds : Rows.TopLivesSaid := topLives.over
#print axioms topLives_holds
end Go.Proofs.Ytbfofcblhjlgmaf

