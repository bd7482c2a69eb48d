/-
  TopReplay holds for every list of deeds and every order: numbers that are told one by one, across crashes, and come in any order, are taken by a window once each, and never twice; spent in a vault, and in a log, they are spent once. The listed variable errors.errorType starts as the program's text lays it (the card's tie). No other condition.
-/
import Derived.Test.YtfhpfdlbgmgclakDoorLogSpend
import Derived.Test.YtfhpfdlbgmgclakDoorVaultTyped
import Derived.Test.YtfhpfdlbgmgclakDoorReplayMath
import Derived.Test.YtfhpfdlbgmgclakDoorIssueWalks
import Derived.Test.YtfhpfdlbgmgclakDoorWindowWalks
import Derived.Test.YtfhpfdlbgmgclakDoorOneWalks
import Derived.Test.YtfhpfdlbgmgclakDoorTie
import Derived.Test.YtfhpfdlbgmgclakDoorCards
import Derived.ProofKit
import Derived.Lib.SmallJoins
import Derived.LaidMore
import Derived.LaidHandle
import Derived.LaidLaws
import Derived.Stop.Joined
import Derived.SevenTiedAt
import Derived.Deep.Cut
import Derived.Deep.CutRange
namespace Go.Proofs.YtfhpfdlbgmgclakDoor.topReplay
open Go.ChangeShapes Go.WideShapes Go.ChangeAt Go.RowKit Go.Joins
set_option linter.unusedVariables false

theorem own : ownKnob Tryd.prog.godebug = none := by kernel_rfl
theorem laidOut : laidOutB Tryd.prog = true := by kernel_rfl
def IsRow (k : IntKind) (w : World) (a : Option Addr) (len cap : Nat) (zs : List Int) : Prop :=
  (a = none ∧ len = 0 ∧ cap = 0 ∧ zs = []) ∨
  ∃ x, a = some x ∧ len ≤ cap ∧ cap ≤ maxLen ∧ zs.length = cap ∧ (∀ i, i < zs.length → w.cell? (x.add i) = some (.int k (zs.getD i 0))) ∧ ∀ n ∈ zs, (Lit.int k n).wf = true
def IsStrs (w : World) (a : Option Addr) (len cap : Nat) (zs : List ByteArray) : Prop :=
  (a = none ∧ len = 0 ∧ cap = 0 ∧ zs = []) ∨
  ∃ x, a = some x ∧ len ≤ cap ∧ cap ≤ maxLen ∧ zs.length = cap ∧ (∀ i, i < zs.length → w.cell? (x.add i) = some (.string (zs.getD i ByteArray.empty))) ∧ ∀ s ∈ zs, s.size ≤ maxLen
def IsPairs (w : World) (a : Option Addr) (len cap : Nat) (zs : List (Int × Int)) : Prop :=
  (a = none ∧ len = 0 ∧ cap = 0 ∧ zs = []) ∨
  ∃ x, a = some x ∧ len ≤ cap ∧ cap ≤ maxLen ∧ zs.length = cap ∧ ∀ i, i < cap → w.cell? (x.add (i * 2)) = some (.int .i64 (zs.getD i (0, 0)).1) ∧ w.cell? (x.add (i * 2 + 1)) = some (.int .i64 (zs.getD i (0, 0)).2)
def IsRows (w : World) (a : Option Addr) (len cap : Nat) (A : Nat → Option Addr) (L C : Nat → Nat) (Z : Nat → List Int) : Prop :=
  (a = none ∧ len = 0 ∧ cap = 0) ∨
  ∃ x, a = some x ∧ len ≤ cap ∧ cap ≤ maxLen ∧ ∀ r, r < cap → w.cell? (x.add r) = some (.slice (A r) (L r) (C r)) ∧ L r ≤ C r ∧ C r ≤ maxLen ∧ (Z r).length = C r ∧ (∀ n ∈ Z r, (Lit.int .i64 n).wf = true) ∧ (A r = none → C r = 0) ∧
    ∀ a', A r = some a' → ∀ c, c < C r → w.cell? (a'.add c) = some (.int .i64 ((Z r).getD c 0))

attribute [local go_sem ↓] Go.wp_at_zero Go.wp_at_succ

theorem infoInt : (Tryd.prog.info? 3).map (fun i => (i.zero, i.size, i.bytes)) = some (some (.int .i64 0), 1, 8) := by kernel_rfl
/-- An own row stays, where all that was written is elder. -/
theorem keptRow {F : List Nat} {base n size : Nat} {e : TypeId} {v : Value} {xs : List Value} {w w' : World} (h : Kept F w w') (ho : w.ownsRow base e size v n xs) (hF : ∀ k, k ∈ F → k < base) : w'.ownsRow base e size v n xs := by
  refine ⟨ho.1, ?_⟩
  rcases ho.2 with q | ⟨g, cap, cur, h0, h1, h2, h3⟩
  · exact .inl q
  · exact .inr ⟨g, cap, cur, h0, h1, by rw [h.block g (Array.getElem?_eq_some_iff.1 h2).1 (fun q => by have := hF g q; omega)]; exact h2, h3⟩
/-- A row of ints as a list. -/
theorem row_in {w : World} {base n : Nat} {e : TypeId} {v : Value} {zs : List Int} (h : w.ownsRow base e 1 v n (zs.map (Value.int .i64))) :
    ∃ a cap, v = .slice a n cap ∧ zs.length = n ∧ ∀ k, k < n → ∃ b, a = some ⟨b, 0, none⟩ ∧ w.cell? ⟨b, k, none⟩ = some (.int .i64 (zs.getD k 0)) := by
  have hl : zs.length = n := by have := h.1; simpa using this
  rcases h.2 with ⟨rfl, h0⟩ | ⟨g, cap, cur, rfl, _⟩
  · exact ⟨none, 0, by rw [h0], hl, fun k hk => by omega⟩
  · refine ⟨_, cap, rfl, hl, fun k hk => ⟨g, rfl, ?_⟩⟩
    rw [h.cellAt k (by omega)]
    have hk' : k < zs.length := by omega
    simp [List.getD, hk']
/-- A window variable. -/
def WAt (W : World) (b : Nat) (t B : Int) : Prop := W.heap[b]? = some (.cells #[.int .i64 t, .int .i64 B] 55 (0, 0))
theorem WAt.still {S : List TypeId} {W W' : World} {b : Nat} {t B : Int} (h : WAt W b t B) (hs : Still S W W') (hT : 55 ∉ S) : WAt W' b t B := hs.block _ _ _ _ h hT
theorem WAt.later {W W' : World} {b : Nat} {t B : Int} (h : WAt W b t B) (hb : Below W.heap.size W W') : WAt W' b t B := h.still (S := []) (Still.of hb) (by simp)
theorem WAt.at {W : World} {b : Nat} {t B : Int} (h : WAt W b t B) : (W.cell? ⟨b, 0, none⟩ = some (.int .i64 t) ∧ W.cell? ⟨b, 1, none⟩ = some (.int .i64 B)) ∧ W.frozen? ⟨b, 0, none⟩ = false ∧ W.frozen? ⟨b, 1, none⟩ = false ∧ b < W.heap.size :=
  ⟨⟨by rw [Go.Lib.cell_of_heap h]; rfl, by rw [Go.Lib.cell_of_heap h]; rfl⟩, Go.Lib.frozen_of_heap h 0, Go.Lib.frozen_of_heap h 1, (Array.getElem?_eq_some_iff.1 h).1⟩
/-- All that the second loop holds. -/
structure Rep (B2 : Nat) (W : World) (bw v J : Nat) (t B : Int) (D K : List (Int × Int)) (x : LogM.St) : Prop where
  win : WAt W bw t B
  vault : VKAt W v D K
  log : LogAt B2 W J x
theorem Rep.still {S : List TypeId} {B2 bw v J : Nat} {t B : Int} {D K : List (Int × Int)} {x : LogM.St} {W W' : World} (h : Rep B2 W bw v J t B D K x) (hs : Still S W W') (h1 : 55 ∉ S) (h2 : 92 ∉ S) (h3 : 34 ∉ S) (h4 : 66 ∉ S) (h5 : 5 ∉ S) : Rep B2 W' bw v J t B D K x :=
  ⟨h.win.still hs h1, h.vault.still hs h2 h3, h.log.still hs h4 h5 h3⟩
theorem Rep.later {B2 bw v J : Nat} {t B : Int} {D K : List (Int × Int)} {x : LogM.St} {W W' : World} (h : Rep B2 W bw v J t B D K x) (hb : Below W.heap.size W W') : Rep B2 W' bw v J t B D K x :=
  h.still (S := []) (Still.of hb) (by simp) (by simp) (by simp) (by simp) (by simp)
theorem Rep.ofVault {B2 bw v J : Nat} {t B : Int} {D K D' K' : List (Int × Int)} {x : LogM.St} {W W' : World} (h : Rep B2 W bw v J t B D K x) (hv : VKAt W' v D' K') (hs : Still [92] W W') : Rep B2 W' bw v J t B D' K' x :=
  ⟨h.win.still hs (by decide), hv, h.log.still hs (by decide) (by decide) (by decide)⟩
theorem Rep.ofLog {B2 bw v J : Nat} {t B : Int} {D K : List (Int × Int)} {x x' : LogM.St} {W W' : World} (h : Rep B2 W bw v J t B D K x) (hl : LogAt B2 W' J x') (hs : Still logS W W') : Rep B2 W' bw v J t B D K x' :=
  ⟨h.win.still hs (by decide), h.vault.still hs (by decide) (by decide), hl⟩
/-- The row of ints that grows, over steps of the rest. -/
theorem int_still {S : List TypeId} {W W' : World} {base n : Nat} {vh : Value} {xs : List Value} (h : W.ownsRow base 3 1 vh n xs) (hs : Still S W W') (hT : 3 ∉ S) : W'.ownsRow base 3 1 vh n xs := hs.own h hT

set_option maxHeartbeats 25600000 in
set_option maxRecDepth 16000 in
theorem walk1 (a0 : Option Addr) (len0 cap0 : Nat) (l0 : List Int) (a1 : Option Addr) (len1 cap1 : Nat) (l1 : List Int) (w : World) (h0 : l0.length = len0) (hi0 : Ints w a0 l0) (h1 : l1.length = len1) (hi1 : Ints w a1 l1) (hw1 : ∀ n ∈ l1, (Lit.int .i64 n).wf = true) (hg : ErrType w) :
    Calls Tryd.prog 4 #[.slice a0 len0 cap0, .slice a1 len1 cap1] w fun e w' => e = .returned (.bool true) ∧ Below w.heap.size w w' := by
  have HG0 := hide hg
  have HH0 := hide h0
  have HI0 := hide hi0
  have HH1 := hide h1
  have HI1 := hide hi1
  clear hg h0 hi0 h1 hi1 hw1
  obtain ⟨k0, ki, kz0, kz1, kz2⟩ := info_parts infoInt
  have C0 := hide (fun w => rnew_yes 3 w (by omega) (by omega))
  have hk := TagM.tag_bd 3 [0]
  generalize TagM.tag 3 [0] = key at C0 hk
  have he : RingM.err 0 key 0 = 0 := RingM.err_zero.2 ⟨by omega, hk, by omega, fun _ => rfl⟩
  have HE := hide he
  clear hk he
  go_enter Tryd.func4, Tryd.ntmps4
  go_wp2_with fail
  refine (one_true _).mono ?_
  rintro e w1 ⟨rfl, hb1⟩
  have HB1 := hide hb1
  clear hb1
  go_wp2_with fail
  refine (unhide C0 _).mono ?_
  rintro e w2 ⟨rfl, hb2⟩
  have HB2 := hide (bel3 (unhide HB1) (Below.refl _ _) hb2)
  clear hb2 C0 HB1
  go_wp2_with fail
  refine (inew_any _).mono ?_
  rintro e w3 ⟨s, b, rfl, hi3, hs3, ht3, hb3⟩
  simp at hs3 ht3
  have z2 := (unhide HB2).size
  have HR3 : Hid (Held w3 w2.heap.size (n3 0 key 0)) := hide ((Held.fresh (w := w2) (n3 0 key 0) 45 rfl).later hb3)
  have HI3 := hide hi3
  have HB3 := hide (show Below w.heap.size w w3 from Below.trans (Below.alloc (unhide HB2) z2 _) (hb3.mono (by simp; omega)))
  have z3 := hi3.lt
  have zr := (unhide HR3).2
  obtain ⟨B1, hB1⟩ : ∃ B1, B1 = w3.heap.size := ⟨_, rfl⟩
  have hsB : s < B1 := by omega
  have hbB : b < B1 := by omega
  have hrB : w2.heap.size < B1 := by omega
  have hws : w.heap.size ≤ s := by omega
  have hwb : w.heap.size ≤ b := by omega
  have hrs : w2.heap.size < s := by omega
  have hrb : w2.heap.size < b := by omega
  have HBB := hide (show B1 ≤ w3.heap.size by omega)
  have hwB : w.heap.size ≤ B1 := by omega
  clear hi3 hb3 hB1 hs3 ht3 z3 zr HB2
  generalize w2.heap.size = rb at *
  go_wp2
  go_loopw [9, 10] (fun vl vi wr => ∃ (k : Nat) (L : List Int) (n m c : Int), k ≤ 16 ∧ vi = .int .i64 k ∧ L.length ≤ k ∧ 0 ≤ n ∧ n ≤ m ∧ m ≤ 8 * (k : Int) ∧ m % 8 = 0 ∧ 0 ≤ c ∧ c ≤ (k : Int) ∧ Hid (∀ z ∈ L, 0 ≤ z ∧ z < n) ∧ Hid (wr.ownsRow B1 3 1 vl L.length (L.map (Value.int .i64))) ∧ Hid (IAt wr s b n m c) ∧ Hid (Held wr rb (n3 0 key 0)) ∧ Hid (B1 ≤ wr.heap.size) ∧ Hid (Below w.heap.size w wr)) (fun _ i _ => 16 - (intOf i).toNat)
  case atStart => exact ⟨0, [], 0, 0, 0, by omega, rfl, by simp, by omega, by omega, by omega, by omega, by omega, by omega, hide (by simp), hide (World.ownsRow_nil _ _ _ _), HI3, HR3, HBB, HB3⟩
  case round =>
    clear HI3 HR3 HBB HB3
    obtain ⟨k, L, n, m, c, hk, rfl, hLk, hr0, hr1, hr2, hr3, hr4, hr5, HN, HO, HI, HR, HBB, HB⟩ := hrel
    have kk0 : (0 : Int) ≤ (k : Int) := by omega
    have kk1 : (k : Int) ≤ 16 := by omega
    go_upto_region 10 with fail
    go_cut [43] from 36 to 65 (fun b wx => b = .bool (decide (k < len0 ∧ k < 16)) ∧ wx = wr)
    case first =>
      by_cases g1 : k < len0
      · have g1i : (k : Int) < (len0 : Int) := by omega
        by_cases g2 : k < 16
        · have g2i : (k : Int) < 16 := by omega
          go_wp2_with fail
          go_meet
          exact ⟨by rw [decide_eq_true ⟨g1, g2⟩], rfl⟩
        · have g2i : ¬ (k : Int) < 16 := by omega
          go_wp2_with fail
          go_meet
          exact ⟨by rw [decide_eq_false (fun q => g2 q.2)], rfl⟩
      · have g1i : ¬ (k : Int) < (len0 : Int) := by omega
        go_wp2_with fail
        go_meet
        exact ⟨by rw [decide_eq_false (fun q => g1 q.1)], rfl⟩
    case rest =>
      obtain ⟨hcb, hcw⟩ := hcut
      obtain rfl := hcw.symm
      clear hcw
      by_cases hcc : k < len0 ∧ k < 16
      · rw [decide_eq_true hcc] at hcb
        subst hcb
        have hkd : (k : Int) < (len0 : Int) := by omega
        have hk1 : (k : Int) < 16 := by omega
        obtain ⟨db, doff, rfl, hd'⟩ := (unhide HI0).2 k (by rw [unhide HH0]; omega)
        have hdc := cell_later (unhide HB) hd'
        generalize l0.getD k 0 = d at hdc
        clear hd'
        by_cases hd : d = 0
        · subst hd
          go_wp2_with fail
          refine (icrash_any s b n m c _ (unhide HI)).mono ?_
          rintro e w4 ⟨rfl, hi4, k4⟩
          have HI4 := hide hi4
          have HR4 := hide (k4.held (unhide HR) (by simp; omega))
          have HO4 := hide (keptRow k4 (unhide HO) (fun q hq => by simp at hq; omega))
          have HBB4 := hide (Nat.le_trans (unhide HBB) k4.size)
          have HB4 := hide (iown k4 (unhide HB) hws hwb)
          have HN4 := hide (show ∀ z ∈ L, 0 ≤ z ∧ z < m from fun z hz => by have := unhide HN z hz; omega)
          clear hi4 k4 hdc
          go_wp2
          go_roundw
          case rel => exact ⟨k + 1, L, m, m, c, by omega, by go_num, by omega, by omega, by omega, by omega, by omega, by omega, by omega, HN4, HO4, HI4, HR4, HBB4, HB4⟩
          case measure => simp [intOf]; omega
        · have hdb : (d == 0) = false := by simp [hd]
          have hub := IssueM.up_bd hr1 (show m ≤ 1000 by omega) hr3 (show ¬ n = 1000 by omega)
          have hup : IssueM.up n m ≤ 8 * ((k + 1 : Nat) : Int) := by unfold IssueM.up; split <;> omega
          have CI := hide (iissue_yes (u := 50) s b wr (unhide HI) (unhide HE) (by decide) hr0 hr1 (by omega) hr3 (by omega) hr4 (by omega))
          generalize TagM.tag key [2, n, 50] = tg at CI
          obtain ⟨r0, r1, r2⟩ := (unhide HR).c3.1
          have rl := (unhide HR).2
          go_wp2_with fail
          refine (unhide CI).mono ?_
          rintro e w4 ⟨rfl, hi4, k4⟩
          have HI4 := hide hi4
          have HR4 := hide (k4.held (unhide HR) (by simp; omega))
          have HO4 := hide (keptRow k4 (unhide HO) (fun q hq => by simp at hq; omega))
          have HBB4 := hide (Nat.le_trans (unhide HBB) k4.size)
          have HB4 := hide (iown k4 (unhide HB) hws hwb)
          have hz4 := k4.size
          clear hi4 k4 r0 r1 r2 rl hdc
          have b4 := unhide HBB4
          go_wp2_with (at_builtin; refine wpList_append_own _ rfl _ _ 23 rfl B1 3 k0 (.int .i64 0) 1 8 Tryd.underlying23 ki kz0 kz1 kz2 rfl (by decide) _ _ _ rfl (((unhide HO4).alloc _).alloc _) ⟨w4.heap.size + 1, 0, none⟩ 1 1 [.int .i64 n] rfl rfl ?c1 ?c2 ?c3 ?c4 ?c5 ?_)
          case c1 =>
            intro j u hj
            match j, hj with
            | 0, hj => simp at hj; subst hj; simp [Addr.add]
            | j + 1, hj => simp at hj
          case c2 => intro u hu; simp at hu; subst hu; rfl
          case c3 => unfold maxLen; omega
          case c4 => omega
          case c5 => simp; omega
          · intro v5 w5 hown5 hgrow5 _
            have hb5 : Below B1 w4 w5 := Below.grown (((Below.refl B1 w4).alloc b4 _).alloc (by simp; omega) _) hgrow5 (by simp; omega) (fun q hq => ((unhide HO4).lt q hq).1)
            have HO5 := hide (show w5.ownsRow B1 3 1 v5 (L ++ [n]).length ((L ++ [n]).map (Value.int .i64)) from by rw [List.length_append, List.map_append]; exact hown5)
            have kb5 : Kept [] (w4) w5 → True := fun _ => trivial
            have HI5 := hide (show IAt w5 s b (n + 1) (IssueM.up n m) (c + 1) from by
              obtain ⟨i1, i2, i3⟩ := unhide HI4
              exact ⟨⟨fun i u hu => ⟨(hb5.cell (p := ⟨s, i, none⟩) hsB).trans (i1.1 i u hu).1, (hb5.frozen (p := ⟨s, i, none⟩) hsB).trans (i1.1 i u hu).2⟩, Nat.lt_of_lt_of_le i1.2 hb5.size⟩, ⟨fun i u hu => ⟨(hb5.cell (p := ⟨b, i, none⟩) hbB).trans (i2.1 i u hu).1, (hb5.frozen (p := ⟨b, i, none⟩) hbB).trans (i2.1 i u hu).2⟩, Nat.lt_of_lt_of_le i2.2 hb5.size⟩, i3⟩)
            have HR5 := hide (show Held w5 rb (n3 0 key 0) from by
              obtain i1 := unhide HR4
              exact ⟨fun i u hu => ⟨(hb5.cell (p := ⟨rb, i, none⟩) hrB).trans (i1.1 i u hu).1, (hb5.frozen (p := ⟨rb, i, none⟩) hrB).trans (i1.1 i u hu).2⟩, Nat.lt_of_lt_of_le i1.2 hb5.size⟩)
            have HBB5 := hide (Nat.le_trans b4 hb5.size)
            have HB5 := hide ((unhide HB4).trans (hb5.mono hwB))
            have HN5 := hide (show ∀ z ∈ L ++ [n], 0 ≤ z ∧ z < n + 1 from fun z hz => by
              rcases List.mem_append.1 hz with hz | hz
              · have := unhide HN z hz; omega
              · simp at hz; omega)
            clear hown5 hgrow5 hb5 kb5
            go_wp2
            go_roundw
            case rel => exact ⟨k + 1, L ++ [n], n + 1, IssueM.up n m, c + 1, by omega, by go_num, by simp; omega, by omega, hub.1, hup, hub.2.2, by omega, by omega, HN5, HO5, HI5, HR5, HBB5, HB5⟩
            case measure => simp [intOf]; omega
      · rw [decide_eq_false hcc] at hcb
        subst hcb
        obtain ⟨la, lc, rfl, -, hLi⟩ := row_in (unhide HO)
        have HL2 := hide (fun (W : World) (hW : Below wr.heap.size wr W) (q : Nat) (hq : q < L.length) => show ∃ g, la = some ⟨g, 0, none⟩ ∧ W.cell? ⟨g, q, none⟩ = some (.int .i64 (L.getD q 0)) from by
          obtain ⟨g, e1, e2⟩ := hLi q hq
          exact ⟨g, e1, cell_later hW e2⟩)
        have HNL := hide (show ∀ z ∈ L, 0 ≤ z ∧ z < 128 from fun z hz => by have := unhide HN z hz; omega)
        have hL16 : L.length ≤ 16 := by omega
        have HW := hide (unhide HB)
        clear hLi HO HI HR HN HBB hr0 hr1 hr2 hr3 hr4 hr5
        rename World => wo
        go_wp2_with fail
        refine (wnew_any _).mono ?_
        rintro e w6 ⟨rfl, hb6⟩
        have HB6 := hide hb6
        clear hb6
        have HW6 := hide (show WAt (w6.alloc (.cells #[.int .i64 (-1), .int .i64 0] 55)) w6.heap.size (-1) 0 from heap_alloc_new w6 _)
        have HB6a := hide ((unhide HB6).alloc (unhide HB6).size (.cells #[.int .i64 (-1), .int .i64 0] 55))
        have hbw := (unhide HB6).size
        go_wp2_with fail
        refine (vk_new _).mono ?_
        rintro e w7 ⟨rfl, h7, hb7⟩
        have HV7 := hide h7
        have HW7 := hide ((unhide HW6).later hb7)
        have HB7 := hide (show Below wo.heap.size wo w7 from (unhide HB6a).trans (hb7.mono (unhide HB6a).size))
        have hv0 : wo.heap.size ≤ (w6.alloc (.cells #[.int .i64 (-1), .int .i64 0] 55)).heap.size := (unhide HB6a).size
        clear h7 hb7 HB6 HB6a HW6
        generalize (w6.alloc (.cells #[.int .i64 (-1), .int .i64 0] 55)).heap.size = v at *
        generalize w6.heap.size = bw at *
        go_wp2_with fail
        refine (lnew_log _).mono ?_
        rintro e w8 ⟨rfl, h8, hb8⟩
        have HP8 := hide (show Rep wo.heap.size w8 bw v w7.heap.size (-1) 0 [] [] LogM.new from ⟨(unhide HW7).later hb8, (unhide HV7).later hb8, h8.down (unhide HB7).size⟩)
        have HB8 := hide ((unhide HB7).trans (hb8.mono (unhide HB7).size))
        clear h8 hb8 HV7 HW7 HB7
        generalize w7.heap.size = J at *
        go_wp2
        go_loopw [16, 17] (fun vh vi wr => ∃ (k : Nat) (had : List Int) (t B : Int) (D : List (Int × Int)) (x : LogM.St), k ≤ 60 ∧ vi = .int .i64 k ∧ had.length ≤ k ∧ Hid (wr.ownsRow wo.heap.size 3 1 vh had.length (had.map (Value.int .i64))) ∧ Hid (ReplayM.Win t B had) ∧ Hid (ReplayM.Sp L had D) ∧ Hid (ReplayM.Lg x D) ∧ Hid (Rep wo.heap.size wr bw v J t B D D x) ∧ Hid (Below wo.heap.size wo wr)) (fun _ i _ => 60 - (intOf i).toNat)
        case atStart => exact ⟨0, [], -1, 0, [], LogM.new, by omega, rfl, by simp, hide (World.ownsRow_nil _ _ _ _), hide ReplayM.win_new, hide (ReplayM.sp_new L), hide ReplayM.lg_new, HP8, HB8⟩
        case round =>
          clear HP8 HB8 kk0 kk1 hk hLk
          obtain ⟨k, had, t, B, D, x, hk, rfl, hhl, HO, HQ, HS, HL, HP, HB⟩ := hrel
          have kk0 : (0 : Int) ≤ (k : Int) := by omega
          have kk1 : (k : Int) ≤ 60 := by omega
          have HBw := hide (show Below w.heap.size w wr from (unhide HW).trans ((unhide HB).mono (unhide HW).size))
          obtain ⟨ha, hc, rfl, -, hHi⟩ := row_in (unhide HO)
          by_cases hkd : (k : Int) < (len1 : Int)
          · by_cases hk60 : (k : Int) < 60
            · obtain ⟨db, doff, rfl, hd'⟩ := (unhide HI1).2 k (by rw [unhide HH1]; omega)
              have hdc := cell_later (unhide HBw) hd'
              generalize l1.getD k 0 = o at hdc
              clear hd'
              by_cases ho0 : o < 0
              · go_wp2
                go_roundw
                case rel => exact ⟨k + 1, had, t, B, D, x, by omega, by go_num, by omega, HO, HQ, HS, HL, HP, HB⟩
                case measure => simp [intOf]; omega
              · by_cases ho1 : (L.length : Int) ≤ o
                · go_wp2
                  go_roundw
                  case rel => exact ⟨k + 1, had, t, B, D, x, by omega, by go_num, by omega, HO, HQ, HS, HL, HP, HB⟩
                  case measure => simp [intOf]; omega
                · obtain ⟨q, hq⟩ : ∃ q : Nat, (q : Int) = o := ⟨o.toNat, by omega⟩
                  subst hq
                  have hqL : q < L.length := by omega
                  obtain ⟨g, rfl, hcl⟩ := unhide HL2 wr (unhide HB) q hqL
                  have hmem : L.getD q 0 ∈ L := by rw [List.getD, List.getElem?_eq_getElem hqL]; exact List.getElem_mem _
                  have hnb := unhide HNL _ hmem
                  have HMEM := hide hmem
                  generalize L.getD q 0 = n at hcl hnb HMEM
                  clear hmem
                  have q0 : (0 : Int) ≤ (q : Int) := by omega
                  have q1 : (q : Int) < (L.length : Int) := by omega
                  have HHI := hide hHi
                  clear hHi
                  go_wp2
                  clear hcl hdc
                  go_loop [19, 20] (fun vw vj => ∃ j : Nat, j ≤ had.length ∧ vj = .int .i64 j ∧ vw = .bool (WinM.hadB (had.take j) n)) (fun _ i => had.length - (intOf i).toNat)
                  case atStart => exact ⟨0, by omega, rfl, by simp [WinM.hadB]⟩
                  case round =>
                    obtain ⟨j, hj, rfl, rfl⟩ := hrel
                    by_cases hjl : j < had.length
                    · have hjli : (j : Int) < (had.length : Int) := by omega
                      have j0 : (0 : Int) ≤ (j : Int) := by omega
                      have j1 : (j : Int) ≤ 60 := by omega
                      have hst := hide (WinM.hadB_at (n := n) hjl)
                      obtain ⟨hg, e1, e2⟩ := unhide HHI j hjl
                      rw [e1]
                      generalize had.getD j 0 = y at e2 hst
                      cases hwas : WinM.hadB (had.take j) n with
                      | true =>
                        rw [hwas] at hst
                        go_wp2
                        go_round
                        case rel => exact ⟨j + 1, by omega, by go_num, by rw [unhide hst]; rfl⟩
                        case measure => simp [intOf]; omega
                      | false =>
                        rw [hwas] at hst
                        have HST := hide (show WinM.hadB (had.take (j + 1)) n = (y == n) by rw [unhide hst]; rfl)
                        clear hst hwas
                        go_wp2
                        go_round
                        case rel => exact ⟨j + 1, by omega, by go_num, by rw [unhide HST]⟩
                        case measure => simp [intOf]; omega
                    · obtain rfl : j = had.length := by omega
                      have hjli : ¬ (had.length : Int) < (had.length : Int) := by omega
                      rw [List.take_of_length_le (Nat.le_refl _)]
                      clear HHI
                      cases hwas : WinM.hadB had n with
                      | true =>
                        have hw0 := (unhide HQ).right
                        have CV := hide (fun (W : World) (K : List (Int × Int)) (h : VKAt W v D K) (hB : Below wo.heap.size wo W) => vk_spend n 50 1 W wo h hB hv0 hB.size)
                        have CL := hide (fun (W : World) (h : LogAt wo.heap.size W J x) (hB : Below wo.heap.size wo W) => lspend_any n 50 1 W wo h hB hB.size)
                        have CW := hide (fun W => wtake_any t B n W)
                        rw [WinM.take_rest n hw0] at CW
                        have hin : n ∈ had := by simpa [WinM.hadB] using hwas
                        obtain ⟨e1, e2, e3⟩ := (unhide HS).again hin
                        obtain ⟨f1, f2⟩ := (unhide HL).again e1
                        have hre := (unhide HQ).had hin
                        rw [e1, e2] at CV
                        rw [f1, f2] at CL
                        have HS' := hide e3
                        have HL' := hide (unhide HL)
                        have HQ' := hide ((unhide HQ).no hre hnb.1 (by omega))
                        rw [errV_pos hre] at CW
                        have hra := hre
                        generalize WinM.restErr t B n = re at CW
                        generalize WinM.taken t B n = tk at CW
                        have S7 := hide (fun (W : World) (hg : ErrType W) => same_any 7 7 W hg)
                        rw [show ((7 : Int) == 7) = true by decide] at S7
                        clear e1 e2 e3 f1 f2 hre hw0 hra hin
                        go_wp2_with fail
                        refine (unhide CV _ _ (unhide HP).vault (unhide HB)).mono ?_
                        rintro e w6 ⟨rfl, h6, hb6, hs6⟩
                        have HP6 := hide ((unhide HP).ofVault h6 hs6)
                        have HO6 := hide (int_still (unhide HO) hs6 (by decide))
                        have HB6 := hide hb6
                        clear h6 hb6 hs6
                        go_wp2_with fail
                        refine (unhide CL _ (unhide HP6).log (unhide HB6)).mono ?_
                        rintro e w7 ⟨rfl, h7, hb7, hs7⟩
                        have HP7 := hide ((unhide HP6).ofLog h7 hs7)
                        have HO7 := hide (int_still (unhide HO6) hs7 (by decide))
                        have HB7 := hide hb7
                        clear h7 hb7 hs7
                        obtain ⟨⟨c0, c1⟩, -, -, cl⟩ := (unhide HP7).win.at
                        go_wp2_with fail
                        refine (unhide CW _).mono ?_
                        rintro e w8 ⟨rfl, hb8⟩
                        have HP8 := hide ((unhide HP7).later hb8)
                        have HO8 := hide (own_later (unhide HO7) hb8)
                        have HB8 := hide (bel3 (unhide HB7) (Below.refl _ _) hb8)
                        clear hb8 c0 c1 cl
                        have HBx := hide (show Below w.heap.size w (w8.alloc (.cells #[.int .i64 tk.1, .int .i64 tk.2] 55)) from ((unhide HW).trans ((unhide HB8).mono (unhide HW).size)).alloc (Nat.le_trans (unhide HW).size (unhide HB8).size) _)
                        have HP8a := hide ((unhide HP8).later ((Below.refl _ w8).alloc (Nat.le_refl _) (.cells #[.int .i64 tk.1, .int .i64 tk.2] 55)))
                        have HO8a := hide (own_later (unhide HO8) ((Below.refl _ w8).alloc (Nat.le_refl _) (.cells #[.int .i64 tk.1, .int .i64 tk.2] 55)))
                        have HB8a := hide ((unhide HB8).alloc (unhide HB8).size (.cells #[.int .i64 tk.1, .int .i64 tk.2] 55))
                        go_wp2_with fail
                        refine (unhide S7 _ ((unhide HG0).later (unhide HBx))).mono ?_
                        rintro e w9 ⟨rfl, hb9⟩
                        have HP9 := hide ((unhide HP8a).later hb9)
                        have HO9 := hide (own_later (unhide HO8a) hb9)
                        have HB9 := hide (bel3 (unhide HB8a) (Below.refl _ _) hb9)
                        have HBy := hide (bel3 (unhide HBx) (Below.refl _ _) hb9)
                        clear hb9
                        go_wp2_with fail
                        refine (unhide S7 _ ((unhide HG0).later (unhide HBy))).mono ?_
                        rintro e w10 ⟨rfl, hb10⟩
                        have HP10 := hide ((unhide HP9).later hb10)
                        have HO10 := hide (own_later (unhide HO9) hb10)
                        have HB10 := hide (bel3 (unhide HB9) (Below.refl _ _) hb10)
                        clear hb10
                        have b10 := (unhide HB10).size
                        go_wp2_with (at_builtin; refine wpList_append_own _ rfl _ _ 23 rfl wo.heap.size 3 k0 (.int .i64 0) 1 8 Tryd.underlying23 ki kz0 kz1 kz2 rfl (by decide) _ _ _ rfl ((unhide HO10).alloc _) ⟨w10.heap.size, 0, none⟩ 1 1 [.int .i64 n] rfl rfl ?ga1 ?ga2 ?ga3 ?ga4 ?ga5 ?_)
                        case ga1 =>
                          intro j u hj
                          match j, hj with
                          | 0, hj => simp at hj; subst hj; simp [Addr.add]
                          | j + 1, hj => simp at hj
                        case ga2 => intro u hu; simp at hu; subst hu; rfl
                        case ga3 => unfold maxLen; omega
                        case ga4 => omega
                        case ga5 => simp; omega
                        · intro v12 w12 hown12 hgrow12 _
                          have s12 : Still [3] w10 w12 := (Still.of ((Below.refl w10.heap.size w10).alloc (Nat.le_refl _) _)).trans (Still.grown ((unhide HO10).alloc _) (by simp) hgrow12)
                          have HP12 := hide ((unhide HP10).still s12 (by decide) (by decide) (by decide) (by decide) (by decide))
                          have HO12 := hide (show w12.ownsRow wo.heap.size 3 1 v12 (had ++ [n]).length ((had ++ [n]).map (Value.int .i64)) from by rw [List.length_append, List.map_append]; exact hown12)
                          have HB12 := hide (show Below wo.heap.size wo w12 from ((unhide HB10).alloc b10 _).grown hgrow12 (by simp; omega) (fun q hq => ((unhide HO10).lt q hq).1))
                          clear hown12 hgrow12 s12
                          go_wp2_with fail
                          refine (vk_sync w12 wo (unhide HP12).vault (unhide HB12) hv0).mono ?_
                          rintro e w13 ⟨rfl, h13, hb13, hs13⟩
                          have HP13 := hide ((unhide HP12).ofVault h13 hs13)
                          have HO13 := hide (int_still (unhide HO12) hs13 (by decide))
                          have HB13 := hide hb13
                          clear h13 hb13 hs13
                          go_wp2_with fail
                          refine (vk_crash w13 wo (unhide HP13).vault (unhide HB13) hv0).mono ?_
                          rintro e w14 ⟨rfl, h14, hb14, hs14⟩
                          have HP14 := hide ((unhide HP13).ofVault h14 hs14)
                          have HO14 := hide (int_still (unhide HO13) hs14 (by decide))
                          have HB14 := hide hb14
                          clear h14 hb14 hs14
                          go_wp2
                          go_roundw
                          case rel => exact ⟨k + 1, had ++ [n], _, _, D, x, by omega, by go_num, by simp; omega, HO14, HQ', HS', HL', HP14, HB14⟩
                          case measure => simp [intOf]; omega
                      | false =>
                        have hw0 := (unhide HQ).right
                        have CV := hide (fun (W : World) (K : List (Int × Int)) (h : VKAt W v D K) (hB : Below wo.heap.size wo W) => vk_spend n 50 1 W wo h hB hv0 hB.size)
                        have CL := hide (fun (W : World) (h : LogAt wo.heap.size W J x) (hB : Below wo.heap.size wo W) => lspend_any n 50 1 W wo h hB hB.size)
                        have CW := hide (fun W => wtake_any t B n W)
                        rw [WinM.take_rest n hw0] at CW
                        have hin : ¬ n ∈ had := by simpa [WinM.hadB] using hwas
                        obtain ⟨e1, e2, e3⟩ := (unhide HS).first hL16 (unhide HMEM) hnb.1 (by omega) hin
                        obtain ⟨f1, f2⟩ := (unhide HL).first (unhide HS).len e1 e2
                        rw [e1, e2, errV_zero rfl] at CV
                        rw [f1, errV_zero rfl] at CL
                        have HS' := hide e3
                        have HL' := hide f2
                        clear e1 e2 e3 f1 f2 hin
                        generalize LogM.spend x (n, 50, 1) = x2 at CL HL'
                        generalize D ++ [(n, 50)] = D2 at CV HL' HS'
                        by_cases hre : WinM.restErr t B n = 0
                        · rw [hre, errV_zero rfl, WinM.taken_yes (by rw [WinM.take_rest n hw0]; exact hre)] at CW
                          have HQ' := hide ((unhide HQ).take hre)
                          dsimp only at CW
                          generalize ((WinM.bitsOf t B n : Nat) : Int) = B' at CW HQ'
                          generalize WinM.top t n = t' at CW HQ'
                          clear hre hw0
                          go_wp2_with fail
                          refine (unhide CV _ _ (unhide HP).vault (unhide HB)).mono ?_
                          rintro e w6 ⟨rfl, h6, hb6, hs6⟩
                          have HP6 := hide ((unhide HP).ofVault h6 hs6)
                          have HO6 := hide (int_still (unhide HO) hs6 (by decide))
                          have HB6 := hide hb6
                          clear h6 hb6 hs6
                          go_wp2_with fail
                          refine (unhide CL _ (unhide HP6).log (unhide HB6)).mono ?_
                          rintro e w7 ⟨rfl, h7, hb7, hs7⟩
                          have HP7 := hide ((unhide HP6).ofLog h7 hs7)
                          have HO7 := hide (int_still (unhide HO6) hs7 (by decide))
                          have HB7 := hide hb7
                          clear h7 hb7 hs7
                          obtain ⟨⟨c0, c1⟩, -, -, cl⟩ := (unhide HP7).win.at
                          go_wp2_with fail
                          refine (unhide CW _).mono ?_
                          rintro e w8 ⟨rfl, hb8⟩
                          have HP8 := hide ((unhide HP7).later hb8)
                          have HO8 := hide (own_later (unhide HO7) hb8)
                          have HB8 := hide (bel3 (unhide HB7) (Below.refl _ _) hb8)
                          clear hb8 c0 c1 cl
                          have HP8a := hide ((unhide HP8).later ((Below.refl _ w8).alloc (Nat.le_refl _) (.cells #[.int .i64 t', .int .i64 B'] 55)))
                          have HO8a := hide (own_later (unhide HO8) ((Below.refl _ w8).alloc (Nat.le_refl _) (.cells #[.int .i64 t', .int .i64 B'] 55)))
                          have HB8a := hide ((unhide HB8).alloc (unhide HB8).size (.cells #[.int .i64 t', .int .i64 B'] 55))
                          have HX8 := hide (show Held (w8.alloc (.cells #[.int .i64 t', .int .i64 B'] 55)) w8.heap.size (n2 t' B') from Held.fresh (w := w8) (n2 t' B') 55 rfl)
                          go_upto_region 38 with fail
                          generalize (w8.alloc (.cells #[.int .i64 t', .int .i64 B'] 55)) = wx at HP8a HO8a HB8a HX8 ⊢
                          obtain ⟨⟨c0, c1⟩, f0, f1, cl⟩ := (unhide HP8a).win.at
                          obtain ⟨⟨x0, x1⟩, -⟩ := (unhide HX8).c2
                          have xl := (unhide HX8).2
                          go_upto_region 39 with fail
                          have hs9 : Still [55] wx ((wx.setCell ⟨bw, 0, none⟩ (.int .i64 t')).setCell ⟨bw, 1, none⟩ (.int .i64 B')) := (Still.set (unhide HP8a).win (by simp) 0 _).trans (Still.set (heap_put (unhide HP8a).win _) (by simp) 1 _)
                          have HP9 := hide (show Rep wo.heap.size ((wx.setCell ⟨bw, 0, none⟩ (.int .i64 t')).setCell ⟨bw, 1, none⟩ (.int .i64 B')) bw v J t' B' D2 D x2 from
                            ⟨heap_put (heap_put (unhide HP8a).win _) _, (unhide HP8a).vault.still hs9 (by decide) (by decide), (unhide HP8a).log.still hs9 (by decide) (by decide) (by decide)⟩)
                          have HO9 := hide (int_still (unhide HO8a) hs9 (by decide))
                          have HB9 := hide (((unhide HB8a).setCell (p := ⟨bw, 0, none⟩) hbw (.int .i64 t')).setCell (p := ⟨bw, 1, none⟩) hbw (.int .i64 B'))
                          clear hs9 c0 c1 f0 f1 cl x0 x1 xl HX8
                          generalize (wx.setCell ⟨bw, 0, none⟩ (.int .i64 t')).setCell ⟨bw, 1, none⟩ (.int .i64 B') = w9 at HP9 HO9 HB9 ⊢
                          have b9 := (unhide HB9).size
                          go_wp2_with (at_builtin; refine wpList_append_own _ rfl _ _ 23 rfl wo.heap.size 3 k0 (.int .i64 0) 1 8 Tryd.underlying23 ki kz0 kz1 kz2 rfl (by decide) _ _ _ rfl ((unhide HO9).alloc _) ⟨w9.heap.size, 0, none⟩ 1 1 [.int .i64 n] rfl rfl ?gb1 ?gb2 ?gb3 ?gb4 ?gb5 ?_)
                          case gb1 =>
                            intro j u hj
                            match j, hj with
                            | 0, hj => simp at hj; subst hj; simp [Addr.add]
                            | j + 1, hj => simp at hj
                          case gb2 => intro u hu; simp at hu; subst hu; rfl
                          case gb3 => unfold maxLen; omega
                          case gb4 => omega
                          case gb5 => simp; omega
                          · intro v12 w12 hown12 hgrow12 _
                            have s12 : Still [3] w9 w12 := (Still.of ((Below.refl w9.heap.size w9).alloc (Nat.le_refl _) _)).trans (Still.grown ((unhide HO9).alloc _) (by simp) hgrow12)
                            have HP12 := hide ((unhide HP9).still s12 (by decide) (by decide) (by decide) (by decide) (by decide))
                            have HO12 := hide (show w12.ownsRow wo.heap.size 3 1 v12 (had ++ [n]).length ((had ++ [n]).map (Value.int .i64)) from by rw [List.length_append, List.map_append]; exact hown12)
                            have HB12 := hide (show Below wo.heap.size wo w12 from ((unhide HB9).alloc b9 _).grown hgrow12 (by simp; omega) (fun q hq => ((unhide HO9).lt q hq).1))
                            clear hown12 hgrow12 s12
                            go_wp2_with fail
                            refine (vk_sync w12 wo (unhide HP12).vault (unhide HB12) hv0).mono ?_
                            rintro e w13 ⟨rfl, h13, hb13, hs13⟩
                            have HP13 := hide ((unhide HP12).ofVault h13 hs13)
                            have HO13 := hide (int_still (unhide HO12) hs13 (by decide))
                            have HB13 := hide hb13
                            clear h13 hb13 hs13
                            go_wp2_with fail
                            refine (vk_crash w13 wo (unhide HP13).vault (unhide HB13) hv0).mono ?_
                            rintro e w14 ⟨rfl, h14, hb14, hs14⟩
                            have HP14 := hide ((unhide HP13).ofVault h14 hs14)
                            have HO14 := hide (int_still (unhide HO13) hs14 (by decide))
                            have HB14 := hide hb14
                            clear h14 hb14 hs14
                            go_wp2
                            go_roundw
                            case rel => exact ⟨k + 1, had ++ [n], _, _, D2, x2, by omega, by go_num, by simp; omega, HO14, HQ', HS', HL', HP14, HB14⟩
                            case measure => simp [intOf]; omega
                        · rw [errV_pos hre] at CW
                          have HQ' := hide ((unhide HQ).no hre hnb.1 (by omega))
                          generalize WinM.restErr t B n = re at CW
                          generalize WinM.taken t B n = tk at CW
                          clear hre hw0
                          go_wp2_with fail
                          refine (unhide CV _ _ (unhide HP).vault (unhide HB)).mono ?_
                          rintro e w6 ⟨rfl, h6, hb6, hs6⟩
                          have HP6 := hide ((unhide HP).ofVault h6 hs6)
                          have HO6 := hide (int_still (unhide HO) hs6 (by decide))
                          have HB6 := hide hb6
                          clear h6 hb6 hs6
                          go_wp2_with fail
                          refine (unhide CL _ (unhide HP6).log (unhide HB6)).mono ?_
                          rintro e w7 ⟨rfl, h7, hb7, hs7⟩
                          have HP7 := hide ((unhide HP6).ofLog h7 hs7)
                          have HO7 := hide (int_still (unhide HO6) hs7 (by decide))
                          have HB7 := hide hb7
                          clear h7 hb7 hs7
                          obtain ⟨⟨c0, c1⟩, -, -, cl⟩ := (unhide HP7).win.at
                          go_wp2_with fail
                          refine (unhide CW _).mono ?_
                          rintro e w8 ⟨rfl, hb8⟩
                          have HP8 := hide ((unhide HP7).later hb8)
                          have HO8 := hide (own_later (unhide HO7) hb8)
                          have HB8 := hide (bel3 (unhide HB7) (Below.refl _ _) hb8)
                          clear hb8 c0 c1 cl
                          have HP8a := hide ((unhide HP8).later ((Below.refl _ w8).alloc (Nat.le_refl _) (.cells #[.int .i64 tk.1, .int .i64 tk.2] 55)))
                          have HO8a := hide (own_later (unhide HO8) ((Below.refl _ w8).alloc (Nat.le_refl _) (.cells #[.int .i64 tk.1, .int .i64 tk.2] 55)))
                          have HB8a := hide ((unhide HB8).alloc (unhide HB8).size (.cells #[.int .i64 tk.1, .int .i64 tk.2] 55))
                          go_upto_region 39 with fail
                          generalize w8.alloc (.cells #[.int .i64 tk.1, .int .i64 tk.2] 55) = w9 at HP8a HO8a HB8a ⊢
                          have HP9 := hide (unhide HP8a)
                          have HO9 := hide (unhide HO8a)
                          have HB9 := hide (unhide HB8a)
                          have b9 := (unhide HB9).size
                          go_wp2_with (at_builtin; refine wpList_append_own _ rfl _ _ 23 rfl wo.heap.size 3 k0 (.int .i64 0) 1 8 Tryd.underlying23 ki kz0 kz1 kz2 rfl (by decide) _ _ _ rfl ((unhide HO9).alloc _) ⟨w9.heap.size, 0, none⟩ 1 1 [.int .i64 n] rfl rfl ?gc1 ?gc2 ?gc3 ?gc4 ?gc5 ?_)
                          case gc1 =>
                            intro j u hj
                            match j, hj with
                            | 0, hj => simp at hj; subst hj; simp [Addr.add]
                            | j + 1, hj => simp at hj
                          case gc2 => intro u hu; simp at hu; subst hu; rfl
                          case gc3 => unfold maxLen; omega
                          case gc4 => omega
                          case gc5 => simp; omega
                          · intro v12 w12 hown12 hgrow12 _
                            have s12 : Still [3] w9 w12 := (Still.of ((Below.refl w9.heap.size w9).alloc (Nat.le_refl _) _)).trans (Still.grown ((unhide HO9).alloc _) (by simp) hgrow12)
                            have HP12 := hide ((unhide HP9).still s12 (by decide) (by decide) (by decide) (by decide) (by decide))
                            have HO12 := hide (show w12.ownsRow wo.heap.size 3 1 v12 (had ++ [n]).length ((had ++ [n]).map (Value.int .i64)) from by rw [List.length_append, List.map_append]; exact hown12)
                            have HB12 := hide (show Below wo.heap.size wo w12 from ((unhide HB9).alloc b9 _).grown hgrow12 (by simp; omega) (fun q hq => ((unhide HO9).lt q hq).1))
                            clear hown12 hgrow12 s12
                            go_wp2_with fail
                            refine (vk_sync w12 wo (unhide HP12).vault (unhide HB12) hv0).mono ?_
                            rintro e w13 ⟨rfl, h13, hb13, hs13⟩
                            have HP13 := hide ((unhide HP12).ofVault h13 hs13)
                            have HO13 := hide (int_still (unhide HO12) hs13 (by decide))
                            have HB13 := hide hb13
                            clear h13 hb13 hs13
                            go_wp2_with fail
                            refine (vk_crash w13 wo (unhide HP13).vault (unhide HB13) hv0).mono ?_
                            rintro e w14 ⟨rfl, h14, hb14, hs14⟩
                            have HP14 := hide ((unhide HP13).ofVault h14 hs14)
                            have HO14 := hide (int_still (unhide HO13) hs14 (by decide))
                            have HB14 := hide hb14
                            clear h14 hb14 hs14
                            go_wp2
                            go_roundw
                            case rel => exact ⟨k + 1, had ++ [n], _, _, D2, x2, by omega, by go_num, by simp; omega, HO14, HQ', HS', HL', HP14, HB14⟩
                            case measure => simp [intOf]; omega
            · have hall := hide (lall_any wr (unhide HP).log)
              have hgd := (unhide HS).good
              have hft := (unhide HQ).right
              rw [(unhide HL).hist] at hall
              obtain ⟨⟨c0, c1⟩, -, -, cl⟩ := (unhide HP).win.at
              have HC0 := hide c0
              have HC1 := hide c1
              clear c0 c1
              go_wp2_with fail
              refine (unhide hall).mono ?_
              rintro e w9 ⟨a9, n9, p9, rfl, hk9, hb9⟩
              have CC := hide (scheck_any w9 hk9.1)
              rw [SpentM.err_zero.2 hgd, errV_zero rfl] at CC
              have HB9 := hide (bel3 (unhide HBw) (Below.refl _ _) hb9)
              have HC0 := hide (cell_later hb9 (unhide HC0))
              have HC1 := hide (cell_later hb9 (unhide HC1))
              have cl := Nat.lt_of_lt_of_le cl hb9.size
              clear hk9 hb9
              go_wp2_with fail
              refine (unhide CC).mono ?_
              rintro e w10 ⟨rfl, hb10⟩
              have HB10 := hide (bel3 (unhide HB9) (Below.refl _ _) hb10)
              have c0 := cell_later hb10 (unhide HC0)
              have c1 := cell_later hb10 (unhide HC1)
              have cl := Nat.lt_of_lt_of_le cl hb10.size
              have CW := hide (wcheck_any t B w10)
              rw [hft, errV_zero rfl] at CW
              clear hb10
              go_wp2_with fail
              refine (unhide CW).mono ?_
              rintro e w11 ⟨rfl, hb11⟩
              have HB11 := hide (bel3 (unhide HB10) (Below.refl _ _) hb11)
              clear hb11
              go_wp2
              go_ret
              exact ⟨rfl, unhide HB11⟩
          · have hall := hide (lall_any wr (unhide HP).log)
            have hgd := (unhide HS).good
            have hft := (unhide HQ).right
            rw [(unhide HL).hist] at hall
            obtain ⟨⟨c0, c1⟩, -, -, cl⟩ := (unhide HP).win.at
            have HC0 := hide c0
            have HC1 := hide c1
            clear c0 c1
            go_wp2_with fail
            refine (unhide hall).mono ?_
            rintro e w9 ⟨a9, n9, p9, rfl, hk9, hb9⟩
            have CC := hide (scheck_any w9 hk9.1)
            rw [SpentM.err_zero.2 hgd, errV_zero rfl] at CC
            have HB9 := hide (bel3 (unhide HBw) (Below.refl _ _) hb9)
            have HC0 := hide (cell_later hb9 (unhide HC0))
            have HC1 := hide (cell_later hb9 (unhide HC1))
            have cl := Nat.lt_of_lt_of_le cl hb9.size
            clear hk9 hb9
            go_wp2_with fail
            refine (unhide CC).mono ?_
            rintro e w10 ⟨rfl, hb10⟩
            have HB10 := hide (bel3 (unhide HB9) (Below.refl _ _) hb10)
            have c0 := cell_later hb10 (unhide HC0)
            have c1 := cell_later hb10 (unhide HC1)
            have cl := Nat.lt_of_lt_of_le cl hb10.size
            have CW := hide (wcheck_any t B w10)
            rw [hft, errV_zero rfl] at CW
            clear hb10
            go_wp2_with fail
            refine (unhide CW).mono ?_
            rintro e w11 ⟨rfl, hb11⟩
            have HB11 := hide (bel3 (unhide HB10) (Below.refl _ _) hb11)
            clear hb11
            go_wp2
            go_ret
            exact ⟨rfl, unhide HB11⟩

theorem walk (a0 : Option Addr) (len0 cap0 : Nat) (z0 : List Int) (a1 : Option Addr) (len1 cap1 : Nat) (z1 : List Int) (w : World) (h0 : IsRow .i64 w a0 len0 cap0 z0) (h1 : IsRow .i64 w a1 len1 cap1 z1) (hg : ErrType w) :
    Calls Tryd.prog 4 #[.slice a0 len0 cap0, .slice a1 len1 cap1] w fun e w' => e = .returned (.bool true) ∧ Below w.heap.size w w' := by
  obtain ⟨l0, e0, i0, -, -⟩ := row_ints rfl h0
  obtain ⟨l1, e1, i1, q1, -⟩ := row_ints rfl h1
  exact walk1 a0 len0 cap0 l0 a1 len1 cap1 l1 w e0 i0 e1 i1 q1 hg


theorem gErr : Tryd.prog.globalNamed "errors.errorType" = some 0 := by kernel_rfl
theorem rtErr : (Tryd.prog.cutTypes.find? (·.1 == "internal/reflectlite.rtype")).map (·.2) = some 122 := by kernel_rfl
theorem oneRow : ((List.range 163).filter fun t => Tryd.prog.rowNamed t [101, 114, 114, 111, 114]) = [27] := by kernel_rfl
theorem sizeT : Tryd.prog.types.size = 163 := by kernel_rfl
theorem handle_of_laid {W : World} (h : laidMetH Tryd.prog Rows.topReplayRow.laid W) : ErrType W := by
  have h' : laidMet Tryd.prog [] W ∧ handlesMet Tryd.prog Rows.topReplayRow.laid W := h
  obtain ⟨name, u, ty, e1, e2, e3, e4, e5⟩ := h'.2 _ (List.mem_singleton.2 rfl)
  have en : name = [101, 114, 114, 111, 114] := (Option.some.inj e1).symm
  subst en
  obtain rfl := Option.some.inj (rtErr.symm.trans e2)
  have hm : ty ∈ (List.range 163).filter fun t => Tryd.prog.rowNamed t [101, 114, 114, 111, 114] := List.mem_filter.2 ⟨List.mem_range.2 (by rw [← sizeT]; exact e3), e4⟩
  rw [oneRow] at hm
  obtain rfl := List.mem_singleton.1 hm
  have hh : typeHandle Tryd.prog 27 = .pointer (some ⟨1, 27, none⟩) := by kernel_rfl
  rw [hh] at e5
  unfold ErrType
  simpa using World.var?_cell gErr e5 0
theorem door_met (os : Os) (args : Array Value) : laidMetH Tryd.prog Rows.topReplayRow.laid ((World.doorLaid Tryd.prog 400 os).forCall (fun _ _ => 0) ⟨#[], args, []⟩).memory :=
  laidMetH_of_parts (laidMet_nil _ _) (by kernel_rfl)


set_option maxRecDepth 100000 in
theorem lifted (os : Os) (started : os.Started) (H : Type) (enc : TypeId × Value → H) :
    ReturnsInHanded {} Tryd.checked os 4 .any (fun w args => (Rows.topReplaySpec.pre enc Tryd.prog Tryd.f4 [] false w args ∧ laidMetH Tryd.prog Rows.topReplayRow.laid w) ∧ sizedMet enc Tryd.prog Tryd.f4 (OpenSpec.ofChange Rows.topReplaySpec) false w args) (Rows.topReplaySpec.post enc Tryd.prog Tryd.f4 false true false false) := by
  refine returnsInHanded_of_change_and (C := Tryd.checked) (X := fun w _ => laidMetH Tryd.prog Rows.topReplayRow.laid w) (fun _ _ _ hh h => h.of_heap hh) own started (by kernel_rfl) Tryd.func4
    (ChangeSpec.witness_shaped (enc := enc) (C := Tryd.checked) (os := os) (X := fun w _ => laidMetH Tryd.prog Rows.topReplayRow.laid w) false (World.doorLaid Tryd.prog 400 os) #[.slice none 0 0, .slice none 0 0] 8 rfl (World.shaped_of_RefB (by kernel_rfl) (by kernel_rfl)) (by kernel_rfl) (by kernel_rfl) (by kernel_rfl) (door_met os _)) ?_
  intro W base args ds gs before hval0 hW _ hsz hL _
  have hg := handle_of_laid hL
  have hval : ∀ (j : Nat) t v, Tryd.f4.params[j]? = some t → args[j]? = some v → Value.okWide Tryd.prog W .any base t v := hval0
  have hW' := hW
  obtain ⟨p, q, hA0, hV, rfl, hfz, hnd⟩ := hW
  have hA : DataW.TrodAll enc Tryd.prog W 0 (fun _ => true) true Tryd.f4.params.toList args.toList ds p := hA0
  rw [Tryd.params4] at hA hval
  obtain ⟨v0, vs0, d0, ds0, p0, q0, hargs, rfl, rfl, h0, r0⟩ := trodAll_cons hA
  obtain ⟨v1, vs1, d1, ds1, p1, q1, rfl, rfl, rfl, h1, r1⟩ := trodAll_cons r0
  obtain ⟨rfl, rfl, rfl⟩ := trodAll_nil r1
  obtain rfl : args = #[v0, v1] := by cases args; simp_all
  obtain ⟨rfl, rfl⟩ := trodVars_none hV
  have k0 := h0
  have lt0 : ∀ x ∈ p0, x.block < W.heap.size := by obtain ⟨m, hm⟩ := k0; exact DataW.trod_lt m _ _ _ hm
  obtain ⟨a0, len0, cap0, rfl⟩ := okWide_slice Tryd.underlying23 (hval 0 23 v0 rfl rfl)
  obtain ⟨z0, w0⟩ : ∃ zs, IsRow .i64 W a0 len0 cap0 zs := by
    obtain ⟨fuel, hf⟩ := h0
    rcases open_ints Tryd.underlying23 Tryd.underlying3 (by kernel_rfl) hf with ⟨hcs, _⟩ | ⟨x, l, c, zs, hcs, _, hl, hm, hz, _, hcell, hwz⟩
    · simp [Value.cells] at hcs
      obtain ⟨rfl, rfl, rfl⟩ := hcs
      exact ⟨[], .inl ⟨rfl, rfl, rfl, rfl⟩⟩
    · simp [Value.cells] at hcs
      obtain ⟨rfl, rfl, rfl⟩ := hcs
      exact ⟨zs, .inr ⟨_, rfl, hl, hm, by simpa using hz, hcell, hwz⟩⟩
  have k1 := h1
  have lt1 : ∀ x ∈ p1, x.block < W.heap.size := by obtain ⟨m, hm⟩ := k1; exact DataW.trod_lt m _ _ _ hm
  obtain ⟨a1, len1, cap1, rfl⟩ := okWide_slice Tryd.underlying23 (hval 1 23 v1 rfl rfl)
  obtain ⟨z1, w1⟩ : ∃ zs, IsRow .i64 W a1 len1 cap1 zs := by
    obtain ⟨fuel, hf⟩ := h1
    rcases open_ints Tryd.underlying23 Tryd.underlying3 (by kernel_rfl) hf with ⟨hcs, _⟩ | ⟨x, l, c, zs, hcs, _, hl, hm, hz, _, hcell, hwz⟩
    · simp [Value.cells] at hcs
      obtain ⟨rfl, rfl, rfl⟩ := hcs
      exact ⟨[], .inl ⟨rfl, rfl, rfl, rfl⟩⟩
    · simp [Value.cells] at hcs
      obtain ⟨rfl, rfl, rfl⟩ := hcs
      exact ⟨zs, .inr ⟨_, rfl, hl, hm, by simpa using hz, hcell, hwz⟩⟩
  clear hA0 hval0
  refine (walk a0 len0 cap0 z0 a1 len1 cap1 z1 W w0 w1 hg).mono fun e W' ⟨he, bel⟩ => ?_
  subst he
  exact ⟨_, rfl, _, _, _, [], _, [], hW', trodAll_mk1 (shut_bool Tryd.underlying4 _), (trodAll_cons_mk (Below.trod laidOut (by kernel_rfl) (of_decide_eq_true (by kernel_rfl)) k0 bel lt0) (trodAll_cons_mk (Below.trod laidOut (by kernel_rfl) (of_decide_eq_true (by kernel_rfl)) k1 bel lt1) trodAll_mk0)), rfl, bel.frame _, fun h => by cases h⟩

theorem over : Rows.topReplayRow.holds Tryd.pinned (OpenSpec.ofChange Rows.topReplaySpec) :=
  OpenClaim.holds_of_wide 4 Tryd.f4 rfl rfl rfl rfl rfl rfl rfl ⟨rfl, rfl, rfl, rfl, rfl⟩ rfl rfl rfl rfl rfl (by kernel_rfl) Tryd.func4 (by kernel_rfl)
    (of_decide_eq_true (by kernel_rfl)) (by unfold Func.isWrapper; first | (rw [if_pos (by decide +kernel)]; kernel_rfl) | (rw [if_neg (by decide +kernel)]; exact ⟨rfl, rfl⟩))
    (fun os started H enc _ => lifted os started H enc)

theorem card : Rows.TopReplayCardSaid :=
  Claim7.holds_tied_plain_at .later [] [.handle] true (true, "46a178472dc041461166106d14167603ec513a979df970bb2370facf269e82be") true
    over (fun _ h => by cases h) (by kernel_rfl) (fun _ h => by cases h) topReplay_row_tie rfl ⟨rfl, rfl⟩ (by kernel_rfl) rfl
    (fun f fn hf hfn => by
      obtain rfl : f = 4 := Option.some.inj ((show Tryd.prog.funcNamed "tokenfold/foldtop.TopReplay" = some 4 by kernel_rfl).symm.trans hf) |>.symm
      obtain rfl : fn = Tryd.f4 := (Option.some.inj (Tryd.func4.symm.trans hfn)).symm
      exact ⟨by kernel_rfl, fun j t ht => by
        rw [Tryd.params4] at ht
        have hm : t ∈ [23, 23] := by simpa using Array.mem_of_getElem? ht
        have hall : ([23, 23].all fun u => !Tryd.prog.wantsStandIn u) = true := by kernel_rfl
        exact (show Tryd.prog.wantsStandIn t = false by simpa using List.all_eq_true.1 hall t hm)⟩)
    (by kernel_rfl)

end Go.Proofs.YtfhpfdlbgmgclakDoor.topReplay
namespace Go.Proofs.YtfhpfdlbgmgclakDoor
theorem topReplay_holds : Rows.TopReplayCardSaid := topReplay.card
#print axioms topReplay_holds
end Go.Proofs.YtfhpfdlbgmgclakDoor

