/-
  The desk's hello and ticket: what they hand back, what they leave of the server.
-/
import Derived.Test.YthaicpepgianpakGreatDoorRunSmall
import Derived.Test.YthaicpepgianpakGreatDoorServerLaw
import Derived.Test.YthaicpepgianpakGreatDoorServerHello
namespace Go.Proofs.YthaicpepgianpakGreatDoor
open Go.RowKit
set_option linter.unusedVariables false

/-- Where a call stands: the listed variables are as they were laid, below B. -/
def Env (B : Nat) (w : World) : Prop := ∃ w0, Laid w0 ∧ w0.heap.size ≤ B ∧ Below B w0 w ∧ B ≤ w.heap.size
theorem Env.size {B : Nat} {w : World} (h : Env B w) : B ≤ w.heap.size := by
  obtain ⟨_, _, _, _, h⟩ := h
  exact h
theorem Env.start {w : World} (h : Laid w) : Env w.heap.size w := ⟨w, h, Nat.le_refl _, Below.refl _ _, Nat.le_refl _⟩
theorem Env.laid {B : Nat} {w : World} (h : Env B w) : Laid w := by
  obtain ⟨w0, h0, hB, hb, _⟩ := h
  exact h0.over ((hb.cell (p := ⟨0, 0, none⟩) (Nat.lt_of_lt_of_le (World.block_lt_of_cell? _ _ h0.err) hB)).trans h0.err) hb hB
theorem Env.step {B : Nat} {w w' : World} (h : Env B w) (hb : Below B w w') : Env B w' := by
  obtain ⟨w0, h1, h2, h3, h4⟩ := h
  exact ⟨w0, h1, h2, h3.trans hb, Nat.le_trans h4 hb.size⟩
theorem Env.later {B : Nat} {w w' : World} (h : Env B w) (hb : Below w.heap.size w w') : Env B w' := h.step (hb.mono h.size)
theorem Env.srv {B : Nat} {w w' : World} {s : Nat} {F : List Nat} {x y : ServM.St} (h : Env B w) (hs : SStep B w w' s F y) (h0 : SOwn B w s F x) : Env B w' := h.step (hs.below h0 (Below.refl _ _) h.size)
namespace RunM
def helloT (x : ServM.St) (h : ServM.Hi) (now : Int) : List UInt8 := if ServM.err x h now = 0 then greet x h now else []
def ticketT (x : ServM.St) (u : Int) : List UInt8 := if ServM.tErr x u = 0 then ticket x u else []
def pullT (x : ServM.St) : List UInt8 := if ServM.pE x = 0 then pull x else []
theorem hello_bds {x : ServM.St} {h : ServM.Hi} {now : Int} (g : ServM.Good x) (ha : 0 ≤ h.a ∧ h.a < 1000000) (hn : 0 ≤ now ∧ now < 1000000) :
    (0 ≤ ServM.aEp x h now ∧ ServM.aEp x h now < 1000000) ∧ (0 ≤ ServM.aAd x h now ∧ ServM.aAd x h now < 1000000) ∧ (0 ≤ ServM.aTi x h now ∧ ServM.aTi x h now < 1000000) ∧ (0 ≤ ServM.aTg x h now ∧ ServM.aTg x h now < 1000000) ∧ 0 ≤ ServM.aCo x h now ∧ ServM.aCo x h now < 4096 := by
  have h1 := RingM.err_zero.1 g.ring
  have h2 := TagM.tag_bd x.key [1, h.a, now]
  have k0 := g.k0
  unfold ServM.aEp ServM.aAd ServM.aTi ServM.aTg ServM.aCo
  refine ⟨?_, ?_, ?_, ?_, ?_⟩
  · split <;> omega
  · split <;> omega
  · split <;> omega
  · split <;> omega
  · split
    · rename_i q
      have := (ServM.in_iff.1 q).2.2
      omega
    · omega
theorem ticket_bds {x : ServM.St} {u : Int} (g : ServM.Good x) (hu : 0 ≤ u ∧ u < 1000000) :
    (0 ≤ ServM.tEp x u ∧ ServM.tEp x u < 1000000) ∧ (0 ≤ ServM.tNo x u ∧ ServM.tNo x u < 1000000) ∧ (0 ≤ ServM.tUn x u ∧ ServM.tUn x u < 1000000) ∧ 0 ≤ ServM.tTg x u ∧ ServM.tTg x u < 1000000 := by
  have h1 := RingM.err_zero.1 g.ring
  have h2 := TagM.tag_bd x.key [2, x.n, u]
  have n0 := g.n0
  have n1 := g.nm
  have n2 := g.m1
  unfold ServM.tEp ServM.tNo ServM.tUn ServM.tTg
  refine ⟨?_, ?_, ?_, ?_⟩
  · split <;> omega
  · split <;> omega
  · split <;> omega
  · split <;> omega
end RunM
theorem four_ints {W : World} {V : Nat} {p q r t : Int} {T : TypeId} (hV : W.heap.size = V) (p0 : 0 ≤ p) (q0 : 0 ≤ q) (r0 : 0 ≤ r) (t0 : 0 ≤ t) :
    Ints (W.alloc (.cells #[.int .i64 p, .int .i64 q, .int .i64 r, .int .i64 t] T)) (some ⟨V, 0, none⟩) ([p.toNat, q.toNat, r.toNat, t.toNat].map Int.ofNat) := by
  refine ⟨by simp, fun k hk => ⟨V, 0, rfl, ?_⟩⟩
  rw [World.cell?_alloc_at _ _ _ _ (by simp [hV])]
  simp only [List.map_cons, List.map_nil, List.length_cons, List.length_nil] at hk
  obtain rfl | rfl | rfl | rfl : k = 0 ∨ k = 1 ∨ k = 2 ∨ k = 3 := by omega
  all_goals (simp [List.getD]; omega)
/-- Four numbers in a slice of their own, as a row. -/
theorem four_row {B V : Nat} {W : World} {p q r t : Int} {T : TypeId} (hE : Env B W) (hV : W.heap.size = V) (hp : 0 ≤ p ∧ p < 1000000) (hq : 0 ≤ q ∧ q < 1000000) (hr : 0 ≤ r ∧ r < 1000000) (ht : 0 ≤ t ∧ t < 1000000) :
    Calls Tryz.prog 40 #[.slice (some ⟨V, 0, none⟩) 4 4] (W.alloc (.cells #[.int .i64 p, .int .i64 q, .int .i64 r, .int .i64 t] T)) fun e w' => e = .returned (.string (RunM.bs (RunM.row [p.toNat, q.toNat, r.toNat, t.toNat]))) ∧ Below W.heap.size W w' := by
  refine (rrow_any [p.toNat, q.toNat, r.toNat, t.toNat] (some ⟨V, 0, none⟩) 4 _ (hE.later (below_alloc (Below.refl _ _) _)).laid (by intro n hn; simp only [List.mem_cons, List.not_mem_nil, or_false] at hn; omega) (by simp) (by simp) (four_ints hV hp.1 hq.1 hr.1 ht.1)).mono ?_
  rintro e w' ⟨rfl, hb⟩
  exact ⟨rfl, (below_alloc (Below.refl _ _) _).trans (hb.mono (by simp))⟩

set_option maxHeartbeats 3200000 in
set_option maxRecDepth 8000 in
theorem dhello_any {B s mb : Nat} {F : List Nat} {x : ServM.St} (h : ServM.Hi) (now : Int) (w : World) (g : ServM.Good x) (h0 : SOwn B w s F x) (hE : Env B w) (ha : 0 ≤ h.a ∧ h.a < 1000000) (hn : 0 ≤ now ∧ now < 1000000) :
    Calls Tryz.prog 34 #[.agg #[.pointer (some ⟨s, 0, none⟩), .map (some mb)], .agg #[.int .i64 h.a, .int .i64 h.te, .int .i64 h.ta, .int .i64 h.tt, .int .i64 h.tg, .int .i64 h.ke, .int .i64 h.kn, .int .i64 h.ku, .int .i64 h.kg, .string h.s], .int .i64 now] w fun e w' => e = .returned (.tuple #[.string (RunM.bs (RunM.helloT x h now)), errV (ServM.err x h now)]) ∧ SStep B w w' s F (ServM.next x h now) := by
  have H0 := hide h0
  have HE := hide hE
  obtain ⟨b1, b2, b3, b4, b5⟩ := RunM.hello_bds g ha hn
  have C := hide (fun W (hW : Below w.heap.size w W) => shello_any h now W g (h0.later hW))
  have kw := ServM.kind_ways x h now
  have HT : Hid (RunM.helloT x h now = if ServM.err x h now = 0 then (if ServM.aKind x h now = 0 then RunM.tRetry ++ RunM.row [(ServM.aEp x h now).toNat, (ServM.aAd x h now).toNat, (ServM.aTi x h now).toNat, (ServM.aTg x h now).toNat] else if ServM.aKind x h now = 2 then RunM.tBusy else RunM.tWelcome ++ RunM.digits (ConnM.turn (ServM.aCo x h now)).toNat) else []) := hide (by
    unfold RunM.helloT RunM.greet
    by_cases q : ServM.err x h now = 0
    · rw [if_pos q, if_pos q, if_neg (fun e => e q)]
    · rw [if_neg q, if_neg q])
  have ka : ServM.err x h now = 0 → ServM.aKind x h now = 0 ∨ ServM.aKind x h now = 1 ∨ ServM.aKind x h now = 2 := fun q => by
    unfold ServM.aKind; rw [if_pos q]; exact kw
  generalize RunM.helloT x h now = T at HT ⊢
  generalize ServM.err x h now = E at HT C ka ⊢
  generalize ServM.aKind x h now = K at HT C ka
  generalize ServM.aEp x h now = n1 at HT C b1
  generalize ServM.aAd x h now = n2 at HT C b2
  generalize ServM.aTi x h now = n3 at HT C b3
  generalize ServM.aTg x h now = n4 at HT C b4
  generalize ServM.aCo x h now = c1 at HT C b5
  generalize ServM.soon x h now = sb at C
  generalize ServM.next x h now = y at C ⊢
  have HB := hide (And.intro b1 (And.intro b2 (And.intro b3 (And.intro b4 b5))))
  clear kw ha hn b1 b2 b3 b4 b5 g h0 hE
  by_cases hE0 : E = 0
  · subst hE0
    rw [errV_zero rfl] at C ⊢
    rcases ka rfl with rfl | rfl | rfl
    · clear ka
      have HT2 := hide (show RunM.bs T = (⟨#[114, 101, 116, 114, 121, 32]⟩ : ByteArray) ++ RunM.bs (RunM.row [n1.toNat, n2.toNat, n3.toNat, n4.toNat]) by rw [unhide HT, if_pos rfl, if_pos rfl, ← RunM.bs_append]; rfl)
      obtain ⟨z1, z2, z3, z4, -⟩ := unhide HB
      have CR := hide (fun W V (hW : Env B W) (hV : W.heap.size = V) => four_row (T := 3) hW hV z1 z2 z3 z4)
      have hsz : (RunM.bs (RunM.row [n1.toNat, n2.toNat, n3.toNat, n4.toNat])).size ≤ 28 := RunM.row_len _ (by intro n hn; simp only [List.mem_cons, List.not_mem_nil, or_false] at hn; omega)
      have hs6 : (⟨#[114, 101, 116, 114, 121, 32]⟩ : ByteArray).size = 6 := rfl
      generalize RunM.bs (RunM.row [n1.toNat, n2.toNat, n3.toNat, n4.toNat]) = out at CR HT2 hsz
      clear HT HB z1 z2 z3 z4
      go_enter Tryz.func34, Tryz.ntmps34
      go_wp2_with fail
      refine (unhide C _ (show Below w.heap.size w ((w.alloc _).alloc _) from (by (repeat' (first | exact Below.refl _ _ | refine Below.alloc ?_ ?_ _ | refine Below.setCell ?_ ?_ _ | refine Below.drew ?_)); all_goals (first | exact Nat.le_refl _ | omega | (simp; done) | (simp; omega))))).mono ?_
      rintro e w1 ⟨rfl, hs⟩
      have HS := hide (SStep.behind (show Below w.heap.size w ((w.alloc _).alloc _) from (by (repeat' (first | exact Below.refl _ _ | refine Below.alloc ?_ ?_ _ | refine Below.setCell ?_ ?_ _ | refine Below.drew ?_)); all_goals (first | exact Nat.le_refl _ | omega | (simp; done) | (simp; omega)))) hs)
      clear hs
      have HE1 := hide (((unhide HE).srv (unhide HS) (unhide H0)).later (below_alloc (Below.refl _ _) (.cells #[.int .i64 0, .int .i64 n1, .int .i64 n2, .int .i64 n3, .int .i64 n4, .int .i64 0, .int .i64 c1, .bool sb] 104)))
      go_wp2_with fail
      refine (unhide CR _ _ (unhide HE1) (by simp)).mono ?_
      rintro e w2 ⟨rfl, hb2⟩
      have HB2 := hide (bel3 (Below.refl _ _) (below_alloc (Below.refl _ _) _) hb2)
      clear hb2
      go_wp2
      go_ret2
      exact ⟨congrArg (fun q => Ending.returned (Value.tuple #[.string q, .nilIface])) (unhide HT2).symm, (unhide HS).ahead (unhide HB2)⟩
    · clear ka
      have HT2 := hide (show RunM.bs T = (⟨#[119, 101, 108, 99, 111, 109, 101, 32]⟩ : ByteArray) ++ RunM.bs (RunM.digits (ConnM.turn c1).toNat) by rw [unhide HT, if_pos rfl, if_neg (by decide), if_neg (by decide), ← RunM.bs_append]; rfl)
      obtain ⟨-, -, -, -, z5⟩ := unhide HB
      have CR := hide (fun W (hW : Env B W) => rwho_yes c1 W hW.laid z5.1 z5.2)
      have hsz : (RunM.bs (RunM.digits (ConnM.turn c1).toNat)).size ≤ 6 := RunM.digits_len (by have := ConnM.turn_hi (x := c1) (by omega); omega)
      have hs6 : (⟨#[119, 101, 108, 99, 111, 109, 101, 32]⟩ : ByteArray).size = 8 := rfl
      generalize RunM.bs (RunM.digits (ConnM.turn c1).toNat) = out at CR HT2 hsz
      clear HT HB z5
      go_enter Tryz.func34, Tryz.ntmps34
      go_wp2_with fail
      refine (unhide C _ (show Below w.heap.size w ((w.alloc _).alloc _) from (by (repeat' (first | exact Below.refl _ _ | refine Below.alloc ?_ ?_ _ | refine Below.setCell ?_ ?_ _ | refine Below.drew ?_)); all_goals (first | exact Nat.le_refl _ | omega | (simp; done) | (simp; omega))))).mono ?_
      rintro e w1 ⟨rfl, hs⟩
      have HS := hide (SStep.behind (show Below w.heap.size w ((w.alloc _).alloc _) from (by (repeat' (first | exact Below.refl _ _ | refine Below.alloc ?_ ?_ _ | refine Below.setCell ?_ ?_ _ | refine Below.drew ?_)); all_goals (first | exact Nat.le_refl _ | omega | (simp; done) | (simp; omega)))) hs)
      clear hs
      have HE1 := hide (((unhide HE).srv (unhide HS) (unhide H0)).later (below_alloc (Below.refl _ _) (.cells #[.int .i64 1, .int .i64 n1, .int .i64 n2, .int .i64 n3, .int .i64 n4, .int .i64 0, .int .i64 c1, .bool sb] 104)))
      go_wp2_with fail
      refine (unhide CR _ (unhide HE1)).mono ?_
      rintro e w2 ⟨rfl, hb2⟩
      have HB2 := hide (bel3 (Below.refl _ _) (below_alloc (Below.refl _ _) _) hb2)
      clear hb2
      go_wp2
      go_ret2
      exact ⟨congrArg (fun q => Ending.returned (Value.tuple #[.string q, .nilIface])) (unhide HT2).symm, (unhide HS).ahead (unhide HB2)⟩
    · clear ka
      have HT2 := hide (show RunM.bs T = (⟨#[98, 117, 115, 121]⟩ : ByteArray) by rw [unhide HT, if_pos rfl, if_neg (by decide), if_pos rfl]; rfl)
      clear HT HB
      go_enter Tryz.func34, Tryz.ntmps34
      go_wp2_with fail
      refine (unhide C _ (show Below w.heap.size w ((w.alloc _).alloc _) from (by (repeat' (first | exact Below.refl _ _ | refine Below.alloc ?_ ?_ _ | refine Below.setCell ?_ ?_ _ | refine Below.drew ?_)); all_goals (first | exact Nat.le_refl _ | omega | (simp; done) | (simp; omega))))).mono ?_
      rintro e w1 ⟨rfl, hs⟩
      have HS := hide (SStep.behind (show Below w.heap.size w ((w.alloc _).alloc _) from (by (repeat' (first | exact Below.refl _ _ | refine Below.alloc ?_ ?_ _ | refine Below.setCell ?_ ?_ _ | refine Below.drew ?_)); all_goals (first | exact Nat.le_refl _ | omega | (simp; done) | (simp; omega)))) hs)
      clear hs
      go_wp2
      go_ret2
      exact ⟨congrArg (fun q => Ending.returned (Value.tuple #[.string q, .nilIface])) (unhide HT2).symm, (unhide HS).ahead (below_alloc (Below.refl _ _) _)⟩
  · rw [errV_pos hE0] at C ⊢
    have HT2 := hide (show RunM.bs T = (⟨#[]⟩ : ByteArray) by rw [unhide HT, if_neg hE0]; rfl)
    clear HT HB ka hE0
    go_enter Tryz.func34, Tryz.ntmps34
    go_wp2_with fail
    refine (unhide C _ (show Below w.heap.size w ((w.alloc _).alloc _) from (by (repeat' (first | exact Below.refl _ _ | refine Below.alloc ?_ ?_ _ | refine Below.setCell ?_ ?_ _ | refine Below.drew ?_)); all_goals (first | exact Nat.le_refl _ | omega | (simp; done) | (simp; omega))))).mono ?_
    rintro e w1 ⟨rfl, hs⟩
    have HS := hide (SStep.behind (show Below w.heap.size w ((w.alloc _).alloc _) from (by (repeat' (first | exact Below.refl _ _ | refine Below.alloc ?_ ?_ _ | refine Below.setCell ?_ ?_ _ | refine Below.drew ?_)); all_goals (first | exact Nat.le_refl _ | omega | (simp; done) | (simp; omega)))) hs)
    clear hs
    go_wp2
    go_ret2
    exact ⟨congrArg (fun q => Ending.returned (Value.tuple #[.string q, .iface 85 (.int .i64 E)])) (unhide HT2).symm, (unhide HS).ahead (below_alloc (Below.refl _ _) _)⟩
set_option maxHeartbeats 3200000 in
set_option maxRecDepth 8000 in
theorem dticket_any {B s mb : Nat} {F : List Nat} {x : ServM.St} (u : Int) (w : World) (g : ServM.Good x) (h0 : SOwn B w s F x) (hE : Env B w) (hu : 0 ≤ u ∧ u < 1000000) :
    Calls Tryz.prog 35 #[.agg #[.pointer (some ⟨s, 0, none⟩), .map (some mb)], .int .i64 u] w fun e w' => e = .returned (.tuple #[.string (RunM.bs (RunM.ticketT x u)), errV (ServM.tErr x u)]) ∧ SStep B w w' s F (ServM.tick x u) := by
  have H0 := hide h0
  have HE := hide hE
  obtain ⟨b1, b2, b3, b4⟩ := RunM.ticket_bds g hu
  have C := hide (fun W (hW : Below w.heap.size w W) => sticket_any (u := u) W (h0.later hW) g)
  have HT : Hid (RunM.ticketT x u = if ServM.tErr x u = 0 then RunM.row [(ServM.tEp x u).toNat, (ServM.tNo x u).toNat, (ServM.tUn x u).toNat, (ServM.tTg x u).toNat] else []) := hide (by
    unfold RunM.ticketT RunM.ticket
    by_cases q : ServM.tErr x u = 0
    · rw [if_pos q, if_pos q, if_neg (fun e => e q)]
    · rw [if_neg q, if_neg q])
  generalize RunM.ticketT x u = T at HT ⊢
  generalize ServM.tErr x u = E at HT C ⊢
  generalize ServM.tEp x u = n1 at HT C b1
  generalize ServM.tNo x u = n2 at HT C b2
  generalize ServM.tUn x u = n3 at HT C b3
  generalize ServM.tTg x u = n4 at HT C b4
  generalize ServM.tick x u = y at C ⊢
  have HB := hide (And.intro b1 (And.intro b2 (And.intro b3 b4)))
  clear hu b1 b2 b3 b4 g h0 hE
  by_cases hE0 : E = 0
  · subst hE0
    rw [errV_zero rfl] at C ⊢
    have HT2 := hide (show RunM.bs T = RunM.bs (RunM.row [n1.toNat, n2.toNat, n3.toNat, n4.toNat]) by rw [unhide HT, if_pos rfl])
    obtain ⟨z1, z2, z3, z4⟩ := unhide HB
    have CR := hide (fun W V (hW : Env B W) (hV : W.heap.size = V) => four_row (T := 3) hW hV z1 z2 z3 z4)
    generalize RunM.bs (RunM.row [n1.toNat, n2.toNat, n3.toNat, n4.toNat]) = out at CR HT2
    clear HT HB z1 z2 z3 z4
    go_enter Tryz.func35, Tryz.ntmps35
    go_wp2_with fail
    refine (unhide C _ (show Below w.heap.size w (w.alloc _) from (by (repeat' (first | exact Below.refl _ _ | refine Below.alloc ?_ ?_ _ | refine Below.setCell ?_ ?_ _ | refine Below.drew ?_)); all_goals (first | exact Nat.le_refl _ | omega | (simp; done) | (simp; omega))))).mono ?_
    rintro e w1 ⟨rfl, hs⟩
    have HS := hide (SStep.behind (show Below w.heap.size w (w.alloc _) from (by (repeat' (first | exact Below.refl _ _ | refine Below.alloc ?_ ?_ _ | refine Below.setCell ?_ ?_ _ | refine Below.drew ?_)); all_goals (first | exact Nat.le_refl _ | omega | (simp; done) | (simp; omega)))) hs)
    clear hs
    have HE1 := hide (((unhide HE).srv (unhide HS) (unhide H0)).later (below_alloc (Below.refl _ _) (.cells #[.int .i64 n1, .int .i64 n2, .int .i64 n3, .int .i64 n4] 71)))
    go_wp2_with fail
    refine (unhide CR _ _ (unhide HE1) (by simp)).mono ?_
    rintro e w2 ⟨rfl, hb2⟩
    have HB2 := hide (bel3 (Below.refl _ _) (below_alloc (Below.refl _ _) _) hb2)
    clear hb2
    go_wp2
    go_ret2
    exact ⟨congrArg (fun q => Ending.returned (Value.tuple #[.string q, .nilIface])) (unhide HT2).symm, (unhide HS).ahead (unhide HB2)⟩
  · rw [errV_pos hE0] at C ⊢
    have HT2 := hide (show RunM.bs T = (⟨#[]⟩ : ByteArray) by rw [unhide HT, if_neg hE0]; rfl)
    clear HT HB hE0
    go_enter Tryz.func35, Tryz.ntmps35
    go_wp2_with fail
    refine (unhide C _ (show Below w.heap.size w (w.alloc _) from (by (repeat' (first | exact Below.refl _ _ | refine Below.alloc ?_ ?_ _ | refine Below.setCell ?_ ?_ _ | refine Below.drew ?_)); all_goals (first | exact Nat.le_refl _ | omega | (simp; done) | (simp; omega))))).mono ?_
    rintro e w1 ⟨rfl, hs⟩
    have HS := hide (SStep.behind (show Below w.heap.size w (w.alloc _) from (by (repeat' (first | exact Below.refl _ _ | refine Below.alloc ?_ ?_ _ | refine Below.setCell ?_ ?_ _ | refine Below.drew ?_)); all_goals (first | exact Nat.le_refl _ | omega | (simp; done) | (simp; omega)))) hs)
    clear hs
    go_wp2
    go_ret2
    exact ⟨congrArg (fun q => Ending.returned (Value.tuple #[.string q, .iface 85 (.int .i64 E)])) (unhide HT2).symm, (unhide HS).ahead (below_alloc (Below.refl _ _) _)⟩
end Go.Proofs.YthaicpepgianpakGreatDoor
