/-
  The desk's answer to a line: what it hands back, what it leaves of the server.
-/
import Derived.Test.YthaicpepgianpakGreatDoorJoinedRunMap
import Derived.Deep.RegionHeld3
import Derived.Deep.DrawnRows
namespace Go.Proofs.YthaicpepgianpakGreatDoor
open Go.RowKit
set_option linter.unusedVariables false

/-- What is handed back for a line comes to this answer. -/
def AnsOut (e : Ending) (out : List UInt8) : Prop :=
  (e = .returned (.tuple #[.string (RunM.bs out), .nilIface])) ∨
  (∃ t E, e = .returned (.tuple #[.string t, .iface 85 (.int .i64 E)]) ∧ RunM.name E = out) ∨
  (∃ t, e = .returned (.tuple #[.string t, .iface 101 (.agg #[.int .i64 2])]) ∧ out = RunM.tBad)
theorem AnsOut.err {t T out : List UInt8} {E : Int} (h0 : E = 0 → T = out) (h1 : ¬ E = 0 → RunM.name E = out) : AnsOut (.returned (.tuple #[.string (RunM.bs T), errV E])) out := by
  by_cases h : E = 0
  · rw [h, errV_zero rfl, h0 h]; exact .inl rfl
  · rw [errV_pos h]; exact .inr (.inl ⟨_, _, rfl, h1 h⟩)
theorem word_eq (p L : List UInt8) : ((RunM.bs p).toList == L) = decide (p = L) := by
  rw [ByteArray.toList_eq]
  show (p == L) = _
  by_cases h : p = L
  · simp [h]
  · simp [h]
namespace RunM
theorem wants_none {p : List UInt8} (h1 : ¬ p = wHello) (h2 : ¬ p = wAgain) (h3 : ¬ p = wTicket) (h4 : ¬ p = wPull) (h5 : ¬ p = wTurn) (h6 : ¬ p = wCrash) (h7 : ¬ p = wWaiting) : wants p = none := by
  unfold wants
  rw [if_neg h1, if_neg h2, if_neg h3, if_neg (by rintro (q | q | q | q) <;> contradiction)]
theorem act_none {x : ServM.St} {p : List UInt8} {n : List Nat} (h1 : ¬ p = wHello) (h2 : ¬ p = wAgain) (h3 : ¬ p = wTicket) (h4 : ¬ p = wPull) (h5 : ¬ p = wTurn) (h6 : ¬ p = wCrash) (h7 : ¬ p = wWaiting) : act x p n = (x, tBad) := by
  unfold act
  rw [if_neg h1, if_neg h2, if_neg h3, if_neg h4, if_neg h5, if_neg h6, if_neg h7]
theorem line_yes {x : ServM.St} {l p : List UInt8} {r : List (List UInt8)} {ns : List Nat} (hc : cut 32 l = p :: r) (h1 : r.length = wantsP p) (h2 : nums r = some ns) : line x l = act x p ns := by
  unfold line
  rw [hc]
  show pieces x p r = _
  unfold pieces
  by_cases hw : wants p = none
  · rw [hw, if_neg (by simp)]
    have hn : ∀ L k, wants L = some k → ¬ p = L := fun L k hk e => by rw [e, hk] at hw; cases hw
    exact (act_none (hn _ 2 rfl) (hn _ 6 rfl) (hn _ 1 rfl) (hn _ 0 rfl) (hn _ 0 rfl) (hn _ 0 rfl) (hn _ 0 rfl)).symm
  · obtain ⟨k, hk⟩ := Option.ne_none_iff_exists'.1 hw
    have e : wantsP p = k := by unfold wantsP; rw [hk]; rfl
    rw [hk, if_pos (by rw [h1, e]), h2]
theorem line_bad {x : ServM.St} {l p : List UInt8} {r : List (List UInt8)} (hc : cut 32 l = p :: r) (h : ¬ r.length = wantsP p ∨ nums r = none) : line x l = (x, tBad) := by
  unfold line
  rw [hc]
  show pieces x p r = _
  unfold pieces
  by_cases hw : wants p = some r.length
  · rw [if_pos hw]
    have e : wantsP p = r.length := by unfold wantsP; rw [hw]; rfl
    rw [h.resolve_left (fun k => k e.symm)]
  · rw [if_neg hw]
theorem two {ns : List Nat} (h : ns.length = 2) : ∃ a b, ns = [a, b] := by
  match ns, h with
  | [a, b], _ => exact ⟨a, b, rfl⟩
theorem one {ns : List Nat} (h : ns.length = 1) : ∃ a, ns = [a] := by
  match ns, h with
  | [a], _ => exact ⟨a, rfl⟩
theorem six {ns : List Nat} (h : ns.length = 6) : ∃ a b c d e f, ns = [a, b, c, d, e, f] := by
  match ns, h with
  | [a, b, c, d, e, f], _ => exact ⟨a, b, c, d, e, f, rfl⟩
end RunM
theorem SStep.kept9 {B : Nat} {w w' : World} {s : Nat} {F : List Nat} {x : ServM.St} (h : SStep B w w' s F x) : Kept F w w' := by
  obtain ⟨_, _, _, h3⟩ := h
  exact h3

set_option maxHeartbeats 12800000 in
set_option maxRecDepth 8000 in
theorem ranswer_any {B s mb : Nat} {F : List Nat} {x : ServM.St} {l : ByteArray} (w : World) (g : ServM.Good x) (h0 : SOwn B w s F x) (hE : Env B w) (hm : MapIs w mb) (hs : l.size ≤ 3000) :
    Calls Tryz.prog 14 #[.agg #[.pointer (some ⟨s, 0, none⟩), .map (some mb)], .string l] w fun e w' => AnsOut e (RunM.line x l.data.toList).2 ∧ SStep B w w' s F (RunM.line x l.data.toList).1 := by
  obtain ⟨p, r, hc⟩ : ∃ p r, RunM.cut 32 l.data.toList = p :: r := by
    cases hq : RunM.cut 32 l.data.toList with
    | nil => exact absurd hq (RunM.cut_ne _ _)
    | cons p r => exact ⟨p, r, rfl⟩
  have C := hide (fun W (hW : Below w.heap.size w W) => rread_any (s := s) (mb := mb) W hs (hE.later hW).laid (hm.later hW) hc)
  have HC := hide hc
  have H0 := hide h0
  have HE := hide hE
  have HG := hide g
  clear hc h0 hE hm hs g
  go_enter Tryz.func14, Tryz.ntmps14
  go_wp2_with fail
  refine (unhide C _ (show Below w.heap.size w (w.alloc _) from (by (repeat' (first | exact Below.refl _ _ | refine Below.alloc ?_ ?_ _ | refine Below.setCell ?_ ?_ _ | refine Below.drew ?_)); all_goals (first | exact Nat.le_refl _ | omega | (simp; done) | (simp; omega))))).mono ?_
  rintro e w1 ⟨hr, hb1⟩
  have HB1 := hide (bel3 (Below.refl _ _) (show Below w.heap.size w (w.alloc _) from (by (repeat' (first | exact Below.refl _ _ | refine Below.alloc ?_ ?_ _ | refine Below.setCell ?_ ?_ _ | refine Below.drew ?_)); all_goals (first | exact Nat.le_refl _ | omega | (simp; done) | (simp; omega)))) hb1)
  have HD := hide ((Held.fresh (w := w) [.pointer (some ⟨s, 0, none⟩), .map (some mb)] 34 rfl).later hb1)
  have H1 := hide ((unhide H0).later (unhide HB1))
  have HE1 := hide ((unhide HE).later (unhide HB1))
  clear hb1 C
  rcases hr with ⟨ns, a, c, hlen, hnum, rfl, hi, hnr⟩ | ⟨hbad, rfl⟩
  · have HL := hide (RunM.line_yes (x := x) (unhide HC) hlen hnum)
    have HLT := hide (RunM.nums_lt hnum)
    have hnl := (RunM.nums_len hnum).trans hlen
    have HI := hide hi
    have HNR := hide hnr
    have fnF : ∀ k, k ∈ F → k < w.heap.size := fun k hk => ((unhide H0).all k hk).2
    have HF := hide fnF
    clear hlen hnum hi hnr HC fnF
    obtain ⟨d0, d1⟩ := (unhide HD).c2.1
    have dl := (unhide HD).2
    by_cases h0 : p = RunM.wHello
    · obtain ⟨n0, n1, rfl⟩ := RunM.two (hnl.trans (by rw [h0]; rfl))
      have k0 : ((RunM.bs p).toList == [104, 101, 108, 108, 111]) = true := (word_eq p _).trans (decide_eq_true h0)
      obtain ⟨bb, off, rfl, hcs⟩ := (unhide HI).row (by simp)
      have hbF : bb ∉ F := fun hm => by have q1 := unhide HNR bb off rfl; have q2 := unhide HF bb hm; simp at q1; omega
      have hdF : w.heap.size ∉ F := fun hm => by have q2 := unhide HF _ hm; omega
      have c0 : w1.cell? ⟨bb, off, none⟩ = some (.int .i64 (n0 : Int)) := hcs 0 (by simp)
      have b0 := unhide HLT n0 (by simp)
      have c1 : w1.cell? ⟨bb, off + 1, none⟩ = some (.int .i64 (n1 : Int)) := hcs 1 (by simp)
      have b1 := unhide HLT n1 (by simp)
      clear hcs
      have CH := hide (fun (W : World) (hW : Below w1.heap.size w1 W) => dhello_any (mb := mb) (RunM.hi n0 0 0 0 0) (n1 : Int) W (unhide HG) ((unhide H1).later hW) ((unhide HE1).later hW) ⟨by simp [RunM.hi], by simp [RunM.hi]; omega⟩ ⟨by omega, by omega⟩)
      have hact : RunM.line x l.data.toList = (ServM.next x (RunM.hi n0 0 0 0 0) n1, RunM.greet x (RunM.hi n0 0 0 0 0) n1) := (unhide HL).trans (by rw [h0]; rfl)
      have HA := hide hact
      clear hact h0 HL hnl HI HNR HLT
      go_wp2
      have RS : Hid (∀ W : World, Kept F w1 W → Hid (Kept F w1 W) ∧ W.cell? ⟨w.heap.size, 0, none⟩ = some (.pointer (some ⟨s, 0, none⟩)) ∧ W.cell? ⟨w.heap.size, 1, none⟩ = some (.map (some mb)) ∧ W.cell? ⟨bb, off, none⟩ = some (.int .i64 (n0 : Int)) ∧ W.cell? ⟨bb, off + 1, none⟩ = some (.int .i64 (n1 : Int))) := hide (fun W hk => ⟨hide hk, (hk.cell (World.block_lt_of_cell? _ _ d0) hdF).trans d0, (hk.cell (World.block_lt_of_cell? _ _ d1) hdF).trans d1, (hk.cell (World.block_lt_of_cell? _ _ c0) hbF).trans c0, (hk.cell (World.block_lt_of_cell? _ _ c1) hbF).trans c1⟩)
      have hR0 : Hid (Kept F w1 w1.drew) ∧ w1.drew.cell? ⟨w.heap.size, 0, none⟩ = some (.pointer (some ⟨s, 0, none⟩)) ∧ w1.drew.cell? ⟨w.heap.size, 1, none⟩ = some (.map (some mb)) ∧ w1.drew.cell? ⟨bb, off, none⟩ = some (.int .i64 (n0 : Int)) ∧ w1.drew.cell? ⟨bb, off + 1, none⟩ = some (.int .i64 (n1 : Int)) := unhide RS _ (Kept.refl _ _).drew
      go_region_held3 (fun w' => Hid (Kept F w1 w') ∧ w'.cell? ⟨w.heap.size, 0, none⟩ = some (.pointer (some ⟨s, 0, none⟩)) ∧ w'.cell? ⟨w.heap.size, 1, none⟩ = some (.map (some mb)) ∧ w'.cell? ⟨bb, off, none⟩ = some (.int .i64 (n0 : Int)) ∧ w'.cell? ⟨bb, off + 1, none⟩ = some (.int .i64 (n1 : Int))) (with_reducible assumption)
        (first | (go_at_call 34; refine (unhide CH _ (below_drew (Below.refl _ _))).mono ?_; rintro e w' ⟨rfl, hs⟩; have hS3 : Hid (Kept F w1 w') ∧ w'.cell? ⟨w.heap.size, 0, none⟩ = some (.pointer (some ⟨s, 0, none⟩)) ∧ w'.cell? ⟨w.heap.size, 1, none⟩ = some (.map (some mb)) ∧ w'.cell? ⟨bb, off, none⟩ = some (.int .i64 (n0 : Int)) ∧ w'.cell? ⟨bb, off + 1, none⟩ = some (.int .i64 (n1 : Int)) := unhide RS w' (Kept.trans (Kept.refl _ _).drew hs.kept9)))
      go_wp2
      go_ret2
      rw [unhide HA]
      exact ⟨AnsOut.err (t := []) (fun e => by unfold RunM.helloT; rw [if_pos e]) (fun e => by unfold RunM.greet; rw [if_pos e]), SStep.behind (unhide HB1) (SStep.behind (below_drew (Below.refl _ _)) hs)⟩
    by_cases h1 : p = RunM.wAgain
    · obtain ⟨n0, n1, n2, n3, n4, n5, rfl⟩ := RunM.six (hnl.trans (by rw [h1]; rfl))
      have k0 : ((RunM.bs p).toList == [104, 101, 108, 108, 111]) = false := (word_eq p _).trans (decide_eq_false h0)
      have k1 : ((RunM.bs p).toList == [97, 103, 97, 105, 110]) = true := (word_eq p _).trans (decide_eq_true h1)
      obtain ⟨bb, off, rfl, hcs⟩ := (unhide HI).row (by simp)
      have hbF : bb ∉ F := fun hm => by have q1 := unhide HNR bb off rfl; have q2 := unhide HF bb hm; simp at q1; omega
      have hdF : w.heap.size ∉ F := fun hm => by have q2 := unhide HF _ hm; omega
      have c0 : w1.cell? ⟨bb, off, none⟩ = some (.int .i64 (n0 : Int)) := hcs 0 (by simp)
      have b0 := unhide HLT n0 (by simp)
      have c1 : w1.cell? ⟨bb, off + 1, none⟩ = some (.int .i64 (n1 : Int)) := hcs 1 (by simp)
      have b1 := unhide HLT n1 (by simp)
      have c2 : w1.cell? ⟨bb, off + 2, none⟩ = some (.int .i64 (n2 : Int)) := hcs 2 (by simp)
      have b2 := unhide HLT n2 (by simp)
      have c3 : w1.cell? ⟨bb, off + 3, none⟩ = some (.int .i64 (n3 : Int)) := hcs 3 (by simp)
      have b3 := unhide HLT n3 (by simp)
      have c4 : w1.cell? ⟨bb, off + 4, none⟩ = some (.int .i64 (n4 : Int)) := hcs 4 (by simp)
      have b4 := unhide HLT n4 (by simp)
      have c5 : w1.cell? ⟨bb, off + 5, none⟩ = some (.int .i64 (n5 : Int)) := hcs 5 (by simp)
      have b5 := unhide HLT n5 (by simp)
      clear hcs
      have CH := hide (fun (W : World) (hW : Below w1.heap.size w1 W) => dhello_any (mb := mb) (RunM.hi n0 n1 n2 n3 n4) (n5 : Int) W (unhide HG) ((unhide H1).later hW) ((unhide HE1).later hW) ⟨by simp [RunM.hi], by simp [RunM.hi]; omega⟩ ⟨by omega, by omega⟩)
      have hact : RunM.line x l.data.toList = (ServM.next x (RunM.hi n0 n1 n2 n3 n4) n5, RunM.greet x (RunM.hi n0 n1 n2 n3 n4) n5) := (unhide HL).trans (by rw [h1]; rfl)
      have HA := hide hact
      clear hact h0 h1 HL hnl HI HNR HLT
      go_wp2
      have RS : Hid (∀ W : World, Kept F w1 W → Hid (Kept F w1 W) ∧ W.cell? ⟨w.heap.size, 0, none⟩ = some (.pointer (some ⟨s, 0, none⟩)) ∧ W.cell? ⟨w.heap.size, 1, none⟩ = some (.map (some mb)) ∧ W.cell? ⟨bb, off, none⟩ = some (.int .i64 (n0 : Int)) ∧ W.cell? ⟨bb, off + 1, none⟩ = some (.int .i64 (n1 : Int)) ∧ W.cell? ⟨bb, off + 2, none⟩ = some (.int .i64 (n2 : Int)) ∧ W.cell? ⟨bb, off + 3, none⟩ = some (.int .i64 (n3 : Int)) ∧ W.cell? ⟨bb, off + 4, none⟩ = some (.int .i64 (n4 : Int)) ∧ W.cell? ⟨bb, off + 5, none⟩ = some (.int .i64 (n5 : Int))) := hide (fun W hk => ⟨hide hk, (hk.cell (World.block_lt_of_cell? _ _ d0) hdF).trans d0, (hk.cell (World.block_lt_of_cell? _ _ d1) hdF).trans d1, (hk.cell (World.block_lt_of_cell? _ _ c0) hbF).trans c0, (hk.cell (World.block_lt_of_cell? _ _ c1) hbF).trans c1, (hk.cell (World.block_lt_of_cell? _ _ c2) hbF).trans c2, (hk.cell (World.block_lt_of_cell? _ _ c3) hbF).trans c3, (hk.cell (World.block_lt_of_cell? _ _ c4) hbF).trans c4, (hk.cell (World.block_lt_of_cell? _ _ c5) hbF).trans c5⟩)
      have hR0 : Hid (Kept F w1 w1.drew) ∧ w1.drew.cell? ⟨w.heap.size, 0, none⟩ = some (.pointer (some ⟨s, 0, none⟩)) ∧ w1.drew.cell? ⟨w.heap.size, 1, none⟩ = some (.map (some mb)) ∧ w1.drew.cell? ⟨bb, off, none⟩ = some (.int .i64 (n0 : Int)) ∧ w1.drew.cell? ⟨bb, off + 1, none⟩ = some (.int .i64 (n1 : Int)) ∧ w1.drew.cell? ⟨bb, off + 2, none⟩ = some (.int .i64 (n2 : Int)) ∧ w1.drew.cell? ⟨bb, off + 3, none⟩ = some (.int .i64 (n3 : Int)) ∧ w1.drew.cell? ⟨bb, off + 4, none⟩ = some (.int .i64 (n4 : Int)) ∧ w1.drew.cell? ⟨bb, off + 5, none⟩ = some (.int .i64 (n5 : Int)) := unhide RS _ (Kept.refl _ _).drew
      go_region_held3 (fun w' => Hid (Kept F w1 w') ∧ w'.cell? ⟨w.heap.size, 0, none⟩ = some (.pointer (some ⟨s, 0, none⟩)) ∧ w'.cell? ⟨w.heap.size, 1, none⟩ = some (.map (some mb)) ∧ w'.cell? ⟨bb, off, none⟩ = some (.int .i64 (n0 : Int)) ∧ w'.cell? ⟨bb, off + 1, none⟩ = some (.int .i64 (n1 : Int)) ∧ w'.cell? ⟨bb, off + 2, none⟩ = some (.int .i64 (n2 : Int)) ∧ w'.cell? ⟨bb, off + 3, none⟩ = some (.int .i64 (n3 : Int)) ∧ w'.cell? ⟨bb, off + 4, none⟩ = some (.int .i64 (n4 : Int)) ∧ w'.cell? ⟨bb, off + 5, none⟩ = some (.int .i64 (n5 : Int))) (with_reducible assumption)
        (first | (go_at_call 34; refine (unhide CH _ (below_drew (Below.refl _ _))).mono ?_; rintro e w' ⟨rfl, hs⟩; have hS3 : Hid (Kept F w1 w') ∧ w'.cell? ⟨w.heap.size, 0, none⟩ = some (.pointer (some ⟨s, 0, none⟩)) ∧ w'.cell? ⟨w.heap.size, 1, none⟩ = some (.map (some mb)) ∧ w'.cell? ⟨bb, off, none⟩ = some (.int .i64 (n0 : Int)) ∧ w'.cell? ⟨bb, off + 1, none⟩ = some (.int .i64 (n1 : Int)) ∧ w'.cell? ⟨bb, off + 2, none⟩ = some (.int .i64 (n2 : Int)) ∧ w'.cell? ⟨bb, off + 3, none⟩ = some (.int .i64 (n3 : Int)) ∧ w'.cell? ⟨bb, off + 4, none⟩ = some (.int .i64 (n4 : Int)) ∧ w'.cell? ⟨bb, off + 5, none⟩ = some (.int .i64 (n5 : Int)) := unhide RS w' (Kept.trans (Kept.refl _ _).drew hs.kept9)))
      go_wp2
      go_ret2
      rw [unhide HA]
      exact ⟨AnsOut.err (t := []) (fun e => by unfold RunM.helloT; rw [if_pos e]) (fun e => by unfold RunM.greet; rw [if_pos e]), SStep.behind (unhide HB1) (SStep.behind (below_drew (Below.refl _ _)) hs)⟩
    by_cases h2 : p = RunM.wTicket
    · obtain ⟨n0, rfl⟩ := RunM.one (hnl.trans (by rw [h2]; rfl))
      have k0 : ((RunM.bs p).toList == [104, 101, 108, 108, 111]) = false := (word_eq p _).trans (decide_eq_false h0)
      have k1 : ((RunM.bs p).toList == [97, 103, 97, 105, 110]) = false := (word_eq p _).trans (decide_eq_false h1)
      have k2 : ((RunM.bs p).toList == [116, 105, 99, 107, 101, 116]) = true := (word_eq p _).trans (decide_eq_true h2)
      obtain ⟨bb, off, rfl, hcs⟩ := (unhide HI).row (by simp)
      have hbF : bb ∉ F := fun hm => by have q1 := unhide HNR bb off rfl; have q2 := unhide HF bb hm; simp at q1; omega
      have hdF : w.heap.size ∉ F := fun hm => by have q2 := unhide HF _ hm; omega
      have c0 : w1.cell? ⟨bb, off, none⟩ = some (.int .i64 (n0 : Int)) := hcs 0 (by simp)
      have b0 := unhide HLT n0 (by simp)
      clear hcs
      have CH := hide (fun (W : World) (hW : Below w1.heap.size w1 W) => dticket_any (mb := mb) (n0 : Int) W (unhide HG) ((unhide H1).later hW) ((unhide HE1).later hW) ⟨by omega, by omega⟩)
      have hact : RunM.line x l.data.toList = (ServM.tick x n0, RunM.ticket x n0) := (unhide HL).trans (by rw [h2]; rfl)
      have HA := hide hact
      clear hact h0 h1 h2 HL hnl HI HNR HLT
      go_wp2
      have RS : Hid (∀ W : World, Kept F w1 W → Hid (Kept F w1 W) ∧ W.cell? ⟨w.heap.size, 0, none⟩ = some (.pointer (some ⟨s, 0, none⟩)) ∧ W.cell? ⟨w.heap.size, 1, none⟩ = some (.map (some mb)) ∧ W.cell? ⟨bb, off, none⟩ = some (.int .i64 (n0 : Int))) := hide (fun W hk => ⟨hide hk, (hk.cell (World.block_lt_of_cell? _ _ d0) hdF).trans d0, (hk.cell (World.block_lt_of_cell? _ _ d1) hdF).trans d1, (hk.cell (World.block_lt_of_cell? _ _ c0) hbF).trans c0⟩)
      have hR0 : Hid (Kept F w1 w1.drew) ∧ w1.drew.cell? ⟨w.heap.size, 0, none⟩ = some (.pointer (some ⟨s, 0, none⟩)) ∧ w1.drew.cell? ⟨w.heap.size, 1, none⟩ = some (.map (some mb)) ∧ w1.drew.cell? ⟨bb, off, none⟩ = some (.int .i64 (n0 : Int)) := unhide RS _ (Kept.refl _ _).drew
      go_region_held3 (fun w' => Hid (Kept F w1 w') ∧ w'.cell? ⟨w.heap.size, 0, none⟩ = some (.pointer (some ⟨s, 0, none⟩)) ∧ w'.cell? ⟨w.heap.size, 1, none⟩ = some (.map (some mb)) ∧ w'.cell? ⟨bb, off, none⟩ = some (.int .i64 (n0 : Int))) (with_reducible assumption)
        (first | (go_at_call 35; refine (unhide CH _ (below_drew (Below.refl _ _))).mono ?_; rintro e w' ⟨rfl, hs⟩; have hS3 : Hid (Kept F w1 w') ∧ w'.cell? ⟨w.heap.size, 0, none⟩ = some (.pointer (some ⟨s, 0, none⟩)) ∧ w'.cell? ⟨w.heap.size, 1, none⟩ = some (.map (some mb)) ∧ w'.cell? ⟨bb, off, none⟩ = some (.int .i64 (n0 : Int)) := unhide RS w' (Kept.trans (Kept.refl _ _).drew hs.kept9)))
      go_wp2
      go_ret2
      rw [unhide HA]
      exact ⟨AnsOut.err (t := []) (fun e => by unfold RunM.ticketT; rw [if_pos e]) (fun e => by unfold RunM.ticket; rw [if_pos e]), SStep.behind (unhide HB1) (SStep.behind (below_drew (Below.refl _ _)) hs)⟩
    by_cases h3 : p = RunM.wPull
    · have hact : RunM.line x l.data.toList = (ServM.pull x, RunM.pull x) := (unhide HL).trans (by rw [h3]; rfl)
      have HA := hide hact
      have k0 : ((RunM.bs p).toList == [104, 101, 108, 108, 111]) = false := (word_eq p _).trans (decide_eq_false h0)
      have k1 : ((RunM.bs p).toList == [97, 103, 97, 105, 110]) = false := (word_eq p _).trans (decide_eq_false h1)
      have k2 : ((RunM.bs p).toList == [116, 105, 99, 107, 101, 116]) = false := (word_eq p _).trans (decide_eq_false h2)
      have k3 : ((RunM.bs p).toList == [112, 117, 108, 108]) = true := (word_eq p _).trans (decide_eq_true h3)
      have CH := hide (spull_any w1 (unhide HG) (unhide H1))
      clear hact h0 h1 h2 h3 HL hnl HI HNR HLT
      by_cases hL : x.L = []
      · have hT : RunM.pull x = RunM.name 5 := by unfold RunM.pull; rw [hL]
        have hpe : ServM.pE x = 5 := if_pos hL
        rw [hpe, errV_pos (by omega)] at CH
        have HT := hide hT
        clear hT hpe hL
        go_wp2_with fail
        refine (unhide CH).mono ?_
        rintro e w2 ⟨rfl, hs⟩
        have HS := hide hs
        clear hs d0 d1 dl HD
        go_wp2_with fail
        refine (rwho_no _ _ _ _ _).mono ?_
        rintro e w3 ⟨rfl, hb3⟩
        have HB3 := hide hb3
        clear hb3
        go_wp2
        go_ret2
        rw [unhide HA]
        exact ⟨.inr (.inl ⟨_, _, rfl, (unhide HT).symm⟩), SStep.behind (unhide HB1) ((unhide HS).ahead (unhide HB3))⟩
      · obtain ⟨m, t, e, m0, m1, hr, hp⟩ := pull_some (unhide HG) hL
        have hT : RunM.pull x = RunM.digits (ConnM.turn m).toNat := by unfold RunM.pull; rw [e]; simp
        have hk1 := (unhide HG).k1
        have hpe : ServM.pE x = 0 := if_neg hL
        rw [hpe, errV_zero rfl, show ServM.pA x = 0 by unfold ServM.pA; rw [e]; rfl, show ServM.pB x = m by unfold ServM.pB; rw [e]; rfl] at CH
        have HT := hide hT
        have CW := hide (fun W (hW : Env B W) => rwho_yes m W hW.laid m0 (by omega))
        clear hT hpe hL e m0 m1 hr hp hk1
        go_wp2_with fail
        refine (unhide CH).mono ?_
        rintro e w2 ⟨rfl, hs⟩
        have HS := hide hs
        have HE2 := hide ((unhide HE1).srv hs (unhide H1))
        clear hs d0 d1 dl HD
        go_wp2_with fail
        refine (unhide CW _ (unhide HE2)).mono ?_
        rintro e w3 ⟨rfl, hb3⟩
        have HB3 := hide hb3
        clear hb3
        go_wp2
        go_ret2
        rw [unhide HA]
        exact ⟨.inl (congrArg (fun q => Ending.returned (Value.tuple #[.string (RunM.bs q), .nilIface])) (unhide HT).symm), SStep.behind (unhide HB1) ((unhide HS).ahead (unhide HB3))⟩
    by_cases h4 : p = RunM.wTurn
    · have hact : RunM.line x l.data.toList = (ServM.turn x, RunM.turned x) := (unhide HL).trans (by rw [h4]; rfl)
      have HA := hide hact
      have k0 : ((RunM.bs p).toList == [104, 101, 108, 108, 111]) = false := (word_eq p _).trans (decide_eq_false h0)
      have k1 : ((RunM.bs p).toList == [97, 103, 97, 105, 110]) = false := (word_eq p _).trans (decide_eq_false h1)
      have k2 : ((RunM.bs p).toList == [116, 105, 99, 107, 101, 116]) = false := (word_eq p _).trans (decide_eq_false h2)
      have k3 : ((RunM.bs p).toList == [112, 117, 108, 108]) = false := (word_eq p _).trans (decide_eq_false h3)
      have k4 : ((RunM.bs p).toList == [116, 117, 114, 110]) = true := (word_eq p _).trans (decide_eq_true h4)
      have CH := hide (sturn_any w1 (unhide H1))
      clear hact h0 h1 h2 h3 h4 HL hnl HI HNR HLT
      go_wp2_with fail
      refine (unhide CH).mono ?_
      rintro e w2 ⟨rfl, hs⟩
      have HS := hide hs
      clear hs d0 d1 dl HD
      go_wp2
      go_ret2
      rw [unhide HA]
      exact ⟨AnsOut.err (t := []) (T := RunM.tOk) (fun e => by unfold RunM.turned; rw [if_pos e]) (fun e => by unfold RunM.turned; rw [if_neg e]), SStep.behind (unhide HB1) (unhide HS)⟩
    by_cases h5 : p = RunM.wCrash
    · have hact : RunM.line x l.data.toList = (ServM.crash x, RunM.tOk) := (unhide HL).trans (by rw [h5]; rfl)
      have HA := hide hact
      have k0 : ((RunM.bs p).toList == [104, 101, 108, 108, 111]) = false := (word_eq p _).trans (decide_eq_false h0)
      have k1 : ((RunM.bs p).toList == [97, 103, 97, 105, 110]) = false := (word_eq p _).trans (decide_eq_false h1)
      have k2 : ((RunM.bs p).toList == [116, 105, 99, 107, 101, 116]) = false := (word_eq p _).trans (decide_eq_false h2)
      have k3 : ((RunM.bs p).toList == [112, 117, 108, 108]) = false := (word_eq p _).trans (decide_eq_false h3)
      have k4 : ((RunM.bs p).toList == [116, 117, 114, 110]) = false := (word_eq p _).trans (decide_eq_false h4)
      have k5 : ((RunM.bs p).toList == [99, 114, 97, 115, 104]) = true := (word_eq p _).trans (decide_eq_true h5)
      have CH := hide (scrash_any w1 (unhide HG).nm (unhide H1))
      clear hact h0 h1 h2 h3 h4 h5 HL hnl HI HNR HLT
      go_wp2_with fail
      refine (unhide CH).mono ?_
      rintro e w2 ⟨rfl, hs⟩
      have HS := hide hs
      clear hs d0 d1 dl HD
      go_wp2
      go_ret2
      rw [unhide HA]
      exact ⟨.inl rfl, SStep.behind (unhide HB1) (unhide HS)⟩
    by_cases h6 : p = RunM.wWaiting
    · have hact : RunM.line x l.data.toList = (x, RunM.digits x.L.length) := (unhide HL).trans (by rw [h6]; rfl)
      have HA := hide hact
      have k0 : ((RunM.bs p).toList == [104, 101, 108, 108, 111]) = false := (word_eq p _).trans (decide_eq_false h0)
      have k1 : ((RunM.bs p).toList == [97, 103, 97, 105, 110]) = false := (word_eq p _).trans (decide_eq_false h1)
      have k2 : ((RunM.bs p).toList == [116, 105, 99, 107, 101, 116]) = false := (word_eq p _).trans (decide_eq_false h2)
      have k3 : ((RunM.bs p).toList == [112, 117, 108, 108]) = false := (word_eq p _).trans (decide_eq_false h3)
      have k4 : ((RunM.bs p).toList == [116, 117, 114, 110]) = false := (word_eq p _).trans (decide_eq_false h4)
      have k5 : ((RunM.bs p).toList == [99, 114, 97, 115, 104]) = false := (word_eq p _).trans (decide_eq_false h5)
      have k6 : ((RunM.bs p).toList == [119, 97, 105, 116, 105, 110, 103]) = true := (word_eq p _).trans (decide_eq_true h6)
      have hl8 := (unhide HG).len
      have CH := hide (swait_any w1 (unhide H1) hl8)
      have CR := hide (fun W V (hW : Env B W) (hV : W.heap.size = V) => rrow_any [x.L.length] (some ⟨V, 0, none⟩) 1 (W.alloc (.cells #[.int .i64 (x.L.length : Int)] 3)) (hW.later (below_alloc (Below.refl _ _) _)).laid (by intro n hn; rw [List.mem_singleton.1 hn]; omega) (by simp) (by simp) ⟨by simp, fun k hk => by
        obtain rfl : k = 0 := by simpa using hk
        refine ⟨_, _, rfl, ?_⟩
        rw [World.cell?_alloc_at _ _ _ _ (by simp [hV])]
        simp⟩)
      rw [show RunM.row [x.L.length] = RunM.digits x.L.length from rfl] at CR
      clear hact h0 h1 h2 h3 h4 h5 h6 HL hnl HI HNR HLT hl8
      go_wp2_with fail
      refine (unhide CH).mono ?_
      rintro e w2 ⟨rfl, hb2⟩
      have HE2 := hide ((unhide HE1).later hb2)
      have HB2 := hide hb2
      clear hb2 d0 d1 dl HD
      go_wp2_with fail
      refine (unhide CR _ _ (unhide HE2) rfl).mono ?_
      rintro e w3 ⟨rfl, hb3⟩
      have HB3 := hide (bel3 (unhide HB2) (below_alloc (Below.refl _ _) _) hb3)
      clear hb3
      go_wp2
      go_ret2
      rw [unhide HA]
      exact ⟨.inl rfl, SStep.behind (unhide HB1) (SStep.same (unhide H1) (unhide HB3))⟩
    have hact : RunM.line x l.data.toList = (x, RunM.tBad) := (unhide HL).trans (RunM.act_none h0 h1 h2 h3 h4 h5 h6)
    have HA := hide hact
    have k0 : ((RunM.bs p).toList == [104, 101, 108, 108, 111]) = false := (word_eq p _).trans (decide_eq_false h0)
    have k1 : ((RunM.bs p).toList == [97, 103, 97, 105, 110]) = false := (word_eq p _).trans (decide_eq_false h1)
    have k2 : ((RunM.bs p).toList == [116, 105, 99, 107, 101, 116]) = false := (word_eq p _).trans (decide_eq_false h2)
    have k3 : ((RunM.bs p).toList == [112, 117, 108, 108]) = false := (word_eq p _).trans (decide_eq_false h3)
    have k4 : ((RunM.bs p).toList == [116, 117, 114, 110]) = false := (word_eq p _).trans (decide_eq_false h4)
    have k5 : ((RunM.bs p).toList == [99, 114, 97, 115, 104]) = false := (word_eq p _).trans (decide_eq_false h5)
    have k6 : ((RunM.bs p).toList == [119, 97, 105, 116, 105, 110, 103]) = false := (word_eq p _).trans (decide_eq_false h6)
    clear hact h0 h1 h2 h3 h4 h5 h6 HL hnl HI HNR HLT d0 d1 dl HD
    go_wp2
    go_ret2
    rw [unhide HA]
    exact ⟨.inr (.inr ⟨_, rfl, rfl⟩), SStep.behind (unhide HB1) (SStep.same (unhide H1) (Below.refl _ _))⟩
  · have HA := hide (RunM.line_bad (x := x) (unhide HC) hbad)
    clear hbad
    go_wp2
    go_ret2
    rw [unhide HA]
    exact ⟨.inr (.inr ⟨_, rfl, rfl⟩), SStep.behind (unhide HB1) (SStep.same (unhide H1) (Below.refl _ _))⟩
end Go.Proofs.YthaicpepgianpakGreatDoor
