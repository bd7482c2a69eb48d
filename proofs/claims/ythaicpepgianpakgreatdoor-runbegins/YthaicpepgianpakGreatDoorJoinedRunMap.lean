/-
  Texts joined: RunMap RunRead.
-/
import Derived.Test.YthaicpepgianpakGreatDoorRunDesk
import Derived.Maps.Own
import Derived.Maps.OwnOps
namespace Go.Proofs.YthaicpepgianpakGreatDoor
open Go.RowKit
set_option linter.unusedVariables false

theorem keyLaw : Go.Maps.Keyed Tryz.prog 9 := Go.Maps.string_keyed Tryz.underlying9
theorem zeroInt (w : World) : (zeroValue 3).run Tryz.prog w = .ok (.int .i64 0) w := by kernel_rfl
def iv (n : Int) : DataW Unit := .lit (.int .i64 n)
def wantsD : DataW Unit := (((((((DataW.map []).put (.string RunM.wHello) (iv 2)).put (.string RunM.wAgain) (iv 6)).put (.string RunM.wTicket) (iv 1)).put (.string RunM.wPull) (iv 0)).put (.string RunM.wTurn) (iv 0)).put (.string RunM.wCrash) (iv 0)).put (.string RunM.wWaiting) (iv 0)
theorem wantsD_eq : wantsD = .map [(.string RunM.wAgain, iv 6), (.string RunM.wCrash, iv 0), (.string RunM.wHello, iv 2), (.string RunM.wPull, iv 0), (.string RunM.wTicket, iv 1), (.string RunM.wTurn, iv 0), (.string RunM.wWaiting, iv 0)] := by rfl
theorem atKey_wants (l : List UInt8) : wantsD.atKey (.string l) (.lit (.int .i64 0)) = .lit (.int .i64 (((RunM.wants l).getD 0 : Nat) : Int)) := by
  rw [wantsD_eq]
  unfold RunM.wants
  by_cases h1 : l = RunM.wHello
  · subst h1; rfl
  by_cases h2 : l = RunM.wAgain
  · subst h2; rfl
  by_cases h3 : l = RunM.wTicket
  · subst h3; rfl
  by_cases h4 : l = RunM.wPull
  · subst h4; rfl
  by_cases h5 : l = RunM.wTurn
  · subst h5; rfl
  by_cases h6 : l = RunM.wCrash
  · subst h6; rfl
  by_cases h7 : l = RunM.wWaiting
  · subst h7; rfl
  have e : ∀ k : List UInt8, ¬ l = k → Lit.sameKey (.string k) (.string l) = false := fun k hk => by
    simp [Lit.sameKey, Ne.symm hk]
  unfold DataW.atKey
  simp only [List.find?, e _ h1, e _ h2, e _ h3, e _ h4, e _ h5, e _ h6, e _ h7]
  rw [if_neg h1, if_neg h2, if_neg h3, if_neg (by rintro (q | q | q | q) <;> contradiction)]
  rfl
/-- The map lies at mb. -/
def MapIs (w : World) (mb : Nat) : Prop := w.ownsMap Tryz.prog 9 (plainElem (H := Unit) Tryz.prog 3) mb 7 wantsD
theorem MapIs.lt {w : World} {mb : Nat} (h : MapIs w mb) : mb < w.heap.size := World.ownsMap.lt h
theorem MapIs.kept {w w' : World} {mb : Nat} {F : List Nat} (h : MapIs w mb) (hk : Kept F w w') (hn : mb ∉ F) : MapIs w' mb := by
  have hl := h.lt
  obtain ⟨es, clock, hb, r⟩ := h
  exact ⟨es, clock, by rw [hk.block mb hl hn]; exact hb, r⟩
theorem MapIs.later {w w' : World} {mb : Nat} (h : MapIs w mb) (hb : Below w.heap.size w w') : MapIs w' mb := h.kept (F := []) (Kept.of hb) (by simp)
end Go.Proofs.YthaicpepgianpakGreatDoor
namespace Go.Proofs.YthaicpepgianpakGreatDoor
open Go.RowKit
set_option linter.unusedVariables false

/-- How many numbers the map tells for a word. -/
def wantsP (w : List UInt8) : Nat := (RunM.wants w).getD 0
theorem infoInt5 : (Tryz.prog.info? 3).map (fun i => (i.zero, i.size, i.bytes)) = some (some (.int .i64 0), 1, 8) := by kernel_rfl
theorem pcs_get {l : ByteArray} {p : List UInt8} {r : List (List UInt8)} (h : RunM.cut 32 l.data.toList = p :: r) : (pcs l).length = r.length + 1 ∧ (pcs l)[0]? = some (RunM.bs p) ∧ ∀ k q, r[k]? = some q → (pcs l)[1 + k]? = some (RunM.bs q) := by
  unfold pcs
  rw [h]
  refine ⟨by simp, by simp, fun k q hq => ?_⟩
  rw [Nat.add_comm, List.map_cons, List.getElem?_cons_succ, List.getElem?_map, hq]
  rfl
theorem piece_len (c : UInt8) : ∀ (s : List UInt8), ∀ p ∈ RunM.cut c s, p.length ≤ s.length := by
  intro s
  induction s with
  | nil => intro p hp; simp [RunM.cut] at hp; simp [hp]
  | cons x t ih =>
    intro p hp
    unfold RunM.cut at hp
    split at hp
    · rcases List.mem_cons.1 hp with e | e
      · simp [e]
      · have := ih p e; simp; omega
    · split at hp
      · rename_i hc
        exact absurd hc (RunM.cut_ne c t)
      · rename_i h q hc
        rw [hc] at ih
        rcases List.mem_cons.1 hp with e | e
        · rw [e]
          have := ih h (List.mem_cons_self ..)
          simp; omega
        · have := ih p (List.mem_cons_of_mem _ e)
          simp; omega
theorem cut_len (c : UInt8) : ∀ (s : List UInt8), (RunM.cut c s).length ≤ s.length + 1 := by
  intro s
  induction s with
  | nil => simp [RunM.cut]
  | cons x t ih =>
    unfold RunM.cut
    split
    · simp; omega
    · split
      · simp
      · rename_i h q hc
        rw [hc] at ih
        simp at ih ⊢
        omega
theorem nums_take {r : List (List UInt8)} {k : Nat} {p : List UInt8} {ks : List Nat} (hp : r[k]? = some p) (hk : RunM.nums (r.take k) = some ks) :
    (∀ n, RunM.num p = some n → RunM.nums (r.take (k + 1)) = some (ks ++ [n])) ∧ (RunM.num p = none → RunM.nums r = none) := by
  have e : r.take (k + 1) = r.take k ++ [p] := by rw [List.take_add_one, hp]; rfl
  refine ⟨fun n hn => ?_, fun hn => ?_⟩
  · rw [e, RunM.nums_snoc, hk, hn]
  · have all : ∀ (t : List (List UInt8)), p ∈ t → RunM.nums t = none := by
      intro t
      induction t with
      | nil => intro h; simp at h
      | cons a q ih =>
        intro h
        unfold RunM.nums
        cases ha : RunM.num a with
        | none => rfl
        | some m =>
          rcases List.mem_cons.1 h with e | e
          · rw [← e, hn] at ha; cases ha
          · rw [ih e]
    exact all r (List.mem_of_getElem? hp)
theorem own_numbers {w : World} {base k cap : Nat} {sa : Option Addr} {ks : List Nat} (h : w.ownsRow base 3 1 (.slice sa k cap) k ((ks.map Int.ofNat).map (Value.int .i64))) (hn : k ≤ 3000) : ks.length = k ∧ Ints w sa (ks.map Int.ofNat) ∧ NewRow base sa := by
  have hl : ks.length = k := by have := h.1; simpa using this
  refine ⟨hl, ⟨by simp; omega, fun j hj => ?_⟩, fun g off e => by
    rcases h.2 with ⟨hv, _⟩ | ⟨g', cap', cur, hv, hb, _⟩
    · obtain ⟨h1, -, -⟩ := Value.slice.inj hv
      rw [h1] at e; cases e
    · obtain ⟨h1, -, -⟩ := Value.slice.inj hv
      rw [h1] at e; cases e; exact hb⟩
  have hj' : j < k := by simpa [hl] using hj
  rcases h.2 with ⟨_, h0⟩ | ⟨g', cap', cur, hv, _⟩
  · omega
  · obtain ⟨rfl, -, rfl⟩ := Value.slice.inj hv
    refine ⟨g', 0, rfl, ?_⟩
    rw [Nat.zero_add, h.cellAt j (by omega)]
    have hjk : j < ks.length := by omega
    simp [List.getD, hjk]

theorem wants_c {p : List UInt8} {c : Int} (hat : wantsD.atKey (.string p) (.lit (.int .i64 0)) = .lit (.int .i64 c)) : c = ((wantsP p : Nat) : Int) := by
  rw [atKey_wants] at hat
  injection hat with hat
  injection hat with _ hat
  exact hat.symm
/-- What reading a line hands back. -/
def ReadOut (B : Nat) (p : List UInt8) (r : List (List UInt8)) (e : Ending) (w' : World) : Prop :=
  (∃ ns a c, r.length = wantsP p ∧ RunM.nums r = some ns ∧ e = .returned (.tuple #[.string (RunM.bs p), .slice a ns.length c, .nilIface]) ∧ Ints w' a (ns.map Int.ofNat) ∧ NewRow B a) ∨
  ((¬ r.length = wantsP p ∨ RunM.nums r = none) ∧ e = .returned (.tuple #[.string ⟨#[]⟩, .slice none 0 0, .iface 101 (.agg #[.int .i64 2])]))
set_option maxHeartbeats 6400000 in
set_option maxRecDepth 8000 in
/-- A line's word and numbers; or that it is none. -/
theorem rread_any {s mb : Nat} {l : ByteArray} {p : List UInt8} {r : List (List UInt8)} (w : World) (hs : l.size ≤ 3000) (hL : Laid w) (hm : MapIs w mb) (hc : RunM.cut 32 l.data.toList = p :: r) :
    Calls Tryz.prog 33 #[.agg #[.pointer (some ⟨s, 0, none⟩), .map (some mb)], .string l] w fun e w' => ReadOut w.heap.size p r e w' ∧ Below w.heap.size w w' := by
  obtain ⟨g1, g2, g3⟩ := pcs_get hc
  have hpl : (RunM.bs p).size ≤ 3000 := by
    have := piece_len 32 l.data.toList p (by rw [hc]; exact List.mem_cons_self ..)
    rw [← Go.Lib.size_eq] at this
    exact Nat.le_trans this hs
  have hrl : ∀ q ∈ r, (RunM.bs q).size ≤ 3000 := fun q hq => by
    have := piece_len 32 l.data.toList q (by rw [hc]; exact List.mem_cons_of_mem _ hq)
    rw [← Go.Lib.size_eq] at this
    exact Nat.le_trans this hs
  have hmm : r.length ≤ 3000 := by
    have := cut_len 32 l.data.toList
    rw [hc, ← Go.Lib.size_eq, List.length_cons] at this
    omega
  have CS : Hid (∀ W : World, Calls Tryz.prog 57 #[.string l, .string ⟨#[32]⟩] W fun e w' => ∃ V, e = .returned (.slice (some ⟨V, 0, none⟩) (r.length + 1) (r.length + 1)) ∧ (w'.cell? ⟨V, 0, none⟩ = some (.string (RunM.bs p)) ∧ ∀ k q, r[k]? = some q → w'.cell? ⟨V, 1 + k, none⟩ = some (.string (RunM.bs q))) ∧ V < w'.heap.size ∧ Below W.heap.size W w') := hide (fun W => by
    refine (split_any l W hs).mono ?_
    rintro e w' ⟨rfl, rfl⟩
    rw [g1]
    refine ⟨_, rfl, ⟨?_, fun k q hq => ?_⟩, by simp, below_alloc (Below.refl _ _) _⟩
    · rw [World.cell?_alloc_at _ _ _ _ (by simp), List.getElem?_toArray, List.getElem?_map, g2]; rfl
    · rw [World.cell?_alloc_at _ _ _ _ (by simp), List.getElem?_toArray, List.getElem?_map, g3 k q hq]; rfl)
  have hkey : keyOf Tryz.prog 9 (.string (RunM.bs p)) = some (.string p) := Go.WideMaps.keyOf_string_mk Tryz.underlying9 (by unfold maxLen; omega)
  have HK := hide hkey
  have HL := hide hL
  have HM := hide hm
  have HR := hide hrl
  have hlt := hm.lt
  obtain ⟨m, hm0⟩ : ∃ m, r.length = m := ⟨_, rfl⟩
  have HLEN := hide hm0
  rw [hm0] at CS hmm
  obtain ⟨pb, hpb⟩ : ∃ pb, RunM.bs p = pb := ⟨_, rfl⟩
  have HPB := hide hpb
  rw [hpb] at CS HK
  obtain ⟨wp, hwp⟩ : ∃ wp, wantsP p = wp := ⟨_, rfl⟩
  have HWP := hide hwp
  clear hwp
  clear g1 g2 g3 hc hs hL hm hkey hrl hm0 hpb hpl
  have q1 : (1 : Int) ≤ (m : Int) + 1 := by omega
  have q2 : (0 : Int) ≤ (m : Int) + 1 := by omega
  go_enter Tryz.func33, Tryz.ntmps33
  go_wp2_with fail
  refine (unhide CS _).mono ?_
  rintro e w1 ⟨V, rfl, ⟨hv0, hvk⟩, hV, hb1⟩
  have HVK := hide hvk
  have HD := hide ((Held.fresh (w := w) [.pointer (some ⟨s, 0, none⟩), .map (some mb)] 34 rfl).later hb1)
  have HB1 := hide (bel3 (Below.refl _ _) (show Below w.heap.size w (w.alloc _) from (by (repeat' (first | exact Below.refl _ _ | refine Below.alloc ?_ ?_ _ | refine Below.setCell ?_ ?_ _ | refine Below.drew ?_)); all_goals (first | exact Nat.le_refl _ | omega | (simp; done) | (simp; omega)))) hb1)
  have HM1 := hide ((unhide HM).later (unhide HB1))
  have HBC := hide hb1
  obtain ⟨d0, d1⟩ := (unhide HD).c2.1
  have dl := (unhide HD).2
  clear hvk hb1
  go_wp2
  go_quiet (fail)
  generalize hsa : (if m = 0 then some ({ block := V, off := 0 } : Addr) else some { block := V, off := 1 }) = sa
  have HSA := hide (show 0 < m → sa = some ⟨V, 1, none⟩ from fun h => by rw [← hsa, if_neg (by omega)])
  have hb2 : Below w1.heap.size w1 (w1.drewN nq) := below_drewN (Below.refl _ _) nq
  have HB2 := hide (bel3 (unhide HB1) (Below.refl _ _) hb2)
  have HBD := hide ((unhide HBC).trans (hb2.mono (unhide HBC).size))
  have HM2 := hide ((unhide HM1).later hb2)
  have HVK2 := hide (fun k q (hk : r[k]? = some q) => cell_later hb2 (unhide HVK k q hk))
  clear hsa hb2 HVK HM1 HD d0 d1 dl hv0 hV
  generalize w1.drewN nq = w2 at HB2 HM2 HVK2 HBD ⊢
  clear HB1 HBC
  have D2 := hide ((Held.fresh (w := w) [.pointer (some ⟨s, 0, none⟩), .map (some mb)] 34 rfl).later (unhide HBD))
  obtain ⟨d0, d1⟩ := (unhide D2).c2.1
  have dl := (unhide D2).2
  by_cases hw : m = wp
  · subst hw
    go_wp2_with (at_lookup; refine wpList_lookup_own_int _ rfl _ _ 32 rfl 9 3 .i64 keyLaw Tryz.underlying32 Tryz.underlying3 (zeroInt _) mb 7 wantsD rfl (unhide HM2) _ _ rfl (unhide HK) ?_; intro c hat hwc; obtain rfl : c = (m : Int) := (wants_c hat).trans (by rw [unhide HWP]); clear hat hwc)
    clear d0 d1 dl D2 HK HM HM2 HBD
    go_loopw [10, 33] (fun v i wr => ∃ (k : Nat) (sb : Option Addr) (sc : Nat) (ks : List Nat), k ≤ m ∧ v = .slice sb k sc ∧ i = .int .i64 k ∧ Hid (RunM.nums (r.take k) = some ks) ∧ Hid (wr.ownsRow w2.heap.size 3 1 (.slice sb k sc) k ((ks.map Int.ofNat).map (Value.int .i64))) ∧ Hid (Below w2.heap.size w2 wr)) (fun _ i _ => m - (intOf i).toNat)
    case atStart => exact ⟨0, none, 0, [], by omega, rfl, rfl, hide rfl, hide (World.ownsRow_nil _ _ _ _), hide (Below.refl _ _)⟩
    case round =>
      obtain ⟨k, sb, sc, ks, hk, rfl, rfl, HN, HO, HB⟩ := hrel
      have HBW := hide ((unhide HB2).trans ((unhide HB).mono (unhide HB2).size))
      by_cases hlt : k < m
      · obtain ⟨q, hq⟩ : ∃ q, r[k]? = some q := ⟨_, List.getElem?_eq_getElem (by rw [unhide HLEN]; exact hlt)⟩
        obtain rfl := unhide HSA (by omega)
        have c0 := cell_later (unhide HB) (unhide HVK2 k q hq)
        have c1 : wr.cell? ⟨V, k + 1, none⟩ = some (.string (RunM.bs q)) := by rw [Nat.add_comm]; exact c0
        have hqs := unhide HR q (List.mem_of_getElem? hq)
        obtain ⟨t1, t2⟩ := nums_take hq (unhide HN)
        cases hnum : RunM.num q with
        | none =>
          have HNO := hide (t2 hnum)
          have CN := hide (rnumber_no (s := RunM.bs q) wr hqs ((unhide HL).later (unhide HBW)) hnum)
          generalize RunM.bs q = qb at c0 c1 CN
          clear t1 t2 hnum hqs hq
          go_wp2_with fail
          refine (unhide CN).mono ?_
          rintro e w3 ⟨v, rfl, hb3⟩
          have HB3 := hide (bel3 (unhide HBW) (Below.refl _ _) hb3)
          clear hb3 c0 c1
          go_wp2
          go_ret3
          exact ⟨.inr ⟨.inr (unhide HNO), rfl⟩, unhide HB3⟩
        | some n =>
          have HN1 := hide (t1 n hnum)
          have CN := hide (rnumber_yes (s := RunM.bs q) (n := n) wr hqs ((unhide HL).later (unhide HBW)) hnum)
          generalize RunM.bs q = qb at c0 c1 CN
          clear t1 t2 hnum hqs hq
          obtain ⟨i0, hi0, hz0, hz1, hz2⟩ := info_parts infoInt5
          go_wp2_with fail
          refine (unhide CN).mono ?_
          rintro e w3 ⟨rfl, hb3⟩
          have hz3 := (unhide HB).size
          have hz4 := hb3.size
          have HB3 := hide ((unhide HB).trans (hb3.mono hz3))
          have HO3 := hide ((unhide HO).kept (row := none) ⟨hb3.os, hb3.tape, hb3.output, hb3.size, fun k hk _ => hb3.block k hk⟩ (by cases hv : (Value.slice sb k sc).ownBlock <;> simp))
          clear hb3 c0 c1
          go_wp2_with (at_builtin; refine wpList_append_lies _ rfl _ _ 54 rfl w2.heap.size 3 i0 (.int .i64 0) 1 8 Tryz.underlying54 hi0 hz0 hz1 hz2 rfl (by decide) (.slice sb k sc) k ((ks.map Int.ofNat).map (Value.int .i64)) rfl ((unhide HO3).alloc _) ⟨w3.heap.size, 0, none⟩ 1 1 [.int .i64 n] rfl rfl ?c1 ?c2 (by omega) ?c3 ?c4 ?c5 (w3.heap.size + 1) ?c6 ?_)
          case c1 => exact World.news_of_block (cs := #[.int .i64 n]) (t := 3) (fr := (0, 0)) (heap_alloc_new w3 _)
          case c2 => simp [Value.oneCell']
          case c3 => unfold maxLen; omega
          case c4 => omega
          case c5 => simp; omega
          case c6 => simp
          intro gg cp w4 hown4 hgrow hat hlt4
          have HO4 := hide (show w4.ownsRow w2.heap.size 3 1 (.slice (some ⟨gg, 0, none⟩) (k + 1) cp) (k + 1) (((ks ++ [n]).map Int.ofNat).map (Value.int .i64)) by
            rw [List.map_append, List.map_append, List.map_map]; exact hown4)
          have HB4 := hide (((unhide HB3).alloc (by omega) _).grown hgrow (by simp; omega) (fun q hq => ((unhide HO3).lt q hq).1))
          clear hown4 hgrow hat hlt4
          go_wp2
          go_roundw
          case rel => exact ⟨k + 1, some ⟨gg, 0, none⟩, cp, ks ++ [n], by omega, rfl, by go_num, HN1, HO4, HB4⟩
          case measure => simp [intOf]; omega
      · obtain rfl : k = m := by omega
        obtain ⟨hl, hi, hnr⟩ := own_numbers (unhide HO) hmm
        have HNR := hide (show NewRow w.heap.size sb from fun g off e => Nat.le_trans (unhide HB2).size (hnr g off e))
        have hN := unhide HN
        rw [List.take_of_length_le (by rw [unhide HLEN]; omega)] at hN
        have HN2 := hide hN
        have HI := hide hi
        have HL2 := hide hl
        clear hN hi hl hnr
        go_wp2
        go_ret3
        exact ⟨.inl ⟨ks, sb, sc, (unhide HLEN).trans (unhide HWP).symm, unhide HN2, by rw [unhide HL2, unhide HPB]; rfl, unhide HI, unhide HNR⟩, unhide HBW⟩
  · have hw2 : ¬ (m : Int) = (wp : Int) := by omega
    have hw3 : ((m : Int) == (wp : Int)) = false := beq_eq_false_iff_ne.2 hw2
    go_wp2_with (at_lookup; refine wpList_lookup_own_int _ rfl _ _ 32 rfl 9 3 .i64 keyLaw Tryz.underlying32 Tryz.underlying3 (zeroInt _) mb 7 wantsD rfl (unhide HM2) _ _ rfl (unhide HK) ?_; intro c hat hwc; obtain rfl : c = (wp : Int) := (wants_c hat).trans (by rw [unhide HWP]); clear hat hwc)
    go_ret3
    exact ⟨.inr ⟨.inl (by rw [unhide HLEN, unhide HWP]; exact hw), rfl⟩, unhide HB2⟩
end Go.Proofs.YthaicpepgianpakGreatDoor
