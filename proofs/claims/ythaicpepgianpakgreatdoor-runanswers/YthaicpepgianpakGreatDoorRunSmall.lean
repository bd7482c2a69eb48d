/-
  Package run's small functions: an error's name, a number, a row of numbers, a conn.
-/
import Derived.Test.YthaicpepgianpakGreatDoorRunLib
import Derived.Test.YthaicpepgianpakGreatDoorJoinedRunAs
import Derived.Deep.RegionLaw
namespace Go.Proofs.YthaicpepgianpakGreatDoor
open Go.RowKit
set_option linter.unusedVariables false

set_option maxRecDepth 8000 in
theorem ename_any (E : Int) (w : World) : Calls Tryz.prog 30 #[.int .i64 E] w fun e w' => e = .returned (.string (RunM.bs (RunM.name E))) ∧ w' = w := by
  by_cases h0 : E = 0
  · subst h0
    have hn := hide (show (⟨#[79, 75]⟩ : ByteArray) = RunM.bs (RunM.name 0) from rfl)
    go_enter Tryz.func30, Tryz.ntmps30
    go_wp2
    go_ret
    exact ⟨congrArg (fun q => Ending.returned (Value.string q)) (unhide hn), rfl⟩
  by_cases h1 : E = 1
  · subst h1
    have hn := hide (show (⟨#[69, 114, 114, 82, 97, 110, 103, 101]⟩ : ByteArray) = RunM.bs (RunM.name 1) from rfl)
    go_enter Tryz.func30, Tryz.ntmps30
    go_wp2
    go_ret
    exact ⟨congrArg (fun q => Ending.returned (Value.string q)) (unhide hn), rfl⟩
  by_cases h2 : E = 2
  · subst h2
    have hn := hide (show (⟨#[69, 114, 114, 83, 121, 110, 116, 97, 120]⟩ : ByteArray) = RunM.bs (RunM.name 2) from rfl)
    go_enter Tryz.func30, Tryz.ntmps30
    go_wp2
    go_ret
    exact ⟨congrArg (fun q => Ending.returned (Value.string q)) (unhide hn), rfl⟩
  by_cases h3 : E = 3
  · subst h3
    have hn := hide (show (⟨#[69, 114, 114, 83, 104, 97, 112, 101]⟩ : ByteArray) = RunM.bs (RunM.name 3) from rfl)
    go_enter Tryz.func30, Tryz.ntmps30
    go_wp2
    go_ret
    exact ⟨congrArg (fun q => Ending.returned (Value.string q)) (unhide hn), rfl⟩
  by_cases h4 : E = 4
  · subst h4
    have hn := hide (show (⟨#[69, 114, 114, 70, 117, 108, 108]⟩ : ByteArray) = RunM.bs (RunM.name 4) from rfl)
    go_enter Tryz.func30, Tryz.ntmps30
    go_wp2
    go_ret
    exact ⟨congrArg (fun q => Ending.returned (Value.string q)) (unhide hn), rfl⟩
  by_cases h5 : E = 5
  · subst h5
    have hn := hide (show (⟨#[69, 114, 114, 78, 111, 110, 101]⟩ : ByteArray) = RunM.bs (RunM.name 5) from rfl)
    go_enter Tryz.func30, Tryz.ntmps30
    go_wp2
    go_ret
    exact ⟨congrArg (fun q => Ending.returned (Value.string q)) (unhide hn), rfl⟩
  by_cases h6 : E = 6
  · subst h6
    have hn := hide (show (⟨#[69, 114, 114, 83, 116, 97, 116, 101]⟩ : ByteArray) = RunM.bs (RunM.name 6) from rfl)
    go_enter Tryz.func30, Tryz.ntmps30
    go_wp2
    go_ret
    exact ⟨congrArg (fun q => Ending.returned (Value.string q)) (unhide hn), rfl⟩
  by_cases h7 : E = 7
  · subst h7
    have hn := hide (show (⟨#[69, 114, 114, 67, 108, 97, 115, 104]⟩ : ByteArray) = RunM.bs (RunM.name 7) from rfl)
    go_enter Tryz.func30, Tryz.ntmps30
    go_wp2
    go_ret
    exact ⟨congrArg (fun q => Ending.returned (Value.string q)) (unhide hn), rfl⟩
  by_cases h8 : E = 8
  · subst h8
    have hn := hide (show (⟨#[69, 114, 114, 83, 101, 97, 108]⟩ : ByteArray) = RunM.bs (RunM.name 8) from rfl)
    go_enter Tryz.func30, Tryz.ntmps30
    go_wp2
    go_ret
    exact ⟨congrArg (fun q => Ending.returned (Value.string q)) (unhide hn), rfl⟩
  by_cases h9 : E = 9
  · subst h9
    have hn := hide (show (⟨#[69, 114, 114, 76, 97, 116, 101]⟩ : ByteArray) = RunM.bs (RunM.name 9) from rfl)
    go_enter Tryz.func30, Tryz.ntmps30
    go_wp2
    go_ret
    exact ⟨congrArg (fun q => Ending.returned (Value.string q)) (unhide hn), rfl⟩
  have hn := hide (show (⟨#[69, 114, 114, 110, 111]⟩ : ByteArray) = RunM.bs (RunM.name E) by unfold RunM.name; rw [if_neg h0, if_neg h1, if_neg h2, if_neg h3, if_neg h4, if_neg h5, if_neg h6, if_neg h7, if_neg h8, if_neg h9]; rfl)
  have k0 : (E == 0) = false := beq_eq_false_iff_ne.2 h0
  have k1 : (E == 1) = false := beq_eq_false_iff_ne.2 h1
  have k2 : (E == 2) = false := beq_eq_false_iff_ne.2 h2
  have k3 : (E == 3) = false := beq_eq_false_iff_ne.2 h3
  have k4 : (E == 4) = false := beq_eq_false_iff_ne.2 h4
  have k5 : (E == 5) = false := beq_eq_false_iff_ne.2 h5
  have k6 : (E == 6) = false := beq_eq_false_iff_ne.2 h6
  have k7 : (E == 7) = false := beq_eq_false_iff_ne.2 h7
  have k8 : (E == 8) = false := beq_eq_false_iff_ne.2 h8
  have k9 : (E == 9) = false := beq_eq_false_iff_ne.2 h9
  go_enter Tryz.func30, Tryz.ntmps30
  go_wp2
  go_ret
  exact ⟨congrArg (fun q => Ending.returned (Value.string q)) (unhide hn), rfl⟩
set_option maxHeartbeats 1000000 in
theorem rtold_errno (E : Int) (w : World) (hg : ErrType w) : Calls Tryz.prog 12 #[.iface 85 (.int .i64 E)] w fun e w' => e = .returned (.string (RunM.bs (RunM.name E))) ∧ Below w.heap.size w w' := by
  have hb1 : Below w.heap.size w (w.alloc (.cells #[.int .i64 0] 85)) := (Below.refl _ _).alloc (Nat.le_refl _) _
  have H := hide (as_hit E ⟨w.heap.size, 0, none⟩ (.int .i64 0) (w.alloc (.cells #[.int .i64 0] 85)) (hg.later hb1) (by simp) (by simp))
  have C := hide (ename_any E)
  generalize RunM.bs (RunM.name E) = nm at C ⊢
  clear hg
  go_enter Tryz.func12, Tryz.ntmps12
  go_wp2_with fail
  refine (unhide H).mono ?_
  rintro e w' ⟨rfl, rfl⟩
  go_wp2_with fail
  refine (unhide C _).mono ?_
  rintro e w' ⟨rfl, rfl⟩
  go_wp2
  go_ret
  exact ⟨rfl, ((((((Below.refl _ _).alloc (Nat.le_refl _) _).alloc (by simp) _).alloc (by simp; omega) _).alloc (by simp; omega) _).alloc (by simp; omega) _)⟩
set_option maxHeartbeats 1000000 in
theorem rtold_bad (u : Value) (w : World) (hg : ErrType w) : Calls Tryz.prog 12 #[.iface 101 u] w fun e w' => e = .returned (.string (RunM.bs RunM.tBad)) ∧ Below w.heap.size w w' := by
  have hb1 : Below w.heap.size w (w.alloc (.cells #[.int .i64 0] 85)) := (Below.refl _ _).alloc (Nat.le_refl _) _
  have H := hide (as_miss u ⟨w.heap.size, 0, none⟩ (.int .i64 0) (w.alloc (.cells #[.int .i64 0] 85)) (hg.later hb1) (by simp) (by simp))
  have HB0 := hide hb1
  clear hg hb1
  go_enter Tryz.func12, Tryz.ntmps12
  go_wp2_with fail
  refine (unhide H).mono ?_
  rintro e w1 ⟨rfl, hb⟩
  have HB := hide (bel3 (unhide HB0) (Below.refl _ _) hb)
  clear hb
  go_wp2
  go_ret
  exact ⟨rfl, unhide HB⟩
/-- A piece that is a number. -/
theorem rnumber_yes {s : ByteArray} {n : Nat} (w : World) (hs : s.size ≤ 3000) (hL : Laid w) (h : RunM.num s.data.toList = some n) :
    Calls Tryz.prog 58 #[.string s] w fun e w' => e = .returned (.tuple #[.int .i64 n, .bool true]) ∧ Below w.heap.size w w' := by
  obtain ⟨h1, h2, h3⟩ := RunM.num_some h
  have C := hide (atoi_yes w hs h1)
  have CI := hide (fun W (hW : Below w.heap.size w W) => itoa_any (n : Int) W (by omega) (by omega) (hL.later hW))
  rw [Int.toNat_natCast, h2, RunM.bs_data] at CI
  clear h h1 h2 hL
  have q1 : (0 : Int) ≤ (n : Int) := by omega
  have q2 : (n : Int) ≤ 999999 := by omega
  have q3 : (s.toList == s.toList) = true := by simp
  clear h3
  go_enter Tryz.func58, Tryz.ntmps58
  go_wp2_with fail
  refine (unhide C).mono ?_
  rintro e w1 ⟨rfl, hb1⟩
  have HB1 := hide hb1
  clear hb1
  go_wp2_with fail
  refine (unhide CI _ (unhide HB1)).mono ?_
  rintro e w2 ⟨rfl, hb2⟩
  have HB2 := hide (bel3 (unhide HB1) (Below.refl _ _) hb2)
  clear hb2
  go_wp2
  go_ret2
  exact ⟨rfl, unhide HB2⟩
/-- One that is none. -/
theorem rnumber_no {s : ByteArray} (w : World) (hs : s.size ≤ 3000) (hL : Laid w) (h : RunM.num s.data.toList = none) :
    Calls Tryz.prog 58 #[.string s] w fun e w' => ∃ v, e = .returned (.tuple #[.int .i64 v, .bool false]) ∧ Below w.heap.size w w' := by
  by_cases hv : ∃ v, Go.Lib.atoiAll s.data.toList = .ok v
  · obtain ⟨v, hv⟩ := hv
    have C := hide (atoi_yes w hs hv)
    by_cases h0 : 0 ≤ v
    · by_cases h1 : v ≤ 999999
      · have hne := RunM.num_none h h0 h1
        have CI := hide (fun W (hW : Below w.heap.size w W) => itoa_any v W h0 (by omega) (hL.later hW))
        have q3 : ((RunM.bs (RunM.digits v.toNat)).toList == s.toList) = false := by
          rw [beq_eq_false_iff_ne, ByteArray.toList_eq, ByteArray.toList_eq]
          exact hne
        generalize RunM.bs (RunM.digits v.toNat) = g at CI q3
        clear h hne hv hL
        go_enter Tryz.func58, Tryz.ntmps58
        go_wp2_with fail
        refine (unhide C).mono ?_
        rintro e w1 ⟨rfl, hb1⟩
        have HB1 := hide hb1
        clear hb1
        go_wp2_with fail
        refine (unhide CI _ (unhide HB1)).mono ?_
        rintro e w2 ⟨rfl, hb2⟩
        have HB2 := hide (bel3 (unhide HB1) (Below.refl _ _) hb2)
        clear hb2
        go_wp2
        go_ret2
        first | exact ⟨_, rfl, unhide HB2⟩ | exact ⟨⟨_, rfl⟩, unhide HB2⟩
      · clear h hv hL
        go_enter Tryz.func58, Tryz.ntmps58
        go_wp2_with fail
        refine (unhide C).mono ?_
        rintro e w1 ⟨rfl, hb1⟩
        have HB1 := hide hb1
        clear hb1
        go_wp2
        go_ret2
        first | exact ⟨_, rfl, unhide HB1⟩ | exact ⟨⟨_, rfl⟩, unhide HB1⟩
    · clear h hv hL
      go_enter Tryz.func58, Tryz.ntmps58
      go_wp2_with fail
      refine (unhide C).mono ?_
      rintro e w1 ⟨rfl, hb1⟩
      have HB1 := hide hb1
      clear hb1
      go_wp2
      go_ret2
      first | exact ⟨_, rfl, unhide HB1⟩ | exact ⟨⟨_, rfl⟩, unhide HB1⟩
  · have C := hide (atoi_no w hs hL (fun v e => hv ⟨v, e⟩))
    clear h hv hL
    go_enter Tryz.func58, Tryz.ntmps58
    go_wp2_with fail
    refine (unhide C).mono ?_
    rintro e w1 ⟨v, T, p, rfl, hb1⟩
    have HB1 := hide hb1
    clear hb1
    go_wp2
    go_ret2
    first | exact ⟨_, rfl, unhide HB1⟩ | exact ⟨⟨_, rfl⟩, unhide HB1⟩
/-- Strings that are numerals, in a row. -/
def nums16 (ns : List Nat) : List Value := ns.map fun n => Value.string (RunM.bs (RunM.digits n))
theorem own_numerals {w : World} {base : Nat} {v : Value} {ns : List Nat} (h : w.ownsRow base 9 1 v ns.length (nums16 ns)) (hn : 0 < ns.length) :
    ∃ g cap, v = .slice (some ⟨g, 0, none⟩) ns.length cap ∧ ns.length ≤ cap ∧ g < w.heap.size ∧ ∀ j n, ns[j]? = some n → w.cell? ⟨g, j, none⟩ = some (.string (RunM.bs (RunM.digits n))) := by
  rcases h.2 with ⟨rfl, h0⟩ | ⟨g, cap, cur, rfl, _, hg, hc, _⟩
  · omega
  · refine ⟨g, cap, rfl, hc, (Array.getElem?_eq_some_iff.1 hg).1, fun j n hj => ?_⟩
    have hlt : j < ns.length := (List.getElem?_eq_some_iff.1 hj).1
    rw [h.cellAt j (by omega)]
    unfold nums16
    rw [List.getElem?_map, hj]
    rfl
set_option maxHeartbeats 3200000 in
set_option maxRecDepth 8000 in
theorem rrow_any (ns : List Nat) (a : Option Addr) (c : Nat) (w : World) (hL : Laid w) (h : ∀ n ∈ ns, n < 1000000) (h1 : 0 < ns.length) (h4 : ns.length ≤ 4) (hi : Ints w a (ns.map Int.ofNat)) :
    Calls Tryz.prog 40 #[.slice a ns.length c] w fun e w' => e = .returned (.string (RunM.bs (RunM.row ns))) ∧ Below w.heap.size w w' := by
  have HI := hide hi
  have HL := hide hL
  have HN := hide h
  obtain ⟨i0, hi0, hz0, hz1, hz2⟩ := info_parts infoStr
  obtain ⟨l, hl⟩ : ∃ l, ns.length = l := ⟨_, rfl⟩
  have HLEN := hide hl
  rw [hl] at h1 h4 ⊢
  clear hl h hi hL
  go_enter Tryz.func40, Tryz.ntmps40
  go_wp2
  go_loopw [3, 8] (fun v i wr => ∃ (k : Nat) (sa : Option Addr) (sc : Nat), k ≤ l ∧ v = .slice sa k sc ∧ i = .int .i64 k ∧ Hid (wr.ownsRow w.heap.size 9 1 (.slice sa k sc) (ns.take k).length (nums16 (ns.take k))) ∧ Hid (Below w.heap.size w wr)) (fun _ i _ => l - (intOf i).toNat)
  case atStart => exact ⟨0, none, 0, by omega, rfl, rfl, hide (World.ownsRow_nil _ _ _ _), hide (Below.refl _ _)⟩
  case round =>
    obtain ⟨k, sa, sc, hk, rfl, rfl, HO, HB⟩ := hrel
    by_cases hlt : k < l
    · obtain ⟨n, hn⟩ : ∃ n, ns[k]? = some n := ⟨_, List.getElem?_eq_getElem (by rw [unhide HLEN]; exact hlt)⟩
      have hn6 := unhide HN n (List.mem_of_getElem? hn)
      obtain ⟨bb, off, rfl, hc⟩ := ((unhide HI).later (unhide HB)).row (by rw [List.length_map, unhide HLEN]; omega)
      have c0 : wr.cell? ⟨bb, off + k, none⟩ = some (.int .i64 n) := by
        rw [hc k (by rw [List.length_map, unhide HLEN]; exact hlt)]
        simp [List.getD, hn]
      have CI := hide (itoa_any (n : Int) wr (by omega) (by omega) ((unhide HL).later (unhide HB)))
      rw [Int.toNat_natCast] at CI
      have ht := hide (show nums16 (ns.take k) ++ [.string (RunM.bs (RunM.digits n))] = nums16 (ns.take (k + 1)) ∧ (ns.take k).length = k ∧ (ns.take (k + 1)).length = k + 1 by
        refine ⟨?_, by rw [List.length_take, unhide HLEN]; omega, by rw [List.length_take, unhide HLEN]; omega⟩
        rw [List.take_add_one, hn]
        simp [nums16])
      have hz := (unhide HB).size
      have HO2 := hide (show wr.ownsRow w.heap.size 9 1 (.slice sa k sc) k (nums16 (ns.take k)) by have q := unhide HO; rwa [(unhide ht).2.1] at q)
      generalize RunM.bs (RunM.digits n) = g at CI ht
      clear hc hn hn6
      go_wp2_with fail
      refine (unhide CI).mono ?_
      rintro e w1 ⟨rfl, hb1⟩
      have hz1' := hb1.size
      have HB1 := hide (bel3 (unhide HB) (Below.refl _ _) hb1)
      have HO3 := hide ((unhide HO2).kept (row := none) ⟨hb1.os, hb1.tape, hb1.output, hb1.size, fun k hk _ => hb1.block k hk⟩ (by cases hv : (Value.slice sa k sc).ownBlock <;> simp))
      clear hb1 c0
      go_wp2_with (at_builtin; refine wpList_append_lies _ rfl _ _ 23 rfl w.heap.size 9 i0 (.string ByteArray.empty) 1 16 Tryz.underlying23 hi0 hz0 hz1 hz2 rfl (by decide) (.slice sa k sc) k (nums16 (ns.take k)) rfl ((unhide HO3).alloc _) ⟨w1.heap.size, 0, none⟩ 1 1 [.string g] rfl rfl ?c1 ?c2 (by omega) ?c3 ?c4 ?c5 (w1.heap.size + 1) ?c6 ?_)
      case c1 => exact World.news_of_block (cs := #[.string g]) (t := 9) (fr := (0, 0)) (heap_alloc_new w1 _)
      case c2 => simp [Value.oneCell']
      case c3 => unfold maxLen; omega
      case c4 => omega
      case c5 => simp; omega
      case c6 => simp
      intro gg cp w2 hown2 hgrow hat hlt2
      rw [(unhide ht).1] at hown2
      have HO4 := hide (show w2.ownsRow w.heap.size 9 1 (.slice (some ⟨gg, 0, none⟩) (k + 1) cp) (ns.take (k + 1)).length (nums16 (ns.take (k + 1))) by rw [(unhide ht).2.2]; exact hown2)
      have HB4 := hide (((unhide HB1).alloc (by omega) _).grown hgrow (by simp; omega) (fun q hq => ((unhide HO3).lt q hq).1))
      clear hown2 hgrow hat hlt2
      go_wp2
      go_roundw
      case rel => exact ⟨k + 1, some ⟨gg, 0, none⟩, cp, by omega, rfl, by go_num, HO4, HB4⟩
      case measure => simp [intOf]; omega
    · obtain rfl : k = l := by omega
      have hO := unhide HO
      rw [List.take_of_length_le (by rw [unhide HLEN]; omega)] at hO
      obtain ⟨g, cap, he, hcap, hg, hcells⟩ := own_numerals hO (by rw [unhide HLEN]; omega)
      obtain ⟨e1, -, e3⟩ := Value.slice.inj he
      subst e1
      subst e3
      rw [unhide HLEN] at hcap
      have CJ := hide (join_any ns g sc wr (unhide HN) (by rw [unhide HLEN]; omega) (by rw [unhide HLEN]; omega) hg hcells)
      rw [unhide HLEN] at CJ
      clear hO hcells hcap hg
      obtain ⟨out, ho⟩ : ∃ out, RunM.bs (RunM.row ns) = out := ⟨_, rfl⟩
      rw [ho] at CJ
      have HO9 := hide ho
      clear ho
      go_wp2_with fail
      refine (unhide CJ).mono ?_
      rintro e w1 ⟨rfl, hb1⟩
      have HB1 := hide (bel3 (unhide HB) (Below.refl _ _) hb1)
      clear hb1
      go_wp2
      go_ret
      exact ⟨congrArg (fun q => Ending.returned (Value.string q)) (unhide HO9).symm, unhide HB1⟩
/-- A conn that is there. -/
theorem rwho_yes (m : Int) (w : World) (hL : Laid w) (h0 : 0 ≤ m) (h1 : m < 4096) :
    Calls Tryz.prog 36 #[.agg #[.int .i64 0, .int .i64 m], .nilIface] w fun e w' => e = .returned (.tuple #[.string (RunM.bs (RunM.digits (ConnM.turn m).toNat)), .nilIface]) ∧ Below w.heap.size w w' := by
  have hb : ConnM.bad 0 m = 0 := ConnM.bad_zero.2 (by omega)
  have C := hide (fun W => cnumber_any 0 m W)
  rw [hb, errV_zero rfl, ConnM.told_zero rfl, show 4096 * (0 : Int) + m = m by omega] at C
  have t0 := ConnM.turn_lo m
  have t1 := ConnM.turn_hi (x := m) (by omega)
  generalize ConnM.turn m = t at C t0 t1 ⊢
  have CR := hide (fun W V (hW : Below w.heap.size w W) (hV : W.heap.size = V) => rrow_any [t.toNat] (some ⟨V, 0, none⟩) 1 (W.alloc (.cells #[.int .i64 t] 3)) (hL.later (below_alloc hW _)) (by intro n hn; rw [List.mem_singleton.1 hn]; omega) (by simp) (by simp) ⟨by simp, fun k hk => by
    obtain rfl : k = 0 := by simpa using hk
    refine ⟨_, _, rfl, ?_⟩
    rw [World.cell?_alloc_at _ _ _ _ (by simp [hV])]
    simp [Int.toNat_of_nonneg t0]⟩)
  rw [show RunM.row [t.toNat] = RunM.digits t.toNat from rfl] at CR
  generalize RunM.bs (RunM.digits t.toNat) = out at CR ⊢
  clear hb hL h0 h1
  go_enter Tryz.func36, Tryz.ntmps36
  go_wp2_with fail
  refine (unhide C _).mono ?_
  rintro e w1 ⟨rfl, hb1⟩
  have HB1 := hide (bel3 (Below.refl _ _) (show Below w.heap.size w (w.alloc _) from (by (repeat' (first | exact Below.refl _ _ | refine Below.alloc ?_ ?_ _ | refine Below.setCell ?_ ?_ _ | refine Below.drew ?_)); all_goals (first | exact Nat.le_refl _ | omega | (simp; done) | (simp; omega)))) hb1)
  clear hb1
  go_wp2_with fail
  refine (unhide CR _ _ (unhide HB1) rfl).mono ?_
  rintro e w2 ⟨rfl, hb2⟩
  have HB2 := hide (bel3 (unhide HB1) (below_alloc (Below.refl _ _) _) hb2)
  clear hb2
  go_wp2
  go_ret2
  exact ⟨rfl, unhide HB2⟩
theorem rwho_no (s m : Int) (T : TypeId) (u : Value) (w : World) :
    Calls Tryz.prog 36 #[.agg #[.int .i64 s, .int .i64 m], .iface T u] w fun e w' => e = .returned (.tuple #[.string ⟨#[]⟩, .iface T u]) ∧ Below w.heap.size w w' := by
  go_enter Tryz.func36, Tryz.ntmps36
  go_wp2
  go_ret2
  exact ⟨rfl, (by (repeat' (first | exact Below.refl _ _ | refine Below.alloc ?_ ?_ _ | refine Below.setCell ?_ ?_ _ | refine Below.drew ?_)); all_goals (first | exact Nat.le_refl _ | omega | (simp; done) | (simp; omega)))⟩
end Go.Proofs.YthaicpepgianpakGreatDoor
