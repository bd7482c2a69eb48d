/-
  The library's functions that package run calls, by contracts in this session's own words.
-/
import Derived.Test.YthaicpepgianpakGreatDoorRunLibMath
import Derived.Test.YthaicpepgianpakGreatDoorRunShelf
import Derived.Test.YthaicpepgianpakGreatDoorAs
import Derived.Test.YthaicpepgianpakGreatDoorJoinedHeld
import Derived.Lib.SmallJoins
import Derived.Lib.AppendStr
import Derived.Deep.AppendLies
import Derived.Deep.QuietTactic
import Derived.BigQuiet
import Derived.WalkSmall
import Derived.Lib.AppendIntMem
import Derived.Shelf.Strconv.ErrVarAll
namespace Go.Proofs.YthaicpepgianpakGreatDoor
open Go.RowKit
set_option linter.unusedVariables false

/-- What the listed variables hold, as far as the walks read them. -/
structure Laid (w : World) : Prop where
  err : ErrType w
  tab : Go.Lib.TabIs Tryz.prog w "internal/strconv.uint64pow10" .u64 Go.Lib.pow10Tab
  syn : ∃ tp p, w.var? Tryz.prog "strconv.ErrSyntax" = some #[.iface tp p]
  rng : ∃ tp p, w.var? Tryz.prog "strconv.ErrRange" = some #[.iface tp p]
theorem tabName : Tryz.prog.globalNamed "internal/strconv.uint64pow10" = some 4 := by kernel_rfl
theorem gSyn : Tryz.prog.globalNamed "strconv.ErrSyntax" = some 2 := by kernel_rfl
theorem gRng : Tryz.prog.globalNamed "strconv.ErrRange" = some 3 := by kernel_rfl
theorem Laid.over {w w' : World} {B : Nat} (h : Laid w) (hc : ErrType w') (hb : Below B w w') (hB : w.heap.size ≤ B) : Laid w' := by
  obtain ⟨h1, h2, ⟨t3, p3, c3⟩, ⟨t4, p4, c4⟩⟩ := h
  exact ⟨hc, Go.Joins.tab_stays tabName h2 hb hB, ⟨t3, p3, Go.Joins.var_stays gSyn c3 hb hB⟩, ⟨t4, p4, Go.Joins.var_stays gRng c4 hb hB⟩⟩
theorem Laid.later {w w' : World} (h : Laid w) (hb : Below w.heap.size w w') : Laid w' := h.over (h.err.later hb) hb (Nat.le_refl _)

theorem itoa_any (n : Int) (w : World) (h0 : 0 ≤ n) (h1 : n < 1000000000000000000) (hL : Laid w) :
    Calls Tryz.prog 66 #[.int .i64 n] w fun e w' => e = .returned (.string (RunM.bs (RunM.digits n.toNat))) ∧ Below w.heap.size w w' := by
  refine (sh_strconv_Itoa n (by omega) (by omega) w hL.tab).mono ?_
  rintro e w' ⟨rfl, k, os, rfl⟩
  rw [RunM.itoa_digits h0 h1]
  exact ⟨rfl, Go.Lib.below_grow _ _ (Nat.le_refl _) _ _⟩
/-- A number that is one. -/
theorem atoi_yes {s : ByteArray} {v : Int} (w : World) (hs : s.size ≤ 3000) (h : Go.Lib.atoiAll s.data.toList = .ok v) :
    Calls Tryz.prog 81 #[.string s] w fun e w' => e = .returned (.tuple #[.int .i64 v, .nilIface]) ∧ Below w.heap.size w w' := by
  refine (sh_strconv_Atoi_ok s (by omega) v h w).mono ?_
  rintro e w' ⟨rfl, hw⟩
  refine ⟨rfl, ?_⟩
  rcases hw with rfl | ⟨t, rfl⟩
  · exact Below.refl _ _
  · exact Go.Lib.bytesWorld_below _ _ _
/-- One that is none, or too great: some number, and an error. -/
theorem atoi_no {s : ByteArray} (w : World) (hs : s.size ≤ 3000) (hL : Laid w) (h : ∀ v, ¬ Go.Lib.atoiAll s.data.toList = .ok v) :
    Calls Tryz.prog 81 #[.string s] w fun e w' => ∃ v T p, e = .returned (.tuple #[.int .i64 v, .iface T (.pointer (some p))]) ∧ Below w.heap.size w w' := by
  cases hc : Go.Lib.atoiAll s.data.toList
  · exact absurd hc (h _)
  · obtain ⟨tp, pp, hv⟩ := hL.syn
    refine Calls.mono (show Calls Tryz.prog 81 #[.string s] w _ from Any.strconv_Atoi_syntax_var sh_laysC172 s (by omega) hc tp pp w hv) ?_
    rintro e w' ⟨N, rfl, _, _, hb⟩
    exact ⟨_, _, _, rfl, hb⟩
  · obtain ⟨tp, pp, hv⟩ := hL.rng
    refine Calls.mono (show Calls Tryz.prog 81 #[.string s] w _ from Any.strconv_Atoi_range_var sh_laysC172 s (by omega) hc tp pp w hv) ?_
    rintro e w' ⟨N, rfl, _, _, hb⟩
    exact ⟨_, _, _, rfl, hb⟩

theorem infoStr : (Tryz.prog.info? 9).map (fun i => (i.zero, i.size, i.bytes)) = some (some (.string ByteArray.empty), 1, 16) := by kernel_rfl
/-- The pieces of a string, as strings. -/
def pcs (s : ByteArray) : List ByteArray := (RunM.cut 32 s.data.toList).map RunM.bs
theorem pcs_split (s : ByteArray) : Go.Lib.splitB ⟨#[32]⟩ 0 (Go.Lib.countB s ⟨#[32]⟩) s = pcs s := by
  have h := Go.Lib.splitB_data ⟨#[32]⟩ 0 (Go.Lib.countB s ⟨#[32]⟩) s
  have h2 : Go.Lib.splitK [32] 0 (Go.Lib.count s.data.toList [32]) s.data.toList = RunM.cut 32 s.data.toList := RunM.split_cut 32 _
  unfold pcs
  rw [← h2]
  show _ = (Go.Lib.splitK (⟨#[32]⟩ : ByteArray).data.toList 0 (Go.Lib.countB s ⟨#[32]⟩) s.data.toList).map RunM.bs
  rw [← h, List.map_map]
  exact (List.map_id _).symm.trans (List.map_congr_left (fun x _ => (RunM.bs_data x).symm))
set_option maxHeartbeats 1600000 in
theorem split_any (s : ByteArray) (w : World) (hs : s.size ≤ 3000) :
    Calls Tryz.prog 57 #[.string s, .string ⟨#[32]⟩] w fun e w' => e = .returned (.slice (some ⟨w.heap.size, 0, none⟩) (pcs s).length (pcs s).length) ∧ w' = w.alloc (.cells ((pcs s).map Value.string).toArray 9) := by
  have hle := Go.Lib.countB_le ⟨#[32]⟩ (by decide) s.size s (Nat.le_refl _)
  have hlen := Go.Lib.splitB_all ⟨#[32]⟩ (by decide) 0 _ s rfl
  rw [pcs_split] at hlen
  have hI : ∀ (x : ByteArray) (c : Array Value), x.size ≤ s.size → Calls Tryz.prog 110 #[.string x, .string ⟨#[32]⟩] (w.alloc (.cells c 9)) fun e w' => e = .returned (.int .i64 (Go.Lib.indexB x ⟨#[32]⟩)) ∧ w' = w.alloc (.cells c 9) := fun x c _ => by
    refine (sh_strings_Index_one x 32 _).mono ?_
    rintro e w' ⟨rfl, hw⟩
    rw [← RunM.index_byte]
    exact ⟨rfl, hw⟩
  have hC : Calls Tryz.prog 109 #[.string s, .string ⟨#[32]⟩] w fun e w' => e = .returned (.int .i64 (Go.Lib.countB s ⟨#[32]⟩)) ∧ w' = w := by
    refine (sh_strings_Count_one s 32 w).mono ?_
    rintro e w' ⟨rfl, hw⟩
    refine ⟨?_, hw⟩
    show _ = Ending.returned (Value.int .i64 ((Go.Lib.count s.data.toList [32] : Nat) : Int))
    rw [Go.Lib.count_one]
    rfl
  have c := Any.strings_genSplit_core sh_lays221 infoStr s ⟨#[32]⟩ 0 (-1) (Go.Lib.countB s ⟨#[32]⟩ + 1) w (by omega) (by decide) (by decide) hI hC (by decide) (by decide) (by rw [if_pos (by decide)]; omega)
  rw [Nat.add_sub_cancel, pcs_split, hlen] at c
  have e2 : Go.Lib.cellsOf (pcs s) (Go.Lib.countB s ⟨#[32]⟩ + 1) = ((pcs s).map Value.string).toArray := by rw [← hlen]; exact Go.Lib.cellsOf_full _
  rw [e2] at c
  rw [hlen]
  have C : Hid (Calls Tryz.prog 80 #[.string s, .string ⟨#[32]⟩, .int .i64 (0 : Nat), .int .i64 (-1)] w fun e w' => e = .returned (.slice (some ⟨w.heap.size, 0, none⟩) (Go.Lib.countB s ⟨#[32]⟩ + 1) (Go.Lib.countB s ⟨#[32]⟩ + 1)) ∧ w' = w.alloc (.cells ((pcs s).map Value.string).toArray 9)) := hide c
  clear c e2 hC hI hlen hle
  generalize ((pcs s).map Value.string).toArray = cs at C ⊢
  generalize Go.Lib.countB s ⟨#[32]⟩ + 1 = k at C ⊢
  go_enter Tryz.func57, Tryz.ntmps57
  go_wp2_with fail
  refine (unhide C).mono ?_
  rintro e w' ⟨rfl, hw⟩
  rw [hw]
  go_wp2
  go_ret
  exact ⟨rfl, rfl⟩
/-- A string's first line, and what lies behind it. -/
theorem brk_bytes (s : ByteArray) (i : Nat) (h : Go.Lib.indexByte s.data.toList 10 = i) :
    RunM.bs (RunM.brk 10 s.data.toList).1 = s.extract 0 i ∧ RunM.bs (RunM.brk 10 s.data.toList).2 = s.extract (i + 1) s.size ∧ i < s.size := by
  obtain ⟨h1, h2⟩ := RunM.brk_hit 10 s.data.toList i h
  rw [h1]
  refine ⟨?_, ?_, by simpa using h2⟩
  · rw [Go.Lib.extract_eq]
    simp [RunM.bs]
  · have ht : List.take (s.size - (i + 1)) (List.drop (i + 1) s.data.toList) = List.drop (i + 1) s.data.toList := List.take_of_length_le (by rw [List.length_drop, ← Go.Lib.size_eq]; exact Nat.le_refl _)
    rw [Go.Lib.extract_eq, ht]
    rfl
set_option maxHeartbeats 1600000 in
theorem scut_any (s : ByteArray) (w : World) (hs : s.size ≤ 3000) :
    Calls Tryz.prog 56 #[.string s, .string ⟨#[10]⟩] w fun e w' => ∃ f, e = .returned (.tuple #[.string (RunM.bs (RunM.brk 10 s.data.toList).1), .string (RunM.bs (RunM.brk 10 s.data.toList).2), .bool f]) ∧ Below w.heap.size w w' := by
  have C := hide (fun W => sh_stringslite_Index_one s 10 W)
  by_cases hm : Go.Lib.indexByte s.data.toList 10 = -1
  · rw [hm] at C
    rw [RunM.brk_miss 10 _ hm, RunM.bs_data]
    clear hm
    go_enter Tryz.func56, Tryz.ntmps56
    go_wp2_with fail
    refine (unhide C _).mono ?_
    rintro e w' ⟨rfl, rfl⟩
    go_wp2
    go_ret3
    exact ⟨_, rfl, Below.refl _ _⟩
  · obtain ⟨i, hi⟩ : ∃ i : Nat, Go.Lib.indexByte s.data.toList 10 = i := ⟨(Go.Lib.indexByte s.data.toList 10).toNat, by have := Go.Lib.indexByte_ge s.data.toList 10; omega⟩
    obtain ⟨h1, h2, h3⟩ := brk_bytes s i hi
    rw [hi] at C
    rw [h1, h2]
    clear h1 h2 hm hi
    have q1 : (0 : Int) ≤ ↑i := by omega
    have q2 : (↑i : Int) ≤ ↑s.size := by omega
    have q3 : (0 : Int) ≤ ↑i + 1 := by omega
    have q4 : (↑i : Int) + 1 ≤ ↑s.size := by omega
    go_enter Tryz.func56, Tryz.ntmps56
    go_wp2_with fail
    refine (unhide C _).mono ?_
    rintro e w' ⟨rfl, rfl⟩
    go_wp2
    go_quiet (fail)
    go_wp2
    go_ret3
    exact ⟨_, rfl, below_drewN (Below.refl _ _) _⟩
theorem cut_any (s : ByteArray) (w : World) (hs : s.size ≤ 3000) :
    Calls Tryz.prog 32 #[.string s, .string ⟨#[10]⟩] w fun e w' => ∃ f, e = .returned (.tuple #[.string (RunM.bs (RunM.brk 10 s.data.toList).1), .string (RunM.bs (RunM.brk 10 s.data.toList).2), .bool f]) ∧ Below w.heap.size w w' := by
  have C := hide (scut_any s w hs)
  generalize RunM.bs (RunM.brk 10 s.data.toList).1 = a at C ⊢
  generalize RunM.bs (RunM.brk 10 s.data.toList).2 = b at C ⊢
  go_enter Tryz.func32, Tryz.ntmps32
  go_wp2_with fail
  refine (unhide C).mono ?_
  rintro e w1 ⟨f, rfl, hb⟩
  have HB := hide hb
  clear hb
  go_wp2
  go_ret3
  exact ⟨_, rfl, unhide HB⟩
/-- Numerals, a blank between. -/
theorem join_any (ns : List Nat) (bk c : Nat) (w : World) (h : ∀ n ∈ ns, n < 1000000) (hl : ns.length ≤ 10) (hcap : ns.length ≤ c) (hbk : bk < w.heap.size) (hc : ∀ j n, ns[j]? = some n → w.cell? ⟨bk, j, none⟩ = some (.string (RunM.bs (RunM.digits n)))) :
    Calls Tryz.prog 67 #[.slice (some ⟨bk, 0, none⟩) ns.length c, .string ⟨#[32]⟩] w fun e w' => e = .returned (.string (RunM.bs (RunM.row ns))) ∧ Below w.heap.size w w' := by
  have e1 : (ns.map (fun n => RunM.bs (RunM.digits n))).map (fun s : ByteArray => s.data.toList) = ns.map RunM.digits := by
    rw [List.map_map]
    exact List.map_congr_left (fun x _ => RunM.bs_list _)
  have e2 : Go.Lib.join ((ns.map (fun n => RunM.bs (RunM.digits n))).map (fun s : ByteArray => s.data.toList)) (⟨#[32]⟩ : ByteArray).data.toList = RunM.row ns := by
    rw [e1, RunM.row_join]
  have hr := RunM.row_len ns h
  have hj := sh_strings_Join bk 0 c (ns.map (fun n => RunM.bs (RunM.digits n))) ⟨#[32]⟩ w (fun j x hx => by
    rw [List.getElem?_map] at hx
    cases hn : ns[j]? with
    | none => rw [hn] at hx; cases hx
    | some n =>
      rw [hn] at hx
      cases hx
      rw [Nat.zero_add]
      exact hc j n hn) hbk (by rw [List.length_map]; omega) (by rw [List.length_map]; exact hcap) (by rw [e2]; omega)
  rw [e2, List.length_map] at hj
  exact hj
end Go.Proofs.YthaicpepgianpakGreatDoor
