/-
  Texts joined: RunLaid RunHead.
-/
import Derived.Test.YthaicpepgianpakGreatDoorRunLib
import Derived.Test.YthaicpepgianpakGreatDoorTie
import Derived.Test.YthaicpepgianpakGreatDoorCards
import Derived.ProofKit
import Derived.Lib.SmallJoins
import Derived.LaidMore
import Derived.LaidHandle
import Derived.LaidLaws
import Derived.Lay
import Derived.Stop.LaidErr
import Derived.Lib.LaidTab
import Derived.Stop.Joined
import Derived.SevenTiedAt
import Derived.Test.YthaicpepgianpakGreatDoorRunAll
import Derived.PlainAid
import Derived.WalkSpells
namespace Go.Proofs.YthaicpepgianpakGreatDoor
open Go.RowKit Go.ChangeShapes
set_option linter.unusedVariables false

/-- The listed variables but the one that holds a handle. -/
def laid7 : List (String × DataW Unit) := [("math/bits.deBruijn32tab", Rows.laid_math_bits_deBruijn32tab), ("math/bits.deBruijn64tab", Rows.laid_math_bits_deBruijn64tab), ("internal/strconv.uint64pow10", Rows.laid_internal_strconv_uint64pow10), ("unicode/utf8.acceptRanges", Rows.laid_unicode_utf8_acceptRanges), ("strconv.ErrRange", Rows.laid_strconv_ErrRange), ("strconv.ErrSyntax", Rows.laid_strconv_ErrSyntax), ("unicode/utf8.first", Rows.laid_unicode_utf8_first)]
theorem laid_split {W : World} (h : laidMetH Tryz.prog Rows.runAnswersRow.laid W) : laidMet Tryz.prog laid7 W ∧ handlesMet Tryz.prog [("errors.errorType", Rows.laid_errors_errorType)] W := h
theorem gSynType : (Tryz.prog.globals[2]?).map (·.type) = some 36 := by kernel_rfl
theorem gRngType : (Tryz.prog.globals[3]?).map (·.type) = some 36 := by kernel_rfl
theorem cellsES : Tryz.prog.cellsOf 261 = 1 := by kernel_rfl
theorem cellsStr : Tryz.prog.cellsOf 9 = 1 := by kernel_rfl
theorem starES : "*" ++ "errors.errorString" = "*errors.errorString" := by decide
theorem rowES (u : TypeId) (h : Tryz.prog.typeName? 3 u = some "*errors.errorString") : u = 259 :=
  typeName_ptr_named (nm := "errors.errorString") (by rw [starES]; kernel_rfl) (by kernel_rfl) (by decide) u (by rw [starES]; exact h)
namespace laid8
theorem gErr : Tryz.prog.globalNamed "errors.errorType" = some 0 := by kernel_rfl
theorem rtErr : (Tryz.prog.cutTypes.find? (·.1 == "internal/reflectlite.rtype")).map (·.2) = some 161 := by kernel_rfl
theorem oneRow : ((List.range 292).filter fun t => Tryz.prog.rowNamed t [101, 114, 114, 111, 114]) = [36] := by kernel_rfl
theorem sizeT : Tryz.prog.types.size = 292 := by kernel_rfl
theorem errType {W : World} (h' : handlesMet Tryz.prog [("errors.errorType", Rows.laid_errors_errorType)] W) : ErrType W := by
  obtain ⟨name, u, ty, e1, e2, e3, e4, e5⟩ := h' _ (List.mem_singleton.2 rfl)
  have en : name = [101, 114, 114, 111, 114] := (Option.some.inj e1).symm
  subst en
  obtain rfl := Option.some.inj (rtErr.symm.trans e2)
  have hm : ty ∈ (List.range 292).filter fun t => Tryz.prog.rowNamed t [101, 114, 114, 111, 114] := List.mem_filter.2 ⟨List.mem_range.2 (by rw [← sizeT]; exact e3), e4⟩
  rw [oneRow] at hm
  obtain rfl := List.mem_singleton.1 hm
  have hh : typeHandle Tryz.prog 36 = .pointer (some ⟨9, 36, none⟩) := by kernel_rfl
  rw [hh] at e5
  unfold ErrType
  simpa using World.var?_cell gErr e5 0
theorem tabOf {W : World} {rest : List (String × DataW Unit)} (h : laidMet Tryz.prog (("internal/strconv.uint64pow10", Rows.laid_internal_strconv_uint64pow10) :: rest) W) : Go.Lib.TabIs Tryz.prog W "internal/strconv.uint64pow10" .u64 Go.Lib.pow10Tab := by
  have e : (Rows.laid_internal_strconv_uint64pow10 : DataW Unit) = Go.Lib.tabData .u64 Go.Lib.pow10Tab := by rfl
  rw [e] at h
  exact Go.Lib.tabIs_of_head (t := 251) (e := 231) (n := 20) tabName (by kernel_rfl) Tryz.underlying251 Tryz.underlying231 (by kernel_rfl) (by kernel_rfl) h
end laid8
theorem laid_of {W : World} (h : laidMetH Tryz.prog Rows.runAnswersRow.laid W) : Laid W := by
  obtain ⟨h7, hH⟩ := laid_split h
  have h7' : laidMet Tryz.prog laid7 W := h7
  unfold laid7 at h7'
  obtain ⟨a0, s0, v0, c0, _, _⟩ := laid_sentinel h7'.tail.tail.tail.tail gRng gRngType Tryz.underlying36 rowES Tryz.underlying259 Tryz.underlying261 rfl rfl Tryz.underlying9 cellsES cellsStr
  obtain ⟨a1, s1, v1, c1, _, _⟩ := laid_sentinel h7'.tail.tail.tail.tail.tail gSyn gSynType Tryz.underlying36 rowES Tryz.underlying259 Tryz.underlying261 rfl rfl Tryz.underlying9 cellsES cellsStr
  exact ⟨laid8.errType hH, laid8.tabOf h7'.tail.tail, ⟨_, _, v1⟩, ⟨_, _, v0⟩⟩

theorem wit_os (os : Os) : (((World.holding Tryz.prog os ⟨#[], #[], []⟩).setCell ⟨0, 0, none⟩ (.iface 161 (.agg #[.pointer (some ⟨9, 36, none⟩)]))).layVars Tryz.prog laid7).os = os := (World.layVars_os _ _ _).trans rfl
theorem wit_filter : (laid7.filter fun x => (laid7.map (·.1)).contains x.1) = laid7 := List.filter_eq_self.2 fun x hx => List.contains_iff_mem.2 (List.mem_map.2 ⟨x, hx, rfl⟩)
theorem wit_none : (laid7.filter fun x => !(laid7.map (·.1)).contains x.1) = [] := List.filter_eq_nil_iff.2 fun x hx => by rw [List.contains_iff_mem.2 (List.mem_map.2 ⟨x, hx, rfl⟩)]; simp
theorem wit_fits (os : Os) : ((World.holding Tryz.prog os ⟨#[], #[], []⟩).setCell ⟨0, 0, none⟩ (.iface 161 (.agg #[.pointer (some ⟨9, 36, none⟩)]))).layFits Tryz.prog laid7 [] = true := by kernel_rfl
theorem wit_ifaces (os : Os) : ((World.holding Tryz.prog os ⟨#[], #[], []⟩).setCell ⟨0, 0, none⟩ (.iface 161 (.agg #[.pointer (some ⟨9, 36, none⟩)]))).layIfaces Tryz.prog laid7 (((World.holding Tryz.prog os ⟨#[], #[], []⟩).setCell ⟨0, 0, none⟩ (.iface 161 (.agg #[.pointer (some ⟨9, 36, none⟩)]))).layVars Tryz.prog laid7) = true := by kernel_rfl
theorem wit_met7 (os : Os) : laidMet Tryz.prog laid7 (((World.holding Tryz.prog os ⟨#[], #[], []⟩).setCell ⟨0, 0, none⟩ (.iface 161 (.agg #[.pointer (some ⟨9, 36, none⟩)]))).layVars Tryz.prog laid7) :=
  laidMet_layVars (w0 := ((World.holding Tryz.prog os ⟨#[], #[], []⟩).setCell ⟨0, 0, none⟩ (.iface 161 (.agg #[.pointer (some ⟨9, 36, none⟩)])))) (laid7.map (·.1)) [] (by rw [wit_filter]) (by rw [wit_filter]; exact wit_fits os) (by rw [wit_filter]; exact wit_ifaces os) (by rw [wit_none]; exact LaidIn.none)
theorem wit_handles (os : Os) : (Rows.runAnswersRow.laid.filter fun x => x.2.handleName?.isSome).all (handleAtB Tryz.prog (((World.holding Tryz.prog os ⟨#[], #[], []⟩).setCell ⟨0, 0, none⟩ (.iface 161 (.agg #[.pointer (some ⟨9, 36, none⟩)]))).layVars Tryz.prog laid7)) = true := by kernel_rfl
theorem wit_metH (os : Os) : laidMetH Tryz.prog Rows.runAnswersRow.laid (((World.holding Tryz.prog os ⟨#[], #[], []⟩).setCell ⟨0, 0, none⟩ (.iface 161 (.agg #[.pointer (some ⟨9, 36, none⟩)]))).layVars Tryz.prog laid7) := laidMetH_of_parts (wit_met7 os) (wit_handles os)
theorem wit_met (os : Os) (args : Array Value) : laidMetH Tryz.prog Rows.runAnswersRow.laid ((((World.holding Tryz.prog os ⟨#[], #[], []⟩).setCell ⟨0, 0, none⟩ (.iface 161 (.agg #[.pointer (some ⟨9, 36, none⟩)]))).layVars Tryz.prog laid7).forCall (fun _ _ => 0) ⟨#[], args, []⟩).memory :=
  (wit_metH os).of_heap (by simp [World.memory, World.forCall, Input.heap])
theorem wit_zip (os : Os) : (((World.holding Tryz.prog os ⟨#[], #[], []⟩).setCell ⟨0, 0, none⟩ (.iface 161 (.agg #[.pointer (some ⟨9, 36, none⟩)]))).layVars Tryz.prog laid7).variablesZipB Tryz.prog = true := by kernel_rfl
theorem wit_rest (os : Os) : ((((World.holding Tryz.prog os ⟨#[], #[], []⟩).setCell ⟨0, 0, none⟩ (.iface 161 (.agg #[.pointer (some ⟨9, 36, none⟩)]))).layVars Tryz.prog laid7).heap.toList.drop Tryz.prog.globals.size).take ((begin Tryz.prog (fun _ _ => 0) default).world.heap.size - Tryz.prog.globals.size) = (begin Tryz.prog (fun _ _ => 0) default).world.heap.toList.drop Tryz.prog.globals.size := by kernel_rfl
theorem wit_shaped (os : Os) : (((World.holding Tryz.prog os ⟨#[], #[], []⟩).setCell ⟨0, 0, none⟩ (.iface 161 (.agg #[.pointer (some ⟨9, 36, none⟩)]))).layVars Tryz.prog laid7).Shaped Tryz.prog := World.shaped_of_ZipB (wit_zip os) (wit_rest os)
end Go.Proofs.YthaicpepgianpakGreatDoor
namespace Go.Proofs.YthaicpepgianpakGreatDoor
open Go.RowKit
set_option linter.unusedVariables false

theorem run_any (t : ByteArray) (w : World) (hm : t.size ≤ maxLen) (hL : Laid w) :
    Calls Tryz.prog 6 #[.string t] w fun e w' => e = .returned (.string (RunM.bs (RunM.run t.data.toList))) ∧ Below w.heap.size w w' := by
  have hz := Go.Lib.size_eq t
  unfold RunM.run
  by_cases h : 3000 < t.size
  · rw [if_pos (by omega)]
    refine (run_long t w h hm).mono ?_
    rintro e w' ⟨rfl, rfl⟩
    exact ⟨rfl, Below.refl _ _⟩
  · rw [if_neg (by omega)]
    exact run_short t w (by omega) hL
namespace RunM
theorem lines_glue (a b : List UInt8) (h : a = [] ∨ ∃ c, a = c ++ [10]) : lines (a ++ b) = lines a ++ lines b := by
  rcases h with rfl | ⟨c, rfl⟩
  · rfl
  · have e1 : cut 10 (c ++ [10]) = cut 10 c ++ [[]] := cut_append 10 c []
    have e2 : cut 10 (c ++ [10] ++ b) = cut 10 c ++ cut 10 b := by
      rw [List.append_assoc]; exact cut_append 10 c b
    have f : ∀ x y : List (List UInt8), y ≠ [] → (if (x ++ y).getLast? = some [] then (x ++ y).dropLast else x ++ y) = x ++ (if y.getLast? = some [] then y.dropLast else y) := by
      intro x y hy
      have hl : (x ++ y).getLast? = y.getLast? := by
        rw [List.getLast?_append, List.getLast?_eq_some_getLast hy]; rfl
      rw [hl, List.dropLast_append_of_ne_nil hy]
      split <;> rfl
    unfold lines
    rw [e1, e2, f _ _ (cut_ne 10 b), f (cut 10 c) [[]] (by simp)]
    simp
theorem lines_begin (t : List UInt8) (k : Nat) (h : k = 0 ∨ (0 < k ∧ t[k - 1]? = some 10) ∨ t.length ≤ k) : lines t = lines (t.take k) ++ lines (t.drop k) := by
  rcases h with rfl | ⟨h1, h2⟩ | h
  · rfl
  · rw [← lines_glue _ _ (.inr ⟨t.take (k - 1), ?_⟩), List.take_append_drop]
    obtain ⟨j, rfl⟩ : ∃ j, k = j + 1 := ⟨k - 1, by omega⟩
    rw [List.take_add_one, Nat.add_sub_cancel]
    rw [Nat.add_sub_cancel] at h2
    rw [h2]; rfl
  · rw [List.take_of_length_le h, List.drop_eq_nil_of_le h, lines_nil, List.append_nil]
theorem run_begins (t : List UInt8) (k : Nat) (ht : t.length ≤ 3000) (h : k = 0 ∨ (0 < k ∧ t[k - 1]? = some 10) ∨ t.length ≤ k) : ∃ r, run t = run (t.take k) ++ r := by
  have h2 : (t.take k).length ≤ 3000 := by rw [List.length_take]; omega
  refine ⟨out (left new (lines (t.take k))) (lines (t.drop k)), ?_⟩
  unfold run
  rw [if_neg (by omega), if_neg (by omega), ← out_append, ← lines_begin t k h]
theorem run_size (t : List UInt8) : (run t).length ≤ 200000 := by
  unfold run
  split
  · decide
  · have h1 := (lines_len t.length t (Nat.le_refl _)).1
    have h2 := out_len new_good (lines t)
    omega
end RunM
end Go.Proofs.YthaicpepgianpakGreatDoor
