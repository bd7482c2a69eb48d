/-
  No cell of these rows narrows 'for every input' (looked for: loops, veiled, ifaces, maps, wideKeys, modest, calm, conditions, laid).
  DERIVED. THE GIVEN ROWS OF THIS SEAT. 4 by the template 'for every input the law returns true; each argument reads behind the call as it read before'; 0 by the template 'total and deterministic' (their statements: YtbfofcblhjlgmaeTotals.lean).
  GIVEN WITH THE SEED: the statements are not yours to turn. If you find one false, say at which input.
  Laid BY PROGRAM, IN A SANDBOX (cutbox-rows.mjs): the forced cells as the released guide's own fill.sh prints them over the translation a4c19fab9290e37d… (all of the seat's roots in one cut). By AI agents, Wed Nov 11 2026. No macro, syntax, notation, axiom, sorry.
-/
import Derived.Test.YtbfofcblhjlgmaeChecked
import GoSem.Claim
import GoSem.ClaimJoined
import GoSem.ClaimMapViews
import Derived.JoinedTies
import Derived.KernelRfl
namespace Go.Proofs.Ytbfofcblhjlgmae
/- THE CELL 'sum', in the pinned program and in every row, IS THE sha256 OF THE DUMP (.gsa) THAT YtbfofcblhjlgmaeProg.lean LOADS. Nothing in Lean hashes anything: it is a label: what it is worth is what the hold of that sum in a sandbox is worth. -/
noncomputable def Try.pinned : Pinned := { name := "ytbfofcblhjlgmae", sum := "a4c19fab9290e37d831489a99eef4eae4eae332e500eed99e98c36ca875ca860", checked := Try.checked }
namespace Rows
def none {H : Type} : Left H := { results := [], args := [] }

/-- 'foldlaw4.ConnAll': WHATEVER THE INPUT: true; the input reads as it did. -/
def connAllSpec : ChangeSpec := { name := "connAll", fn := fun _ => fun
  | [d] => { results := [.lit (.bool true)], args := [d] }
  | _ => none }
def connAllRow : OpenClaim := { program := "ytbfofcblhjlgmae", sum := "a4c19fab9290e37d831489a99eef4eae4eae332e500eed99e98c36ca875ca860", func := "tokenfold/foldlaw4.ConnAll", spec := "connAll", apart := false }
def ConnAllSaid : Prop := connAllRow.holds Try.pinned (OpenSpec.ofChange connAllSpec)

/-- ITS FALSE NEIGHBOUR: 'it returns false'. Refute it at one input. -/
def connAllWrong : ChangeSpec := { name := "connAll", fn := fun _ => fun
  | [d] => { results := [.lit (.bool false)], args := [d] }
  | _ => none }
def ConnAllWrongFalsely : Prop := connAllRow.holds Try.pinned (OpenSpec.ofChange connAllWrong)

/-- 'foldlaw1.ResetOwn': WHATEVER THE INPUT: true; the input reads as it did. -/
def resetOwnSpec : ChangeSpec := { name := "resetOwn", fn := fun _ => fun
  | [d1, d2, d3] => { results := [.lit (.bool true)], args := [d1, d2, d3] }
  | _ => none }
def resetOwnRow : OpenClaim := { program := "ytbfofcblhjlgmae", sum := "a4c19fab9290e37d831489a99eef4eae4eae332e500eed99e98c36ca875ca860", func := "tokenfold/foldlaw1.ResetOwn", spec := "resetOwn", apart := false }
def ResetOwnSaid : Prop := resetOwnRow.holds Try.pinned (OpenSpec.ofChange resetOwnSpec)

/-- ITS FALSE NEIGHBOUR: 'it returns false'. Refute it at one input. -/
def resetOwnWrong : ChangeSpec := { name := "resetOwn", fn := fun _ => fun
  | [d1, d2, d3] => { results := [.lit (.bool false)], args := [d1, d2, d3] }
  | _ => none }
def ResetOwnWrongFalsely : Prop := resetOwnRow.holds Try.pinned (OpenSpec.ofChange resetOwnWrong)

/-- 'foldlaw4.ResetWrong': WHATEVER THE INPUT: true; the input reads as it did. -/
def resetWrongSpec : ChangeSpec := { name := "resetWrong", fn := fun _ => fun
  | [d1, d2, d3] => { results := [.lit (.bool true)], args := [d1, d2, d3] }
  | _ => none }
def resetWrongRow : OpenClaim := { program := "ytbfofcblhjlgmae", sum := "a4c19fab9290e37d831489a99eef4eae4eae332e500eed99e98c36ca875ca860", func := "tokenfold/foldlaw4.ResetWrong", spec := "resetWrong", apart := false }
def ResetWrongSaid : Prop := resetWrongRow.holds Try.pinned (OpenSpec.ofChange resetWrongSpec)

/-- ITS FALSE NEIGHBOUR: 'it returns false'. Refute it at one input. -/
def resetWrongWrong : ChangeSpec := { name := "resetWrong", fn := fun _ => fun
  | [d1, d2, d3] => { results := [.lit (.bool false)], args := [d1, d2, d3] }
  | _ => none }
def ResetWrongWrongFalsely : Prop := resetWrongRow.holds Try.pinned (OpenSpec.ofChange resetWrongWrong)

/-- 'foldlaw4.LifeMany': WHATEVER THE INPUT: true; the input reads as it did. -/
def lifeManySpec : ChangeSpec := { name := "lifeMany", fn := fun _ => fun
  | [d] => { results := [.lit (.bool true)], args := [d] }
  | _ => none }
def lifeManyRow : OpenClaim := { program := "ytbfofcblhjlgmae", sum := "a4c19fab9290e37d831489a99eef4eae4eae332e500eed99e98c36ca875ca860", func := "tokenfold/foldlaw4.LifeMany", spec := "lifeMany", apart := false }
def LifeManySaid : Prop := lifeManyRow.holds Try.pinned (OpenSpec.ofChange lifeManySpec)

/-- ITS FALSE NEIGHBOUR: 'it returns false'. Refute it at one input. -/
def lifeManyWrong : ChangeSpec := { name := "lifeMany", fn := fun _ => fun
  | [d] => { results := [.lit (.bool false)], args := [d] }
  | _ => none }
def LifeManyWrongFalsely : Prop := lifeManyRow.holds Try.pinned (OpenSpec.ofChange lifeManyWrong)

/- THE SECOND FORM. 'bulk': how many values and letters a reading holds, each counted each time it is reached (what is shared counts as often as it is met; a slice's spare places count too). A statement '..UptoSaid' is the law's where the arguments, and the package variables that the reading takes, are together of bulk at most 1048576: NARROWER than '..Said'. Prove '..Said' where nothing that the law and all that it calls make is longer than what came in: it says more and counts as full. Else prove '..UptoSaid'. A law counts once. -/
mutual
def uptoBulk {H : Type} : DataW H → Nat
  | .lit (.string bytes) => bytes.length + 1
  | .lit _ => 1
  | .nil => 1
  | .ptr d => uptoBulk d + 1
  | .slice elems spare => uptoBulkAll elems + uptoBulkAll spare + 1
  | .agg parts => uptoBulkAll parts + 1
  | .iface _ d => uptoBulk d + 1
  | .map entries => uptoBulkEntries entries + 1
  | .held _ => 1
def uptoBulkAll {H : Type} : List (DataW H) → Nat
  | [] => 0
  | d :: r => uptoBulk d + uptoBulkAll r
def uptoBulkEntries {H : Type} : List (Lit × DataW H) → Nat
  | [] => 0
  | x :: r => uptoBulkEntry x + uptoBulkEntries r
def uptoBulkEntry {H : Type} : Lit × DataW H → Nat
  | (.string bytes, d) => bytes.length + uptoBulk d + 1
  | (_, d) => uptoBulk d + 1
 end
def uptoSmall : (H : Type) → List (DataW H) → Bool := fun _ ds => decide (uptoBulkAll ds ≤ 1048576)
def OpenSpec.upto (s : _root_.Go.ChangeSpec) : _root_.Go.OpenSpec := { _root_.Go.OpenSpec.ofChange s with cond := some uptoSmall }

/-- 'foldlaw4.ConnAll', WHERE WHAT IT READS IS OF BULK AT MOST 1048576: true; the input reads as it did. -/
def connAllUptoRow : OpenClaim := { program := "ytbfofcblhjlgmae", sum := "a4c19fab9290e37d831489a99eef4eae4eae332e500eed99e98c36ca875ca860", func := "tokenfold/foldlaw4.ConnAll", spec := "connAll", apart := false, narrowed := true }
def ConnAllUptoSaid : Prop := connAllUptoRow.holds Try.pinned (OpenSpec.upto connAllSpec)

/-- 'foldlaw1.ResetOwn', WHERE WHAT IT READS IS OF BULK AT MOST 1048576: true; the input reads as it did. -/
def resetOwnUptoRow : OpenClaim := { program := "ytbfofcblhjlgmae", sum := "a4c19fab9290e37d831489a99eef4eae4eae332e500eed99e98c36ca875ca860", func := "tokenfold/foldlaw1.ResetOwn", spec := "resetOwn", apart := false, narrowed := true }
def ResetOwnUptoSaid : Prop := resetOwnUptoRow.holds Try.pinned (OpenSpec.upto resetOwnSpec)

/-- 'foldlaw4.ResetWrong', WHERE WHAT IT READS IS OF BULK AT MOST 1048576: true; the input reads as it did. -/
def resetWrongUptoRow : OpenClaim := { program := "ytbfofcblhjlgmae", sum := "a4c19fab9290e37d831489a99eef4eae4eae332e500eed99e98c36ca875ca860", func := "tokenfold/foldlaw4.ResetWrong", spec := "resetWrong", apart := false, narrowed := true }
def ResetWrongUptoSaid : Prop := resetWrongUptoRow.holds Try.pinned (OpenSpec.upto resetWrongSpec)

/-- 'foldlaw4.LifeMany', WHERE WHAT IT READS IS OF BULK AT MOST 1048576: true; the input reads as it did. -/
def lifeManyUptoRow : OpenClaim := { program := "ytbfofcblhjlgmae", sum := "a4c19fab9290e37d831489a99eef4eae4eae332e500eed99e98c36ca875ca860", func := "tokenfold/foldlaw4.LifeMany", spec := "lifeMany", apart := false, narrowed := true }
def LifeManyUptoSaid : Prop := lifeManyUptoRow.holds Try.pinned (OpenSpec.upto lifeManySpec)

end Rows
end Go.Proofs.Ytbfofcblhjlgmae
