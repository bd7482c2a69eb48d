/-
  No cell of these rows narrows 'for every input' (looked for: loops, veiled, ifaces, maps, wideKeys, modest, calm, conditions, laid).
  DERIVED. THE GIVEN ROWS OF THIS SEAT. 3 by the template 'for every input the law returns true; each argument reads behind the call as it read before'; 0 by the template 'total and deterministic' (their statements: YtimilfnbbimipajTotals.lean).
  GIVEN WITH THE SEED: the statements are not yours to turn. If you find one false, say at which input.
  Laid BY PROGRAM, IN A SANDBOX (cutbox-rows.mjs): the forced cells as the released guide's own fill.sh prints them over the translation 71089e24ec37a3b7… (all of the seat's roots in one cut). By AI agents, Wed Nov 11 2026. No macro, syntax, notation, axiom, sorry.
-/
import Derived.Test.YtimilfnbbimipajChecked
import GoSem.Claim
import GoSem.ClaimJoined
import GoSem.ClaimMapViews
import Derived.JoinedTies
import Derived.KernelRfl
namespace Go.Proofs.Ytimilfnbbimipaj
/- THE CELL 'sum', in the pinned program and in every row, IS THE sha256 OF THE DUMP (.gsa) THAT YtimilfnbbimipajProg.lean LOADS. Nothing in Lean hashes anything: it is a label: what it is worth is what the hold of that sum in a sandbox is worth. -/
noncomputable def Try.pinned : Pinned := { name := "ytimilfnbbimipaj", sum := "71089e24ec37a3b7af2c932054c4ec5689249d4892b90c2053921cc908fb478d", checked := Try.checked }
namespace Rows
def none {H : Type} : Left H := { results := [], args := [] }

/-- 'foldlaw2.ServerOnce': WHATEVER THE INPUT: true; the input reads as it did. -/
def serverOnceSpec : ChangeSpec := { name := "serverOnce", fn := fun _ => fun
  | [d1, d2, d3, d4, d5, d6] => { results := [.lit (.bool true)], args := [d1, d2, d3, d4, d5, d6] }
  | _ => none }
def serverOnceRow : OpenClaim := { program := "ytimilfnbbimipaj", sum := "71089e24ec37a3b7af2c932054c4ec5689249d4892b90c2053921cc908fb478d", func := "tokenfold/foldlaw2.ServerOnce", spec := "serverOnce", unfollowed := true, recurses := true, apart := false }
def ServerOnceSaid : Prop := serverOnceRow.holds Try.pinned (OpenSpec.ofChange serverOnceSpec)

/-- ITS FALSE NEIGHBOUR: 'it returns false'. Refute it at one input. -/
def serverOnceWrong : ChangeSpec := { name := "serverOnce", fn := fun _ => fun
  | [d1, d2, d3, d4, d5, d6] => { results := [.lit (.bool false)], args := [d1, d2, d3, d4, d5, d6] }
  | _ => none }
def ServerOnceWrongFalsely : Prop := serverOnceRow.holds Try.pinned (OpenSpec.ofChange serverOnceWrong)

/-- 'foldlaw4.ServerFirst': WHATEVER THE INPUT: true; the input reads as it did. -/
def serverFirstSpec : ChangeSpec := { name := "serverFirst", fn := fun _ => fun
  | [d1, d2, d3, d4] => { results := [.lit (.bool true)], args := [d1, d2, d3, d4] }
  | _ => none }
def serverFirstRow : OpenClaim := { program := "ytimilfnbbimipaj", sum := "71089e24ec37a3b7af2c932054c4ec5689249d4892b90c2053921cc908fb478d", func := "tokenfold/foldlaw4.ServerFirst", spec := "serverFirst", unfollowed := true, recurses := true, apart := false }
def ServerFirstSaid : Prop := serverFirstRow.holds Try.pinned (OpenSpec.ofChange serverFirstSpec)

/-- ITS FALSE NEIGHBOUR: 'it returns false'. Refute it at one input. -/
def serverFirstWrong : ChangeSpec := { name := "serverFirst", fn := fun _ => fun
  | [d1, d2, d3, d4] => { results := [.lit (.bool false)], args := [d1, d2, d3, d4] }
  | _ => none }
def ServerFirstWrongFalsely : Prop := serverFirstRow.holds Try.pinned (OpenSpec.ofChange serverFirstWrong)

/-- 'foldtop.TopKnown': WHATEVER THE INPUT: true; the input reads as it did. -/
def topKnownSpec : ChangeSpec := { name := "topKnown", fn := fun _ => fun
  | [d1, d2, d3, d4] => { results := [.lit (.bool true)], args := [d1, d2, d3, d4] }
  | _ => none }
def topKnownRow : OpenClaim := { program := "ytimilfnbbimipaj", sum := "71089e24ec37a3b7af2c932054c4ec5689249d4892b90c2053921cc908fb478d", func := "tokenfold/foldtop.TopKnown", spec := "topKnown", unfollowed := true, recurses := true, apart := false }
def TopKnownSaid : Prop := topKnownRow.holds Try.pinned (OpenSpec.ofChange topKnownSpec)

/-- ITS FALSE NEIGHBOUR: 'it returns false'. Refute it at one input. -/
def topKnownWrong : ChangeSpec := { name := "topKnown", fn := fun _ => fun
  | [d1, d2, d3, d4] => { results := [.lit (.bool false)], args := [d1, d2, d3, d4] }
  | _ => none }
def TopKnownWrongFalsely : Prop := topKnownRow.holds Try.pinned (OpenSpec.ofChange topKnownWrong)

/- THE SECOND FORM. 'bulk': how many values and letters a reading holds, each counted each time it is reached (what is shared counts as often as it is met; a slice's spare places count too). A statement '..UptoSaid' is the law's where the arguments, and the package variables that the reading takes, are together of bulk at most 1048576: NARROWER than '..Said'. Prove '..Said' where nothing that the law and all that it calls make is longer than what came in: it says more and counts as full. Else prove '..UptoSaid'. A law counts once. -/
mutual
def uptoBulk {H : Type} : DataW H → Nat
  | .lit (.string bytes) => bytes.length + 1
  | .lit _ => 1
  | .nil => 1
  | .ptr d => uptoBulk d + 1
  | .slice elems spare => uptoBulkAll elems + uptoBulkAll spare + 1
  | .agg parts => uptoBulkAll parts + 1
  | .iface _ d => uptoBulk d + 1
  | .map entries => uptoBulkEntries entries + 1
  | .held _ => 1
def uptoBulkAll {H : Type} : List (DataW H) → Nat
  | [] => 0
  | d :: r => uptoBulk d + uptoBulkAll r
def uptoBulkEntries {H : Type} : List (Lit × DataW H) → Nat
  | [] => 0
  | x :: r => uptoBulkEntry x + uptoBulkEntries r
def uptoBulkEntry {H : Type} : Lit × DataW H → Nat
  | (.string bytes, d) => bytes.length + uptoBulk d + 1
  | (_, d) => uptoBulk d + 1
 end
def uptoSmall : (H : Type) → List (DataW H) → Bool := fun _ ds => decide (uptoBulkAll ds ≤ 1048576)
def OpenSpec.upto (s : _root_.Go.ChangeSpec) : _root_.Go.OpenSpec := { _root_.Go.OpenSpec.ofChange s with cond := some uptoSmall }

/-- 'foldlaw2.ServerOnce', WHERE WHAT IT READS IS OF BULK AT MOST 1048576: true; the input reads as it did. -/
def serverOnceUptoRow : OpenClaim := { program := "ytimilfnbbimipaj", sum := "71089e24ec37a3b7af2c932054c4ec5689249d4892b90c2053921cc908fb478d", func := "tokenfold/foldlaw2.ServerOnce", spec := "serverOnce", unfollowed := true, recurses := true, apart := false, narrowed := true }
def ServerOnceUptoSaid : Prop := serverOnceUptoRow.holds Try.pinned (OpenSpec.upto serverOnceSpec)

/-- 'foldlaw4.ServerFirst', WHERE WHAT IT READS IS OF BULK AT MOST 1048576: true; the input reads as it did. -/
def serverFirstUptoRow : OpenClaim := { program := "ytimilfnbbimipaj", sum := "71089e24ec37a3b7af2c932054c4ec5689249d4892b90c2053921cc908fb478d", func := "tokenfold/foldlaw4.ServerFirst", spec := "serverFirst", unfollowed := true, recurses := true, apart := false, narrowed := true }
def ServerFirstUptoSaid : Prop := serverFirstUptoRow.holds Try.pinned (OpenSpec.upto serverFirstSpec)

/-- 'foldtop.TopKnown', WHERE WHAT IT READS IS OF BULK AT MOST 1048576: true; the input reads as it did. -/
def topKnownUptoRow : OpenClaim := { program := "ytimilfnbbimipaj", sum := "71089e24ec37a3b7af2c932054c4ec5689249d4892b90c2053921cc908fb478d", func := "tokenfold/foldtop.TopKnown", spec := "topKnown", unfollowed := true, recurses := true, apart := false, narrowed := true }
def TopKnownUptoSaid : Prop := topKnownUptoRow.holds Try.pinned (OpenSpec.upto topKnownSpec)

end Rows
end Go.Proofs.Ytimilfnbbimipaj
