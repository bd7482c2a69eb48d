/-
  No cell of these rows narrows 'for every input' (looked for: loops, veiled, ifaces, maps, wideKeys, modest, calm, conditions, laid).
  DERIVED. THE GIVEN ROWS OF THIS SEAT. 3 by the template 'for every input the law returns true; each argument reads behind the call as it read before'; 0 by the template 'total and deterministic' (their statements: YtholccdkmgpjladTotals.lean).
  GIVEN WITH THE SEED: the statements are not yours to turn. If you find one false, say at which input.
  Laid BY PROGRAM, IN A SANDBOX (cutbox-rows.mjs): the forced cells as the released guide's own fill.sh prints them over the translation d1e6df907fd1a9e1… (all of the seat's roots in one cut). By AI agents, Wed Nov 11 2026. No macro, syntax, notation, axiom, sorry.
-/
import Derived.Test.YtholccdkmgpjladChecked
import GoSem.Claim
import GoSem.ClaimJoined
import GoSem.ClaimMapViews
import Derived.JoinedTies
import Derived.KernelRfl
namespace Go.Proofs.Ytholccdkmgpjlad
/- THE CELL 'sum', in the pinned program and in every row, IS THE sha256 OF THE DUMP (.gsa) THAT YtholccdkmgpjladProg.lean LOADS. Nothing in Lean hashes anything: it is a label: what it is worth is what the hold of that sum in a sandbox is worth. -/
noncomputable def Try.pinned : Pinned := { name := "ytholccdkmgpjlad", sum := "d1e6df907fd1a9e166f5bb384d4c828b1bc4c8884d946fbd496a3b644750dd2e", checked := Try.checked }
namespace Rows
def none {H : Type} : Left H := { results := [], args := [] }

/-- 'foldlaw1.BucketBounds': WHATEVER THE INPUT: true; the input reads as it did. -/
def bucketBoundsSpec : ChangeSpec := { name := "bucketBounds", fn := fun _ => fun
  | [d1, d2] => { results := [.lit (.bool true)], args := [d1, d2] }
  | _ => none }
def bucketBoundsRow : OpenClaim := { program := "ytholccdkmgpjlad", sum := "d1e6df907fd1a9e166f5bb384d4c828b1bc4c8884d946fbd496a3b644750dd2e", func := "tokenfold/foldlaw1.BucketBounds", spec := "bucketBounds", apart := false }
def BucketBoundsSaid : Prop := bucketBoundsRow.holds Try.pinned (OpenSpec.ofChange bucketBoundsSpec)

/-- ITS FALSE NEIGHBOUR: 'it returns false'. Refute it at one input. -/
def bucketBoundsWrong : ChangeSpec := { name := "bucketBounds", fn := fun _ => fun
  | [d1, d2] => { results := [.lit (.bool false)], args := [d1, d2] }
  | _ => none }
def BucketBoundsWrongFalsely : Prop := bucketBoundsRow.holds Try.pinned (OpenSpec.ofChange bucketBoundsWrong)

/-- 'foldlaw4.BucketStill': WHATEVER THE INPUT: true; the input reads as it did. -/
def bucketStillSpec : ChangeSpec := { name := "bucketStill", fn := fun _ => fun
  | [d] => { results := [.lit (.bool true)], args := [d] }
  | _ => none }
def bucketStillRow : OpenClaim := { program := "ytholccdkmgpjlad", sum := "d1e6df907fd1a9e166f5bb384d4c828b1bc4c8884d946fbd496a3b644750dd2e", func := "tokenfold/foldlaw4.BucketStill", spec := "bucketStill", apart := false }
def BucketStillSaid : Prop := bucketStillRow.holds Try.pinned (OpenSpec.ofChange bucketStillSpec)

/-- ITS FALSE NEIGHBOUR: 'it returns false'. Refute it at one input. -/
def bucketStillWrong : ChangeSpec := { name := "bucketStill", fn := fun _ => fun
  | [d] => { results := [.lit (.bool false)], args := [d] }
  | _ => none }
def BucketStillWrongFalsely : Prop := bucketStillRow.holds Try.pinned (OpenSpec.ofChange bucketStillWrong)

/-- 'foldlaw1.ConnBack': WHATEVER THE INPUT: true; the input reads as it did. -/
def connBackSpec : ChangeSpec := { name := "connBack", fn := fun _ => fun
  | [d1, d2, d3, d4] => { results := [.lit (.bool true)], args := [d1, d2, d3, d4] }
  | _ => none }
def connBackRow : OpenClaim := { program := "ytholccdkmgpjlad", sum := "d1e6df907fd1a9e166f5bb384d4c828b1bc4c8884d946fbd496a3b644750dd2e", func := "tokenfold/foldlaw1.ConnBack", spec := "connBack", apart := false }
def ConnBackSaid : Prop := connBackRow.holds Try.pinned (OpenSpec.ofChange connBackSpec)

/-- ITS FALSE NEIGHBOUR: 'it returns false'. Refute it at one input. -/
def connBackWrong : ChangeSpec := { name := "connBack", fn := fun _ => fun
  | [d1, d2, d3, d4] => { results := [.lit (.bool false)], args := [d1, d2, d3, d4] }
  | _ => none }
def ConnBackWrongFalsely : Prop := connBackRow.holds Try.pinned (OpenSpec.ofChange connBackWrong)

/- THE SECOND FORM. 'bulk': how many values and letters a reading holds, each counted each time it is reached (what is shared counts as often as it is met; a slice's spare places count too). A statement '..UptoSaid' is the law's where the arguments, and the package variables that the reading takes, are together of bulk at most 1048576: NARROWER than '..Said'. Prove '..Said' where nothing that the law and all that it calls make is longer than what came in: it says more and counts as full. Else prove '..UptoSaid'. A law counts once. -/
mutual
def uptoBulk {H : Type} : DataW H → Nat
  | .lit (.string bytes) => bytes.length + 1
  | .lit _ => 1
  | .nil => 1
  | .ptr d => uptoBulk d + 1
  | .slice elems spare => uptoBulkAll elems + uptoBulkAll spare + 1
  | .agg parts => uptoBulkAll parts + 1
  | .iface _ d => uptoBulk d + 1
  | .map entries => uptoBulkEntries entries + 1
  | .held _ => 1
def uptoBulkAll {H : Type} : List (DataW H) → Nat
  | [] => 0
  | d :: r => uptoBulk d + uptoBulkAll r
def uptoBulkEntries {H : Type} : List (Lit × DataW H) → Nat
  | [] => 0
  | x :: r => uptoBulkEntry x + uptoBulkEntries r
def uptoBulkEntry {H : Type} : Lit × DataW H → Nat
  | (.string bytes, d) => bytes.length + uptoBulk d + 1
  | (_, d) => uptoBulk d + 1
 end
def uptoSmall : (H : Type) → List (DataW H) → Bool := fun _ ds => decide (uptoBulkAll ds ≤ 1048576)
def OpenSpec.upto (s : _root_.Go.ChangeSpec) : _root_.Go.OpenSpec := { _root_.Go.OpenSpec.ofChange s with cond := some uptoSmall }

/-- 'foldlaw1.BucketBounds', WHERE WHAT IT READS IS OF BULK AT MOST 1048576: true; the input reads as it did. -/
def bucketBoundsUptoRow : OpenClaim := { program := "ytholccdkmgpjlad", sum := "d1e6df907fd1a9e166f5bb384d4c828b1bc4c8884d946fbd496a3b644750dd2e", func := "tokenfold/foldlaw1.BucketBounds", spec := "bucketBounds", apart := false, narrowed := true }
def BucketBoundsUptoSaid : Prop := bucketBoundsUptoRow.holds Try.pinned (OpenSpec.upto bucketBoundsSpec)

/-- 'foldlaw4.BucketStill', WHERE WHAT IT READS IS OF BULK AT MOST 1048576: true; the input reads as it did. -/
def bucketStillUptoRow : OpenClaim := { program := "ytholccdkmgpjlad", sum := "d1e6df907fd1a9e166f5bb384d4c828b1bc4c8884d946fbd496a3b644750dd2e", func := "tokenfold/foldlaw4.BucketStill", spec := "bucketStill", apart := false, narrowed := true }
def BucketStillUptoSaid : Prop := bucketStillUptoRow.holds Try.pinned (OpenSpec.upto bucketStillSpec)

/-- 'foldlaw1.ConnBack', WHERE WHAT IT READS IS OF BULK AT MOST 1048576: true; the input reads as it did. -/
def connBackUptoRow : OpenClaim := { program := "ytholccdkmgpjlad", sum := "d1e6df907fd1a9e166f5bb384d4c828b1bc4c8884d946fbd496a3b644750dd2e", func := "tokenfold/foldlaw1.ConnBack", spec := "connBack", apart := false, narrowed := true }
def ConnBackUptoSaid : Prop := connBackUptoRow.holds Try.pinned (OpenSpec.upto connBackSpec)

end Rows
end Go.Proofs.Ytholccdkmgpjlad
