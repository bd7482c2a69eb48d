/-
  No cell of these rows narrows 'for every input' (looked for: loops, veiled, ifaces, maps, wideKeys, modest, calm, conditions, laid).
  DERIVED. THE GIVEN ROWS OF THIS SEAT. 4 by the template 'for every input the law returns true; each argument reads behind the call as it read before'; 0 by the template 'total and deterministic' (their statements: YtgjacfiplhnafahTotals.lean).
  GIVEN WITH THE SEED: the statements are not yours to turn. If you find one false, say at which input.
  Laid BY PROGRAM, IN A SANDBOX (cutbox-rows.mjs): the forced cells as the released guide's own fill.sh prints them over the translation 22c799717f99cf1a… (all of the seat's roots in one cut). By AI agents, Wed Nov 11 2026. No macro, syntax, notation, axiom, sorry.
-/
import Derived.Test.YtgjacfiplhnafahChecked
import GoSem.Claim
import GoSem.ClaimJoined
import GoSem.ClaimMapViews
import Derived.JoinedTies
import Derived.KernelRfl
namespace Go.Proofs.Ytgjacfiplhnafah
/- THE CELL 'sum', in the pinned program and in every row, IS THE sha256 OF THE DUMP (.gsa) THAT YtgjacfiplhnafahProg.lean LOADS. Nothing in Lean hashes anything: it is a label: what it is worth is what the hold of that sum in a sandbox is worth. -/
noncomputable def Try.pinned : Pinned := { name := "ytgjacfiplhnafah", sum := "22c799717f99cf1a98333d55e4e3309f96cd0289f752e2341a56c03cd28adcc0", checked := Try.checked }
namespace Rows
def none {H : Type} : Left H := { results := [], args := [] }

/-- 'foldlaw2.LoadFair': WHATEVER THE INPUT: true; the input reads as it did. -/
def loadFairSpec : ChangeSpec := { name := "loadFair", fn := fun _ => fun
  | [d1, d2, d3, d4] => { results := [.lit (.bool true)], args := [d1, d2, d3, d4] }
  | _ => none }
def loadFairRow : OpenClaim := { program := "ytgjacfiplhnafah", sum := "22c799717f99cf1a98333d55e4e3309f96cd0289f752e2341a56c03cd28adcc0", func := "tokenfold/foldlaw2.LoadFair", spec := "loadFair", apart := false }
def LoadFairSaid : Prop := loadFairRow.holds Try.pinned (OpenSpec.ofChange loadFairSpec)

/-- ITS FALSE NEIGHBOUR: 'it returns false'. Refute it at one input. -/
def loadFairWrong : ChangeSpec := { name := "loadFair", fn := fun _ => fun
  | [d1, d2, d3, d4] => { results := [.lit (.bool false)], args := [d1, d2, d3, d4] }
  | _ => none }
def LoadFairWrongFalsely : Prop := loadFairRow.holds Try.pinned (OpenSpec.ofChange loadFairWrong)

/-- 'foldlaw4.LoadNone': WHATEVER THE INPUT: true; the input reads as it did. -/
def loadNoneSpec : ChangeSpec := { name := "loadNone", fn := fun _ => fun
  | [d1, d2] => { results := [.lit (.bool true)], args := [d1, d2] }
  | _ => none }
def loadNoneRow : OpenClaim := { program := "ytgjacfiplhnafah", sum := "22c799717f99cf1a98333d55e4e3309f96cd0289f752e2341a56c03cd28adcc0", func := "tokenfold/foldlaw4.LoadNone", spec := "loadNone", apart := false }
def LoadNoneSaid : Prop := loadNoneRow.holds Try.pinned (OpenSpec.ofChange loadNoneSpec)

/-- ITS FALSE NEIGHBOUR: 'it returns false'. Refute it at one input. -/
def loadNoneWrong : ChangeSpec := { name := "loadNone", fn := fun _ => fun
  | [d1, d2] => { results := [.lit (.bool false)], args := [d1, d2] }
  | _ => none }
def LoadNoneWrongFalsely : Prop := loadNoneRow.holds Try.pinned (OpenSpec.ofChange loadNoneWrong)

/-- 'foldlaw2.IssueUnlike': WHATEVER THE INPUT: true; the input reads as it did. -/
def issueUnlikeSpec : ChangeSpec := { name := "issueUnlike", fn := fun _ => fun
  | [d1, d2, d3] => { results := [.lit (.bool true)], args := [d1, d2, d3] }
  | _ => none }
def issueUnlikeRow : OpenClaim := { program := "ytgjacfiplhnafah", sum := "22c799717f99cf1a98333d55e4e3309f96cd0289f752e2341a56c03cd28adcc0", func := "tokenfold/foldlaw2.IssueUnlike", spec := "issueUnlike", apart := false }
def IssueUnlikeSaid : Prop := issueUnlikeRow.holds Try.pinned (OpenSpec.ofChange issueUnlikeSpec)

/-- ITS FALSE NEIGHBOUR: 'it returns false'. Refute it at one input. -/
def issueUnlikeWrong : ChangeSpec := { name := "issueUnlike", fn := fun _ => fun
  | [d1, d2, d3] => { results := [.lit (.bool false)], args := [d1, d2, d3] }
  | _ => none }
def IssueUnlikeWrongFalsely : Prop := issueUnlikeRow.holds Try.pinned (OpenSpec.ofChange issueUnlikeWrong)

/-- 'foldlaw4.IssueFirst': WHATEVER THE INPUT: true; the input reads as it did. -/
def issueFirstSpec : ChangeSpec := { name := "issueFirst", fn := fun _ => fun
  | [d1, d2] => { results := [.lit (.bool true)], args := [d1, d2] }
  | _ => none }
def issueFirstRow : OpenClaim := { program := "ytgjacfiplhnafah", sum := "22c799717f99cf1a98333d55e4e3309f96cd0289f752e2341a56c03cd28adcc0", func := "tokenfold/foldlaw4.IssueFirst", spec := "issueFirst", apart := false }
def IssueFirstSaid : Prop := issueFirstRow.holds Try.pinned (OpenSpec.ofChange issueFirstSpec)

/-- ITS FALSE NEIGHBOUR: 'it returns false'. Refute it at one input. -/
def issueFirstWrong : ChangeSpec := { name := "issueFirst", fn := fun _ => fun
  | [d1, d2] => { results := [.lit (.bool false)], args := [d1, d2] }
  | _ => none }
def IssueFirstWrongFalsely : Prop := issueFirstRow.holds Try.pinned (OpenSpec.ofChange issueFirstWrong)

/- THE SECOND FORM. 'bulk': how many values and letters a reading holds, each counted each time it is reached (what is shared counts as often as it is met; a slice's spare places count too). A statement '..UptoSaid' is the law's where the arguments, and the package variables that the reading takes, are together of bulk at most 1048576: NARROWER than '..Said'. Prove '..Said' where nothing that the law and all that it calls make is longer than what came in: it says more and counts as full. Else prove '..UptoSaid'. A law counts once. -/
mutual
def uptoBulk {H : Type} : DataW H → Nat
  | .lit (.string bytes) => bytes.length + 1
  | .lit _ => 1
  | .nil => 1
  | .ptr d => uptoBulk d + 1
  | .slice elems spare => uptoBulkAll elems + uptoBulkAll spare + 1
  | .agg parts => uptoBulkAll parts + 1
  | .iface _ d => uptoBulk d + 1
  | .map entries => uptoBulkEntries entries + 1
  | .held _ => 1
def uptoBulkAll {H : Type} : List (DataW H) → Nat
  | [] => 0
  | d :: r => uptoBulk d + uptoBulkAll r
def uptoBulkEntries {H : Type} : List (Lit × DataW H) → Nat
  | [] => 0
  | x :: r => uptoBulkEntry x + uptoBulkEntries r
def uptoBulkEntry {H : Type} : Lit × DataW H → Nat
  | (.string bytes, d) => bytes.length + uptoBulk d + 1
  | (_, d) => uptoBulk d + 1
 end
def uptoSmall : (H : Type) → List (DataW H) → Bool := fun _ ds => decide (uptoBulkAll ds ≤ 1048576)
def OpenSpec.upto (s : _root_.Go.ChangeSpec) : _root_.Go.OpenSpec := { _root_.Go.OpenSpec.ofChange s with cond := some uptoSmall }

/-- 'foldlaw2.LoadFair', WHERE WHAT IT READS IS OF BULK AT MOST 1048576: true; the input reads as it did. -/
def loadFairUptoRow : OpenClaim := { program := "ytgjacfiplhnafah", sum := "22c799717f99cf1a98333d55e4e3309f96cd0289f752e2341a56c03cd28adcc0", func := "tokenfold/foldlaw2.LoadFair", spec := "loadFair", apart := false, narrowed := true }
def LoadFairUptoSaid : Prop := loadFairUptoRow.holds Try.pinned (OpenSpec.upto loadFairSpec)

/-- 'foldlaw4.LoadNone', WHERE WHAT IT READS IS OF BULK AT MOST 1048576: true; the input reads as it did. -/
def loadNoneUptoRow : OpenClaim := { program := "ytgjacfiplhnafah", sum := "22c799717f99cf1a98333d55e4e3309f96cd0289f752e2341a56c03cd28adcc0", func := "tokenfold/foldlaw4.LoadNone", spec := "loadNone", apart := false, narrowed := true }
def LoadNoneUptoSaid : Prop := loadNoneUptoRow.holds Try.pinned (OpenSpec.upto loadNoneSpec)

/-- 'foldlaw2.IssueUnlike', WHERE WHAT IT READS IS OF BULK AT MOST 1048576: true; the input reads as it did. -/
def issueUnlikeUptoRow : OpenClaim := { program := "ytgjacfiplhnafah", sum := "22c799717f99cf1a98333d55e4e3309f96cd0289f752e2341a56c03cd28adcc0", func := "tokenfold/foldlaw2.IssueUnlike", spec := "issueUnlike", apart := false, narrowed := true }
def IssueUnlikeUptoSaid : Prop := issueUnlikeUptoRow.holds Try.pinned (OpenSpec.upto issueUnlikeSpec)

/-- 'foldlaw4.IssueFirst', WHERE WHAT IT READS IS OF BULK AT MOST 1048576: true; the input reads as it did. -/
def issueFirstUptoRow : OpenClaim := { program := "ytgjacfiplhnafah", sum := "22c799717f99cf1a98333d55e4e3309f96cd0289f752e2341a56c03cd28adcc0", func := "tokenfold/foldlaw4.IssueFirst", spec := "issueFirst", apart := false, narrowed := true }
def IssueFirstUptoSaid : Prop := issueFirstUptoRow.holds Try.pinned (OpenSpec.upto issueFirstSpec)

end Rows
end Go.Proofs.Ytgjacfiplhnafah
