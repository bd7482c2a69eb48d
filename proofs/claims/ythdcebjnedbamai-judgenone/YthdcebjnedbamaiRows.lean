/-
  No cell of these rows narrows 'for every input' (looked for: loops, veiled, ifaces, maps, wideKeys, modest, calm, conditions, laid).
  DERIVED. THE GIVEN ROWS OF THIS SEAT. 3 by the template 'for every input the law returns true; each argument reads behind the call as it read before'; 0 by the template 'total and deterministic' (their statements: YthdcebjnedbamaiTotals.lean).
  GIVEN WITH THE SEED: the statements are not yours to turn. If you find one false, say at which input.
  Laid BY PROGRAM, IN A SANDBOX (cutbox-rows.mjs): the forced cells as the released guide's own fill.sh prints them over the translation 883d4bce37062db4… (all of the seat's roots in one cut). By AI agents, Wed Nov 11 2026. No macro, syntax, notation, axiom, sorry.
-/
import Derived.Test.YthdcebjnedbamaiChecked
import GoSem.Claim
import GoSem.ClaimJoined
import GoSem.ClaimMapViews
import Derived.JoinedTies
import Derived.KernelRfl
namespace Go.Proofs.Ythdcebjnedbamai
/- THE CELL 'sum', in the pinned program and in every row, IS THE sha256 OF THE DUMP (.gsa) THAT YthdcebjnedbamaiProg.lean LOADS. Nothing in Lean hashes anything: it is a label: what it is worth is what the hold of that sum in a sandbox is worth. -/
noncomputable def Try.pinned : Pinned := { name := "ythdcebjnedbamai", sum := "883d4bce37062db48efebc686b26f7a98b32aba64a7dcaa9faf203b66c088d07", checked := Try.checked }
namespace Rows
def none {H : Type} : Left H := { results := [], args := [] }

/-- 'foldlaw4.VaultEmpty': WHATEVER THE INPUT: true; the input reads as it did. -/
def vaultEmptySpec : ChangeSpec := { name := "vaultEmpty", fn := fun _ => fun
  | [d] => { results := [.lit (.bool true)], args := [d] }
  | _ => none }
def vaultEmptyRow : OpenClaim := { program := "ythdcebjnedbamai", sum := "883d4bce37062db48efebc686b26f7a98b32aba64a7dcaa9faf203b66c088d07", func := "tokenfold/foldlaw4.VaultEmpty", spec := "vaultEmpty", unfollowed := true, recurses := true, apart := false }
def VaultEmptySaid : Prop := vaultEmptyRow.holds Try.pinned (OpenSpec.ofChange vaultEmptySpec)

/-- ITS FALSE NEIGHBOUR: 'it returns false'. Refute it at one input. -/
def vaultEmptyWrong : ChangeSpec := { name := "vaultEmpty", fn := fun _ => fun
  | [d] => { results := [.lit (.bool false)], args := [d] }
  | _ => none }
def VaultEmptyWrongFalsely : Prop := vaultEmptyRow.holds Try.pinned (OpenSpec.ofChange vaultEmptyWrong)

/-- 'foldlaw2.JudgeMeans': WHATEVER THE INPUT: true; the input reads as it did. -/
def judgeMeansSpec : ChangeSpec := { name := "judgeMeans", fn := fun _ => fun
  | [d1, d2, d3, d4, d5] => { results := [.lit (.bool true)], args := [d1, d2, d3, d4, d5] }
  | _ => none }
def judgeMeansRow : OpenClaim := { program := "ythdcebjnedbamai", sum := "883d4bce37062db48efebc686b26f7a98b32aba64a7dcaa9faf203b66c088d07", func := "tokenfold/foldlaw2.JudgeMeans", spec := "judgeMeans", apart := false }
def JudgeMeansSaid : Prop := judgeMeansRow.holds Try.pinned (OpenSpec.ofChange judgeMeansSpec)

/-- ITS FALSE NEIGHBOUR: 'it returns false'. Refute it at one input. -/
def judgeMeansWrong : ChangeSpec := { name := "judgeMeans", fn := fun _ => fun
  | [d1, d2, d3, d4, d5] => { results := [.lit (.bool false)], args := [d1, d2, d3, d4, d5] }
  | _ => none }
def JudgeMeansWrongFalsely : Prop := judgeMeansRow.holds Try.pinned (OpenSpec.ofChange judgeMeansWrong)

/-- 'foldlaw4.JudgeNone': WHATEVER THE INPUT: true; the input reads as it did. -/
def judgeNoneSpec : ChangeSpec := { name := "judgeNone", fn := fun _ => fun
  | [d1, d2] => { results := [.lit (.bool true)], args := [d1, d2] }
  | _ => none }
def judgeNoneRow : OpenClaim := { program := "ythdcebjnedbamai", sum := "883d4bce37062db48efebc686b26f7a98b32aba64a7dcaa9faf203b66c088d07", func := "tokenfold/foldlaw4.JudgeNone", spec := "judgeNone", apart := false }
def JudgeNoneSaid : Prop := judgeNoneRow.holds Try.pinned (OpenSpec.ofChange judgeNoneSpec)

/-- ITS FALSE NEIGHBOUR: 'it returns false'. Refute it at one input. -/
def judgeNoneWrong : ChangeSpec := { name := "judgeNone", fn := fun _ => fun
  | [d1, d2] => { results := [.lit (.bool false)], args := [d1, d2] }
  | _ => none }
def JudgeNoneWrongFalsely : Prop := judgeNoneRow.holds Try.pinned (OpenSpec.ofChange judgeNoneWrong)

/- THE SECOND FORM. 'bulk': how many values and letters a reading holds, each counted each time it is reached (what is shared counts as often as it is met; a slice's spare places count too). A statement '..UptoSaid' is the law's where the arguments, and the package variables that the reading takes, are together of bulk at most 1048576: NARROWER than '..Said'. Prove '..Said' where nothing that the law and all that it calls make is longer than what came in: it says more and counts as full. Else prove '..UptoSaid'. A law counts once. -/
mutual
def uptoBulk {H : Type} : DataW H → Nat
  | .lit (.string bytes) => bytes.length + 1
  | .lit _ => 1
  | .nil => 1
  | .ptr d => uptoBulk d + 1
  | .slice elems spare => uptoBulkAll elems + uptoBulkAll spare + 1
  | .agg parts => uptoBulkAll parts + 1
  | .iface _ d => uptoBulk d + 1
  | .map entries => uptoBulkEntries entries + 1
  | .held _ => 1
def uptoBulkAll {H : Type} : List (DataW H) → Nat
  | [] => 0
  | d :: r => uptoBulk d + uptoBulkAll r
def uptoBulkEntries {H : Type} : List (Lit × DataW H) → Nat
  | [] => 0
  | x :: r => uptoBulkEntry x + uptoBulkEntries r
def uptoBulkEntry {H : Type} : Lit × DataW H → Nat
  | (.string bytes, d) => bytes.length + uptoBulk d + 1
  | (_, d) => uptoBulk d + 1
 end
def uptoSmall : (H : Type) → List (DataW H) → Bool := fun _ ds => decide (uptoBulkAll ds ≤ 1048576)
def OpenSpec.upto (s : _root_.Go.ChangeSpec) : _root_.Go.OpenSpec := { _root_.Go.OpenSpec.ofChange s with cond := some uptoSmall }

/-- 'foldlaw4.VaultEmpty', WHERE WHAT IT READS IS OF BULK AT MOST 1048576: true; the input reads as it did. -/
def vaultEmptyUptoRow : OpenClaim := { program := "ythdcebjnedbamai", sum := "883d4bce37062db48efebc686b26f7a98b32aba64a7dcaa9faf203b66c088d07", func := "tokenfold/foldlaw4.VaultEmpty", spec := "vaultEmpty", unfollowed := true, recurses := true, apart := false, narrowed := true }
def VaultEmptyUptoSaid : Prop := vaultEmptyUptoRow.holds Try.pinned (OpenSpec.upto vaultEmptySpec)

/-- 'foldlaw2.JudgeMeans', WHERE WHAT IT READS IS OF BULK AT MOST 1048576: true; the input reads as it did. -/
def judgeMeansUptoRow : OpenClaim := { program := "ythdcebjnedbamai", sum := "883d4bce37062db48efebc686b26f7a98b32aba64a7dcaa9faf203b66c088d07", func := "tokenfold/foldlaw2.JudgeMeans", spec := "judgeMeans", apart := false, narrowed := true }
def JudgeMeansUptoSaid : Prop := judgeMeansUptoRow.holds Try.pinned (OpenSpec.upto judgeMeansSpec)

/-- 'foldlaw4.JudgeNone', WHERE WHAT IT READS IS OF BULK AT MOST 1048576: true; the input reads as it did. -/
def judgeNoneUptoRow : OpenClaim := { program := "ythdcebjnedbamai", sum := "883d4bce37062db48efebc686b26f7a98b32aba64a7dcaa9faf203b66c088d07", func := "tokenfold/foldlaw4.JudgeNone", spec := "judgeNone", apart := false, narrowed := true }
def JudgeNoneUptoSaid : Prop := judgeNoneUptoRow.holds Try.pinned (OpenSpec.upto judgeNoneSpec)

end Rows
end Go.Proofs.Ythdcebjnedbamai
