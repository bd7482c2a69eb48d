/-
  DERIVED. GIVEN WITH THE SEED: THE CARDS: each row of YtibnjlndfoleoagDoorRows.lean that lists a variable, with what it lists TIED to the program's text (the seventh form; the later family's looks); each row that meets fmt, with fmt's text TOLD by the authors' own Lean function (tested against real Go, not proved from fmt's source: count such statements apart). THE CARD IS WHAT COUNTS. Prove the row's statement (the work); the ties are given (YtibnjlndfoleoagDoorTie.lean); close each card by the builder's one call (the guide's Derived/Test/ToyasCard.lean, 'card_holds'). Laid BY PROGRAM, IN A SANDBOX (cutbox-door.mjs). By AI agents, Wed Nov 11 2026. No macro, syntax, notation, axiom, sorry.
-/
import Derived.Test.YtibnjlndfoleoagDoorRows
import GoSem.ClaimSeven
namespace Go.Proofs.YtibnjlndfoleoagDoor
namespace Rows

/-- THE TIED CARD OF 'foldlaw2.EarlyPlays'. -/
def earlyPlaysCard : Claim7 := { stood := { row := earlyPlaysRow, standIns := [], harness := (true, "7eae0b736333f493c1f9b3ffb906c9de69ed6ff9c0343cea8c6661ff0c0d28f9"), looks := true }, kinds := [], alts := [], laidByText := true, laidKinds := [.handle], laidTests := true, laidLooks := .later }
def EarlyPlaysCardSaid : Prop := Claim7.holds Tryd.pinned (.plain (OpenSpec.ofChange earlyPlaysSpec)) earlyPlaysCard

/-- THE SECOND FORM's CARD OF 'foldlaw2.EarlyPlays'. -/
def earlyPlaysUptoCard : Claim7 := { stood := { row := earlyPlaysUptoRow, standIns := [], harness := (true, "7eae0b736333f493c1f9b3ffb906c9de69ed6ff9c0343cea8c6661ff0c0d28f9"), looks := true }, kinds := [], alts := [], laidByText := true, laidKinds := [.handle], laidTests := true, laidLooks := .later }
def EarlyPlaysUptoCardSaid : Prop := Claim7.holds Tryd.pinned (.plain (OpenSpec.upto earlyPlaysSpec)) earlyPlaysUptoCard
end Rows
end Go.Proofs.YtibnjlndfoleoagDoor
