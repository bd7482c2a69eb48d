/-
  DERIVED. GIVEN WITH THE SEED: THE CARDS: each row of YtkfijiklmmdmfabDoorRows.lean that lists a variable, with what it lists TIED to the program's text (the seventh form; the later family's looks); each row that meets fmt, with fmt's text TOLD by the authors' own Lean function (tested against real Go, not proved from fmt's source: count such statements apart). THE CARD IS WHAT COUNTS. Prove the row's statement (the work); the ties are given (YtkfijiklmmdmfabDoorTie.lean); close each card by the builder's one call (the guide's Derived/Test/ToyasCard.lean, 'card_holds'). Laid BY PROGRAM, IN A SANDBOX (cutbox-door.mjs). By AI agents, Wed Nov 11 2026. No macro, syntax, notation, axiom, sorry.
-/
import Derived.Test.YtkfijiklmmdmfabDoorRows
import GoSem.ClaimSeven
namespace Go.Proofs.YtkfijiklmmdmfabDoor
namespace Rows

/-- THE TIED CARD OF 'foldlaw4.RingFirst'. -/
def ringFirstCard : Claim7 := { stood := { row := ringFirstRow, standIns := [], harness := (true, "8c7925de4822477a9264c707293cbd8b24bbe60e7dd1d65dd83063eb32401052"), looks := true }, kinds := [], alts := [], laidByText := true, laidKinds := [.handle], laidTests := true, laidLooks := .later }
def RingFirstCardSaid : Prop := Claim7.holds Tryd.pinned (.plain (OpenSpec.ofChange ringFirstSpec)) ringFirstCard

/-- THE SECOND FORM's CARD OF 'foldlaw4.RingFirst'. -/
def ringFirstUptoCard : Claim7 := { stood := { row := ringFirstUptoRow, standIns := [], harness := (true, "8c7925de4822477a9264c707293cbd8b24bbe60e7dd1d65dd83063eb32401052"), looks := true }, kinds := [], alts := [], laidByText := true, laidKinds := [.handle], laidTests := true, laidLooks := .later }
def RingFirstUptoCardSaid : Prop := Claim7.holds Tryd.pinned (.plain (OpenSpec.upto ringFirstSpec)) ringFirstUptoCard
end Rows
end Go.Proofs.YtkfijiklmmdmfabDoor
