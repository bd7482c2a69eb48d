/-
  DERIVED. GIVEN WITH THE SEED: THE CARDS: each row of YtbacjhdghepckadDoorRows.lean that lists a variable, with what it lists TIED to the program's text (the seventh form; the later family's looks); each row that meets fmt, with fmt's text TOLD by the authors' own Lean function (tested against real Go, not proved from fmt's source: count such statements apart). THE CARD IS WHAT COUNTS. Prove the row's statement (the work); the ties are given (YtbacjhdghepckadDoorTie.lean); close each card by the builder's one call (the guide's Derived/Test/ToyasCard.lean, 'card_holds'). Laid BY PROGRAM, IN A SANDBOX (cutbox-door.mjs). By AI agents, Wed Nov 11 2026. No macro, syntax, notation, axiom, sorry.
-/
import Derived.Test.YtbacjhdghepckadDoorRows
import GoSem.ClaimSeven
namespace Go.Proofs.YtbacjhdghepckadDoor
namespace Rows

/-- THE TIED CARD OF 'foldlaw4.WindowFirst'. -/
def windowFirstCard : Claim7 := { stood := { row := windowFirstRow, standIns := [], harness := (true, "50238c0cc83c95598738e0216b19e0e15abc853ee33ae42688f9c376006250b1"), looks := true }, kinds := [], alts := [], laidByText := true, laidKinds := [.handle], laidTests := true, laidLooks := .later }
def WindowFirstCardSaid : Prop := Claim7.holds Tryd.pinned (.plain (OpenSpec.ofChange windowFirstSpec)) windowFirstCard

/-- THE SECOND FORM's CARD OF 'foldlaw4.WindowFirst'. -/
def windowFirstUptoCard : Claim7 := { stood := { row := windowFirstUptoRow, standIns := [], harness := (true, "50238c0cc83c95598738e0216b19e0e15abc853ee33ae42688f9c376006250b1"), looks := true }, kinds := [], alts := [], laidByText := true, laidKinds := [.handle], laidTests := true, laidLooks := .later }
def WindowFirstUptoCardSaid : Prop := Claim7.holds Tryd.pinned (.plain (OpenSpec.upto windowFirstSpec)) windowFirstUptoCard
end Rows
end Go.Proofs.YtbacjhdghepckadDoor
