/-
  DERIVED. GIVEN WITH THE SEED: THE CARDS: each row of YtbfofcblhjlgmafDoorRows.lean that lists a variable, with what it lists TIED to the program's text (the seventh form; the later family's looks); each row that meets fmt, with fmt's text TOLD by the authors' own Lean function (tested against real Go, not proved from fmt's source: count such statements apart). THE CARD IS WHAT COUNTS. Prove the row's statement (the work); the ties are given (YtbfofcblhjlgmafDoorTie.lean); close each card by the builder's one call (the guide's Derived/Test/ToyasCard.lean, 'card_holds'). Laid BY PROGRAM, IN A SANDBOX (cutbox-door.mjs). By AI agents, Wed Nov 11 2026. No macro, syntax, notation, axiom, sorry.
-/
import Derived.Test.YtbfofcblhjlgmafDoorRows
import GoSem.ClaimSeven
namespace Go.Proofs.YtbfofcblhjlgmafDoor
namespace Rows

/-- THE TIED CARD OF 'foldlaw1.LifePlays'. -/
def lifePlaysCard : Claim7 := { stood := { row := lifePlaysRow, standIns := [], harness := (true, "48fa47a2bcf83066d7e780eb8ce8849408aac699dd24a5ff4bee46d8d8c04e15"), looks := true }, kinds := [], alts := [], laidByText := true, laidKinds := [.handle], laidTests := true, laidLooks := .later }
def LifePlaysCardSaid : Prop := Claim7.holds Tryd.pinned (.plain (OpenSpec.ofChange lifePlaysSpec)) lifePlaysCard

/-- THE SECOND FORM's CARD OF 'foldlaw1.LifePlays'. -/
def lifePlaysUptoCard : Claim7 := { stood := { row := lifePlaysUptoRow, standIns := [], harness := (true, "48fa47a2bcf83066d7e780eb8ce8849408aac699dd24a5ff4bee46d8d8c04e15"), looks := true }, kinds := [], alts := [], laidByText := true, laidKinds := [.handle], laidTests := true, laidLooks := .later }
def LifePlaysUptoCardSaid : Prop := Claim7.holds Tryd.pinned (.plain (OpenSpec.upto lifePlaysSpec)) lifePlaysUptoCard
end Rows
end Go.Proofs.YtbfofcblhjlgmafDoor
