/-
  DERIVED. GIVEN WITH THE SEED: THE CARDS: each row of YtbndgbblhnomhacDoorRows.lean that lists a variable, with what it lists TIED to the program's text (the seventh form; the later family's looks); each row that meets fmt, with fmt's text TOLD by the authors' own Lean function (tested against real Go, not proved from fmt's source: count such statements apart). THE CARD IS WHAT COUNTS. Prove the row's statement (the work); the ties are given (YtbndgbblhnomhacDoorTie.lean); close each card by the builder's one call (the guide's Derived/Test/ToyasCard.lean, 'card_holds'). Laid BY PROGRAM, IN A SANDBOX (cutbox-door.mjs). By AI agents, Wed Nov 11 2026. No macro, syntax, notation, axiom, sorry.
-/
import Derived.Test.YtbndgbblhnomhacDoorRows
import GoSem.ClaimSeven
namespace Go.Proofs.YtbndgbblhnomhacDoor
namespace Rows

/-- THE TIED CARD OF 'foldlaw1.SpentTells'. -/
def spentTellsCard : Claim7 := { stood := { row := spentTellsRow, standIns := [], harness := (true, "0d4b3cfa39065ae8152620b9a3aacf44b5fc139e5ef71bb53d739b4b95fd7cad"), looks := true }, kinds := [], alts := [], laidByText := true, laidKinds := [.handle], laidTests := true, laidLooks := .later }
def SpentTellsCardSaid : Prop := Claim7.holds Tryd.pinned (.plain (OpenSpec.ofChange spentTellsSpec)) spentTellsCard

/-- THE TIED CARD OF 'foldlaw1.SpentOnce'. -/
def spentOnceCard : Claim7 := { stood := { row := spentOnceRow, standIns := [], harness := (true, "0d4b3cfa39065ae8152620b9a3aacf44b5fc139e5ef71bb53d739b4b95fd7cad"), looks := true }, kinds := [], alts := [], laidByText := true, laidKinds := [.handle], laidTests := true, laidLooks := .later }
def SpentOnceCardSaid : Prop := Claim7.holds Tryd.pinned (.plain (OpenSpec.ofChange spentOnceSpec)) spentOnceCard

/-- THE TIED CARD OF 'foldlaw4.SpentFull'. -/
def spentFullCard : Claim7 := { stood := { row := spentFullRow, standIns := [], harness := (true, "0d4b3cfa39065ae8152620b9a3aacf44b5fc139e5ef71bb53d739b4b95fd7cad"), looks := true }, kinds := [], alts := [], laidByText := true, laidKinds := [.handle], laidTests := true, laidLooks := .later }
def SpentFullCardSaid : Prop := Claim7.holds Tryd.pinned (.plain (OpenSpec.ofChange spentFullSpec)) spentFullCard

/-- THE SECOND FORM's CARD OF 'foldlaw1.SpentTells'. -/
def spentTellsUptoCard : Claim7 := { stood := { row := spentTellsUptoRow, standIns := [], harness := (true, "0d4b3cfa39065ae8152620b9a3aacf44b5fc139e5ef71bb53d739b4b95fd7cad"), looks := true }, kinds := [], alts := [], laidByText := true, laidKinds := [.handle], laidTests := true, laidLooks := .later }
def SpentTellsUptoCardSaid : Prop := Claim7.holds Tryd.pinned (.plain (OpenSpec.upto spentTellsSpec)) spentTellsUptoCard

/-- THE SECOND FORM's CARD OF 'foldlaw1.SpentOnce'. -/
def spentOnceUptoCard : Claim7 := { stood := { row := spentOnceUptoRow, standIns := [], harness := (true, "0d4b3cfa39065ae8152620b9a3aacf44b5fc139e5ef71bb53d739b4b95fd7cad"), looks := true }, kinds := [], alts := [], laidByText := true, laidKinds := [.handle], laidTests := true, laidLooks := .later }
def SpentOnceUptoCardSaid : Prop := Claim7.holds Tryd.pinned (.plain (OpenSpec.upto spentOnceSpec)) spentOnceUptoCard

/-- THE SECOND FORM's CARD OF 'foldlaw4.SpentFull'. -/
def spentFullUptoCard : Claim7 := { stood := { row := spentFullUptoRow, standIns := [], harness := (true, "0d4b3cfa39065ae8152620b9a3aacf44b5fc139e5ef71bb53d739b4b95fd7cad"), looks := true }, kinds := [], alts := [], laidByText := true, laidKinds := [.handle], laidTests := true, laidLooks := .later }
def SpentFullUptoCardSaid : Prop := Claim7.holds Tryd.pinned (.plain (OpenSpec.upto spentFullSpec)) spentFullUptoCard
end Rows
end Go.Proofs.YtbndgbblhnomhacDoor
