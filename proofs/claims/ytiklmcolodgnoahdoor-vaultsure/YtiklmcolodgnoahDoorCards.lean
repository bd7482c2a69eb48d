/-
  DERIVED. GIVEN WITH THE SEED: THE CARDS: each row of YtiklmcolodgnoahDoorRows.lean that lists a variable, with what it lists TIED to the program's text (the seventh form; the later family's looks); each row that meets fmt, with fmt's text TOLD by the authors' own Lean function (tested against real Go, not proved from fmt's source: count such statements apart). THE CARD IS WHAT COUNTS. Prove the row's statement (the work); the ties are given (YtiklmcolodgnoahDoorTie.lean); close each card by the builder's one call (the guide's Derived/Test/ToyasCard.lean, 'card_holds'). Laid BY PROGRAM, IN A SANDBOX (cutbox-door.mjs). By AI agents, Wed Nov 11 2026. No macro, syntax, notation, axiom, sorry.
-/
import Derived.Test.YtiklmcolodgnoahDoorRows
import GoSem.ClaimSeven
namespace Go.Proofs.YtiklmcolodgnoahDoor
namespace Rows

/-- THE TIED CARD OF 'foldlaw2.IssuePlays'. -/
def issuePlaysCard : Claim7 := { stood := { row := issuePlaysRow, standIns := [], harness := (true, "9cb52f31b216b757d2ffa4440be3a63c7682b050732687cda8653c03a166fe3c"), looks := true }, kinds := [], alts := [], laidByText := true, laidKinds := [.handle], laidTests := true, laidLooks := .later }
def IssuePlaysCardSaid : Prop := Claim7.holds Tryd.pinned (.plain (OpenSpec.ofChange issuePlaysSpec)) issuePlaysCard

/-- THE TIED CARD OF 'foldlaw2.VaultSure'. -/
def vaultSureCard : Claim7 := { stood := { row := vaultSureRow, standIns := [], harness := (true, "9cb52f31b216b757d2ffa4440be3a63c7682b050732687cda8653c03a166fe3c"), looks := true }, kinds := [], alts := [], laidByText := true, laidKinds := [.handle], laidTests := true, laidLooks := .later }
def VaultSureCardSaid : Prop := Claim7.holds Tryd.pinned (.plain (OpenSpec.ofChange vaultSureSpec)) vaultSureCard

/-- THE SECOND FORM's CARD OF 'foldlaw2.IssuePlays'. -/
def issuePlaysUptoCard : Claim7 := { stood := { row := issuePlaysUptoRow, standIns := [], harness := (true, "9cb52f31b216b757d2ffa4440be3a63c7682b050732687cda8653c03a166fe3c"), looks := true }, kinds := [], alts := [], laidByText := true, laidKinds := [.handle], laidTests := true, laidLooks := .later }
def IssuePlaysUptoCardSaid : Prop := Claim7.holds Tryd.pinned (.plain (OpenSpec.upto issuePlaysSpec)) issuePlaysUptoCard

/-- THE SECOND FORM's CARD OF 'foldlaw2.VaultSure'. -/
def vaultSureUptoCard : Claim7 := { stood := { row := vaultSureUptoRow, standIns := [], harness := (true, "9cb52f31b216b757d2ffa4440be3a63c7682b050732687cda8653c03a166fe3c"), looks := true }, kinds := [], alts := [], laidByText := true, laidKinds := [.handle], laidTests := true, laidLooks := .later }
def VaultSureUptoCardSaid : Prop := Claim7.holds Tryd.pinned (.plain (OpenSpec.upto vaultSureSpec)) vaultSureUptoCard
end Rows
end Go.Proofs.YtiklmcolodgnoahDoor
