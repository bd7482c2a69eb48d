/-
  DERIVED. GIVEN WITH THE SEED: THE CARDS: each row of YtibnjlndfoleoafDoorRows.lean that lists a variable, with what it lists TIED to the program's text (the seventh form; the later family's looks); each row that meets fmt, with fmt's text TOLD by the authors' own Lean function (tested against real Go, not proved from fmt's source: count such statements apart). THE CARD IS WHAT COUNTS. Prove the row's statement (the work); the ties are given (YtibnjlndfoleoafDoorTie.lean); close each card by the builder's one call (the guide's Derived/Test/ToyasCard.lean, 'card_holds'). Laid BY PROGRAM, IN A SANDBOX (cutbox-door.mjs). By AI agents, Wed Nov 11 2026. No macro, syntax, notation, axiom, sorry.
-/
import Derived.Test.YtibnjlndfoleoafDoorRows
import GoSem.ClaimSeven
namespace Go.Proofs.YtibnjlndfoleoafDoor
namespace Rows

/-- THE TIED CARD OF 'foldlaw1.LifePlays'. -/
def lifePlaysCard : Claim7 := { stood := { row := lifePlaysRow, standIns := [], harness := (true, "511493cc92aec3824be8873b3c1900d6c627e9cc70f1625973852d4191eecbe6"), looks := true }, kinds := [], alts := [], laidByText := true, laidKinds := [.handle], laidTests := true, laidLooks := .later }
def LifePlaysCardSaid : Prop := Claim7.holds Tryd.pinned (.plain (OpenSpec.ofChange lifePlaysSpec)) lifePlaysCard

/-- THE TIED CARD OF 'foldlaw2.BlockNever'. -/
def blockNeverCard : Claim7 := { stood := { row := blockNeverRow, standIns := [], harness := (true, "511493cc92aec3824be8873b3c1900d6c627e9cc70f1625973852d4191eecbe6"), looks := true }, kinds := [], alts := [], laidByText := true, laidKinds := [.handle], laidTests := true, laidLooks := .later }
def BlockNeverCardSaid : Prop := Claim7.holds Tryd.pinned (.plain (OpenSpec.ofChange blockNeverSpec)) blockNeverCard

/-- THE TIED CARD OF 'foldlaw2.BlockPlays'. -/
def blockPlaysCard : Claim7 := { stood := { row := blockPlaysRow, standIns := [], harness := (true, "511493cc92aec3824be8873b3c1900d6c627e9cc70f1625973852d4191eecbe6"), looks := true }, kinds := [], alts := [], laidByText := true, laidKinds := [.handle], laidTests := true, laidLooks := .later }
def BlockPlaysCardSaid : Prop := Claim7.holds Tryd.pinned (.plain (OpenSpec.ofChange blockPlaysSpec)) blockPlaysCard

/-- THE TIED CARD OF 'foldlaw2.EarlyBounds'. -/
def earlyBoundsCard : Claim7 := { stood := { row := earlyBoundsRow, standIns := [], harness := (true, "511493cc92aec3824be8873b3c1900d6c627e9cc70f1625973852d4191eecbe6"), looks := true }, kinds := [], alts := [], laidByText := true, laidKinds := [.handle], laidTests := true, laidLooks := .later }
def EarlyBoundsCardSaid : Prop := Claim7.holds Tryd.pinned (.plain (OpenSpec.ofChange earlyBoundsSpec)) earlyBoundsCard

/-- THE SECOND FORM's CARD OF 'foldlaw1.LifePlays'. -/
def lifePlaysUptoCard : Claim7 := { stood := { row := lifePlaysUptoRow, standIns := [], harness := (true, "511493cc92aec3824be8873b3c1900d6c627e9cc70f1625973852d4191eecbe6"), looks := true }, kinds := [], alts := [], laidByText := true, laidKinds := [.handle], laidTests := true, laidLooks := .later }
def LifePlaysUptoCardSaid : Prop := Claim7.holds Tryd.pinned (.plain (OpenSpec.upto lifePlaysSpec)) lifePlaysUptoCard

/-- THE SECOND FORM's CARD OF 'foldlaw2.BlockNever'. -/
def blockNeverUptoCard : Claim7 := { stood := { row := blockNeverUptoRow, standIns := [], harness := (true, "511493cc92aec3824be8873b3c1900d6c627e9cc70f1625973852d4191eecbe6"), looks := true }, kinds := [], alts := [], laidByText := true, laidKinds := [.handle], laidTests := true, laidLooks := .later }
def BlockNeverUptoCardSaid : Prop := Claim7.holds Tryd.pinned (.plain (OpenSpec.upto blockNeverSpec)) blockNeverUptoCard

/-- THE SECOND FORM's CARD OF 'foldlaw2.BlockPlays'. -/
def blockPlaysUptoCard : Claim7 := { stood := { row := blockPlaysUptoRow, standIns := [], harness := (true, "511493cc92aec3824be8873b3c1900d6c627e9cc70f1625973852d4191eecbe6"), looks := true }, kinds := [], alts := [], laidByText := true, laidKinds := [.handle], laidTests := true, laidLooks := .later }
def BlockPlaysUptoCardSaid : Prop := Claim7.holds Tryd.pinned (.plain (OpenSpec.upto blockPlaysSpec)) blockPlaysUptoCard

/-- THE SECOND FORM's CARD OF 'foldlaw2.EarlyBounds'. -/
def earlyBoundsUptoCard : Claim7 := { stood := { row := earlyBoundsUptoRow, standIns := [], harness := (true, "511493cc92aec3824be8873b3c1900d6c627e9cc70f1625973852d4191eecbe6"), looks := true }, kinds := [], alts := [], laidByText := true, laidKinds := [.handle], laidTests := true, laidLooks := .later }
def EarlyBoundsUptoCardSaid : Prop := Claim7.holds Tryd.pinned (.plain (OpenSpec.upto earlyBoundsSpec)) earlyBoundsUptoCard
end Rows
end Go.Proofs.YtibnjlndfoleoafDoor
