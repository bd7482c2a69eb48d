/-
  DERIVED. GIVEN WITH THE SEED: THE CARDS: each row of YtjkjgeobeocdbabDoorRows.lean that lists a variable, with what it lists TIED to the program's text (the seventh form; the later family's looks); each row that meets fmt, with fmt's text TOLD by the authors' own Lean function (tested against real Go, not proved from fmt's source: count such statements apart). THE CARD IS WHAT COUNTS. Prove the row's statement (the work); the ties are given (YtjkjgeobeocdbabDoorTie.lean); close each card by the builder's one call (the guide's Derived/Test/ToyasCard.lean, 'card_holds'). Laid BY PROGRAM, IN A SANDBOX (cutbox-door.mjs). By AI agents, Wed Nov 11 2026. No macro, syntax, notation, axiom, sorry.
-/
import Derived.Test.YtjkjgeobeocdbabDoorRows
import GoSem.ClaimSeven
namespace Go.Proofs.YtjkjgeobeocdbabDoor
namespace Rows

/-- THE TIED CARD OF 'foldlaw4.RingFirst'. -/
def ringFirstCard : Claim7 := { stood := { row := ringFirstRow, standIns := [], harness := (true, "8e6ffb57fd0052b5215ed9d0a6d5add380d5983344f199222561876183bf67e0"), looks := true }, kinds := [], alts := [], laidByText := true, laidKinds := [.handle], laidTests := true, laidLooks := .later }
def RingFirstCardSaid : Prop := Claim7.holds Tryd.pinned (.plain (OpenSpec.ofChange ringFirstSpec)) ringFirstCard

/-- THE TIED CARD OF 'foldlaw1.TokenTells'. -/
def tokenTellsCard : Claim7 := { stood := { row := tokenTellsRow, standIns := [], harness := (true, "8e6ffb57fd0052b5215ed9d0a6d5add380d5983344f199222561876183bf67e0"), looks := true }, kinds := [], alts := [], laidByText := true, laidKinds := [.handle], laidTests := true, laidLooks := .later }
def TokenTellsCardSaid : Prop := Claim7.holds Tryd.pinned (.plain (OpenSpec.ofChange tokenTellsSpec)) tokenTellsCard

/-- THE TIED CARD OF 'foldlaw1.TokenHolds'. -/
def tokenHoldsCard : Claim7 := { stood := { row := tokenHoldsRow, standIns := [], harness := (true, "8e6ffb57fd0052b5215ed9d0a6d5add380d5983344f199222561876183bf67e0"), looks := true }, kinds := [], alts := [], laidByText := true, laidKinds := [.handle], laidTests := true, laidLooks := .later }
def TokenHoldsCardSaid : Prop := Claim7.holds Tryd.pinned (.plain (OpenSpec.ofChange tokenHoldsSpec)) tokenHoldsCard

/-- THE TIED CARD OF 'foldlaw4.TokenNow'. -/
def tokenNowCard : Claim7 := { stood := { row := tokenNowRow, standIns := [], harness := (true, "8e6ffb57fd0052b5215ed9d0a6d5add380d5983344f199222561876183bf67e0"), looks := true }, kinds := [], alts := [], laidByText := true, laidKinds := [.handle], laidTests := true, laidLooks := .later }
def TokenNowCardSaid : Prop := Claim7.holds Tryd.pinned (.plain (OpenSpec.ofChange tokenNowSpec)) tokenNowCard

/-- THE SECOND FORM's CARD OF 'foldlaw4.RingFirst'. -/
def ringFirstUptoCard : Claim7 := { stood := { row := ringFirstUptoRow, standIns := [], harness := (true, "8e6ffb57fd0052b5215ed9d0a6d5add380d5983344f199222561876183bf67e0"), looks := true }, kinds := [], alts := [], laidByText := true, laidKinds := [.handle], laidTests := true, laidLooks := .later }
def RingFirstUptoCardSaid : Prop := Claim7.holds Tryd.pinned (.plain (OpenSpec.upto ringFirstSpec)) ringFirstUptoCard

/-- THE SECOND FORM's CARD OF 'foldlaw1.TokenTells'. -/
def tokenTellsUptoCard : Claim7 := { stood := { row := tokenTellsUptoRow, standIns := [], harness := (true, "8e6ffb57fd0052b5215ed9d0a6d5add380d5983344f199222561876183bf67e0"), looks := true }, kinds := [], alts := [], laidByText := true, laidKinds := [.handle], laidTests := true, laidLooks := .later }
def TokenTellsUptoCardSaid : Prop := Claim7.holds Tryd.pinned (.plain (OpenSpec.upto tokenTellsSpec)) tokenTellsUptoCard

/-- THE SECOND FORM's CARD OF 'foldlaw1.TokenHolds'. -/
def tokenHoldsUptoCard : Claim7 := { stood := { row := tokenHoldsUptoRow, standIns := [], harness := (true, "8e6ffb57fd0052b5215ed9d0a6d5add380d5983344f199222561876183bf67e0"), looks := true }, kinds := [], alts := [], laidByText := true, laidKinds := [.handle], laidTests := true, laidLooks := .later }
def TokenHoldsUptoCardSaid : Prop := Claim7.holds Tryd.pinned (.plain (OpenSpec.upto tokenHoldsSpec)) tokenHoldsUptoCard

/-- THE SECOND FORM's CARD OF 'foldlaw4.TokenNow'. -/
def tokenNowUptoCard : Claim7 := { stood := { row := tokenNowUptoRow, standIns := [], harness := (true, "8e6ffb57fd0052b5215ed9d0a6d5add380d5983344f199222561876183bf67e0"), looks := true }, kinds := [], alts := [], laidByText := true, laidKinds := [.handle], laidTests := true, laidLooks := .later }
def TokenNowUptoCardSaid : Prop := Claim7.holds Tryd.pinned (.plain (OpenSpec.upto tokenNowSpec)) tokenNowUptoCard
end Rows
end Go.Proofs.YtjkjgeobeocdbabDoor
