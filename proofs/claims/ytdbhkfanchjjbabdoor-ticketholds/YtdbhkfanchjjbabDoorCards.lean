/-
  DERIVED. GIVEN WITH THE SEED: THE CARDS: each row of YtdbhkfanchjjbabDoorRows.lean that lists a variable, with what it lists TIED to the program's text (the seventh form; the later family's looks); each row that meets fmt, with fmt's text TOLD by the authors' own Lean function (tested against real Go, not proved from fmt's source: count such statements apart). THE CARD IS WHAT COUNTS. Prove the row's statement (the work); the ties are given (YtdbhkfanchjjbabDoorTie.lean); close each card by the builder's one call (the guide's Derived/Test/ToyasCard.lean, 'card_holds'). Laid BY PROGRAM, IN A SANDBOX (cutbox-door.mjs). By AI agents, Wed Nov 11 2026. No macro, syntax, notation, axiom, sorry.
-/
import Derived.Test.YtdbhkfanchjjbabDoorRows
import GoSem.ClaimSeven
namespace Go.Proofs.YtdbhkfanchjjbabDoor
namespace Rows

/-- THE TIED CARD OF 'foldlaw4.RingFirst'. -/
def ringFirstCard : Claim7 := { stood := { row := ringFirstRow, standIns := [], harness := (true, "ae94f0243eb5a1da57b94b873cf515495c8440656b678c75f24e134e92a066a1"), looks := true }, kinds := [], alts := [], laidByText := true, laidKinds := [.handle], laidTests := true, laidLooks := .later }
def RingFirstCardSaid : Prop := Claim7.holds Tryd.pinned (.plain (OpenSpec.ofChange ringFirstSpec)) ringFirstCard

/-- THE TIED CARD OF 'foldlaw1.TokenTells'. -/
def tokenTellsCard : Claim7 := { stood := { row := tokenTellsRow, standIns := [], harness := (true, "ae94f0243eb5a1da57b94b873cf515495c8440656b678c75f24e134e92a066a1"), looks := true }, kinds := [], alts := [], laidByText := true, laidKinds := [.handle], laidTests := true, laidLooks := .later }
def TokenTellsCardSaid : Prop := Claim7.holds Tryd.pinned (.plain (OpenSpec.ofChange tokenTellsSpec)) tokenTellsCard

/-- THE TIED CARD OF 'foldlaw1.TokenHolds'. -/
def tokenHoldsCard : Claim7 := { stood := { row := tokenHoldsRow, standIns := [], harness := (true, "ae94f0243eb5a1da57b94b873cf515495c8440656b678c75f24e134e92a066a1"), looks := true }, kinds := [], alts := [], laidByText := true, laidKinds := [.handle], laidTests := true, laidLooks := .later }
def TokenHoldsCardSaid : Prop := Claim7.holds Tryd.pinned (.plain (OpenSpec.ofChange tokenHoldsSpec)) tokenHoldsCard

/-- THE TIED CARD OF 'foldlaw4.TokenNow'. -/
def tokenNowCard : Claim7 := { stood := { row := tokenNowRow, standIns := [], harness := (true, "ae94f0243eb5a1da57b94b873cf515495c8440656b678c75f24e134e92a066a1"), looks := true }, kinds := [], alts := [], laidByText := true, laidKinds := [.handle], laidTests := true, laidLooks := .later }
def TokenNowCardSaid : Prop := Claim7.holds Tryd.pinned (.plain (OpenSpec.ofChange tokenNowSpec)) tokenNowCard

/-- THE TIED CARD OF 'foldlaw1.TicketTells'. -/
def ticketTellsCard : Claim7 := { stood := { row := ticketTellsRow, standIns := [], harness := (true, "ae94f0243eb5a1da57b94b873cf515495c8440656b678c75f24e134e92a066a1"), looks := true }, kinds := [], alts := [], laidByText := true, laidKinds := [.handle], laidTests := true, laidLooks := .later }
def TicketTellsCardSaid : Prop := Claim7.holds Tryd.pinned (.plain (OpenSpec.ofChange ticketTellsSpec)) ticketTellsCard

/-- THE TIED CARD OF 'foldlaw1.TicketHolds'. -/
def ticketHoldsCard : Claim7 := { stood := { row := ticketHoldsRow, standIns := [], harness := (true, "ae94f0243eb5a1da57b94b873cf515495c8440656b678c75f24e134e92a066a1"), looks := true }, kinds := [], alts := [], laidByText := true, laidKinds := [.handle], laidTests := true, laidLooks := .later }
def TicketHoldsCardSaid : Prop := Claim7.holds Tryd.pinned (.plain (OpenSpec.ofChange ticketHoldsSpec)) ticketHoldsCard

/-- THE SECOND FORM's CARD OF 'foldlaw4.RingFirst'. -/
def ringFirstUptoCard : Claim7 := { stood := { row := ringFirstUptoRow, standIns := [], harness := (true, "ae94f0243eb5a1da57b94b873cf515495c8440656b678c75f24e134e92a066a1"), looks := true }, kinds := [], alts := [], laidByText := true, laidKinds := [.handle], laidTests := true, laidLooks := .later }
def RingFirstUptoCardSaid : Prop := Claim7.holds Tryd.pinned (.plain (OpenSpec.upto ringFirstSpec)) ringFirstUptoCard

/-- THE SECOND FORM's CARD OF 'foldlaw1.TokenTells'. -/
def tokenTellsUptoCard : Claim7 := { stood := { row := tokenTellsUptoRow, standIns := [], harness := (true, "ae94f0243eb5a1da57b94b873cf515495c8440656b678c75f24e134e92a066a1"), looks := true }, kinds := [], alts := [], laidByText := true, laidKinds := [.handle], laidTests := true, laidLooks := .later }
def TokenTellsUptoCardSaid : Prop := Claim7.holds Tryd.pinned (.plain (OpenSpec.upto tokenTellsSpec)) tokenTellsUptoCard

/-- THE SECOND FORM's CARD OF 'foldlaw1.TokenHolds'. -/
def tokenHoldsUptoCard : Claim7 := { stood := { row := tokenHoldsUptoRow, standIns := [], harness := (true, "ae94f0243eb5a1da57b94b873cf515495c8440656b678c75f24e134e92a066a1"), looks := true }, kinds := [], alts := [], laidByText := true, laidKinds := [.handle], laidTests := true, laidLooks := .later }
def TokenHoldsUptoCardSaid : Prop := Claim7.holds Tryd.pinned (.plain (OpenSpec.upto tokenHoldsSpec)) tokenHoldsUptoCard

/-- THE SECOND FORM's CARD OF 'foldlaw4.TokenNow'. -/
def tokenNowUptoCard : Claim7 := { stood := { row := tokenNowUptoRow, standIns := [], harness := (true, "ae94f0243eb5a1da57b94b873cf515495c8440656b678c75f24e134e92a066a1"), looks := true }, kinds := [], alts := [], laidByText := true, laidKinds := [.handle], laidTests := true, laidLooks := .later }
def TokenNowUptoCardSaid : Prop := Claim7.holds Tryd.pinned (.plain (OpenSpec.upto tokenNowSpec)) tokenNowUptoCard

/-- THE SECOND FORM's CARD OF 'foldlaw1.TicketTells'. -/
def ticketTellsUptoCard : Claim7 := { stood := { row := ticketTellsUptoRow, standIns := [], harness := (true, "ae94f0243eb5a1da57b94b873cf515495c8440656b678c75f24e134e92a066a1"), looks := true }, kinds := [], alts := [], laidByText := true, laidKinds := [.handle], laidTests := true, laidLooks := .later }
def TicketTellsUptoCardSaid : Prop := Claim7.holds Tryd.pinned (.plain (OpenSpec.upto ticketTellsSpec)) ticketTellsUptoCard

/-- THE SECOND FORM's CARD OF 'foldlaw1.TicketHolds'. -/
def ticketHoldsUptoCard : Claim7 := { stood := { row := ticketHoldsUptoRow, standIns := [], harness := (true, "ae94f0243eb5a1da57b94b873cf515495c8440656b678c75f24e134e92a066a1"), looks := true }, kinds := [], alts := [], laidByText := true, laidKinds := [.handle], laidTests := true, laidLooks := .later }
def TicketHoldsUptoCardSaid : Prop := Claim7.holds Tryd.pinned (.plain (OpenSpec.upto ticketHoldsSpec)) ticketHoldsUptoCard
end Rows
end Go.Proofs.YtdbhkfanchjjbabDoor
