/-
  DERIVED. GIVEN WITH THE SEED: THE CARDS: each row of YtkfijiklmmdmfaaDoorRows.lean that lists a variable, with what it lists TIED to the program's text (the seventh form; the later family's looks); each row that meets fmt, with fmt's text TOLD by the authors' own Lean function (tested against real Go, not proved from fmt's source: count such statements apart). THE CARD IS WHAT COUNTS. Prove the row's statement (the work); the ties are given (YtkfijiklmmdmfaaDoorTie.lean); close each card by the builder's one call (the guide's Derived/Test/ToyasCard.lean, 'card_holds'). Laid BY PROGRAM, IN A SANDBOX (cutbox-door.mjs). By AI agents, Wed Nov 11 2026. No macro, syntax, notation, axiom, sorry.
-/
import Derived.Test.YtkfijiklmmdmfaaDoorRows
import GoSem.ClaimSeven
namespace Go.Proofs.YtkfijiklmmdmfaaDoor
namespace Rows

/-- THE TIED CARD OF 'foldlaw1.TagTells'. -/
def tagTellsCard : Claim7 := { stood := { row := tagTellsRow, standIns := [], harness := (true, "d5c11abbc996e12a781b115e5465665958494cced519fd7e992174785b498fc1"), looks := true }, kinds := [], alts := [], laidByText := true, laidKinds := [.handle], laidTests := true, laidLooks := .later }
def TagTellsCardSaid : Prop := Claim7.holds Tryd.pinned (.plain (OpenSpec.ofChange tagTellsSpec)) tagTellsCard

/-- THE TIED CARD OF 'foldlaw1.RingTells'. -/
def ringTellsCard : Claim7 := { stood := { row := ringTellsRow, standIns := [], harness := (true, "d5c11abbc996e12a781b115e5465665958494cced519fd7e992174785b498fc1"), looks := true }, kinds := [], alts := [], laidByText := true, laidKinds := [.handle], laidTests := true, laidLooks := .later }
def RingTellsCardSaid : Prop := Claim7.holds Tryd.pinned (.plain (OpenSpec.ofChange ringTellsSpec)) ringTellsCard

/-- THE TIED CARD OF 'foldlaw1.RingTwo'. -/
def ringTwoCard : Claim7 := { stood := { row := ringTwoRow, standIns := [], harness := (true, "d5c11abbc996e12a781b115e5465665958494cced519fd7e992174785b498fc1"), looks := true }, kinds := [], alts := [], laidByText := true, laidKinds := [.handle], laidTests := true, laidLooks := .later }
def RingTwoCardSaid : Prop := Claim7.holds Tryd.pinned (.plain (OpenSpec.ofChange ringTwoSpec)) ringTwoCard

/-- THE SECOND FORM's CARD OF 'foldlaw1.TagTells'. -/
def tagTellsUptoCard : Claim7 := { stood := { row := tagTellsUptoRow, standIns := [], harness := (true, "d5c11abbc996e12a781b115e5465665958494cced519fd7e992174785b498fc1"), looks := true }, kinds := [], alts := [], laidByText := true, laidKinds := [.handle], laidTests := true, laidLooks := .later }
def TagTellsUptoCardSaid : Prop := Claim7.holds Tryd.pinned (.plain (OpenSpec.upto tagTellsSpec)) tagTellsUptoCard

/-- THE SECOND FORM's CARD OF 'foldlaw1.RingTells'. -/
def ringTellsUptoCard : Claim7 := { stood := { row := ringTellsUptoRow, standIns := [], harness := (true, "d5c11abbc996e12a781b115e5465665958494cced519fd7e992174785b498fc1"), looks := true }, kinds := [], alts := [], laidByText := true, laidKinds := [.handle], laidTests := true, laidLooks := .later }
def RingTellsUptoCardSaid : Prop := Claim7.holds Tryd.pinned (.plain (OpenSpec.upto ringTellsSpec)) ringTellsUptoCard

/-- THE SECOND FORM's CARD OF 'foldlaw1.RingTwo'. -/
def ringTwoUptoCard : Claim7 := { stood := { row := ringTwoUptoRow, standIns := [], harness := (true, "d5c11abbc996e12a781b115e5465665958494cced519fd7e992174785b498fc1"), looks := true }, kinds := [], alts := [], laidByText := true, laidKinds := [.handle], laidTests := true, laidLooks := .later }
def RingTwoUptoCardSaid : Prop := Claim7.holds Tryd.pinned (.plain (OpenSpec.upto ringTwoSpec)) ringTwoUptoCard
end Rows
end Go.Proofs.YtkfijiklmmdmfaaDoor
