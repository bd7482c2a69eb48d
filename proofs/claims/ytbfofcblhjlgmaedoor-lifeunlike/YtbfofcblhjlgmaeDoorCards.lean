/-
  DERIVED. GIVEN WITH THE SEED: THE CARDS: each row of YtbfofcblhjlgmaeDoorRows.lean that lists a variable, with what it lists TIED to the program's text (the seventh form; the later family's looks); each row that meets fmt, with fmt's text TOLD by the authors' own Lean function (tested against real Go, not proved from fmt's source: count such statements apart). THE CARD IS WHAT COUNTS. Prove the row's statement (the work); the ties are given (YtbfofcblhjlgmaeDoorTie.lean); close each card by the builder's one call (the guide's Derived/Test/ToyasCard.lean, 'card_holds'). Laid BY PROGRAM, IN A SANDBOX (cutbox-door.mjs). By AI agents, Wed Nov 11 2026. No macro, syntax, notation, axiom, sorry.
-/
import Derived.Test.YtbfofcblhjlgmaeDoorRows
import GoSem.ClaimSeven
namespace Go.Proofs.YtbfofcblhjlgmaeDoor
namespace Rows

/-- THE TIED CARD OF 'foldlaw1.ResetTells'. -/
def resetTellsCard : Claim7 := { stood := { row := resetTellsRow, standIns := [], harness := (true, "ef4486e2eb804d87d18dac6281e54790599b4159b7850730222c3a598c249efa"), looks := true }, kinds := [], alts := [], laidByText := true, laidKinds := [.handle], laidTests := true, laidLooks := .later }
def ResetTellsCardSaid : Prop := Claim7.holds Tryd.pinned (.plain (OpenSpec.ofChange resetTellsSpec)) resetTellsCard

/-- THE TIED CARD OF 'foldlaw1.LifeUnlike'. -/
def lifeUnlikeCard : Claim7 := { stood := { row := lifeUnlikeRow, standIns := [], harness := (true, "ef4486e2eb804d87d18dac6281e54790599b4159b7850730222c3a598c249efa"), looks := true }, kinds := [], alts := [], laidByText := true, laidKinds := [.handle], laidTests := true, laidLooks := .later }
def LifeUnlikeCardSaid : Prop := Claim7.holds Tryd.pinned (.plain (OpenSpec.ofChange lifeUnlikeSpec)) lifeUnlikeCard

/-- THE SECOND FORM's CARD OF 'foldlaw1.ResetTells'. -/
def resetTellsUptoCard : Claim7 := { stood := { row := resetTellsUptoRow, standIns := [], harness := (true, "ef4486e2eb804d87d18dac6281e54790599b4159b7850730222c3a598c249efa"), looks := true }, kinds := [], alts := [], laidByText := true, laidKinds := [.handle], laidTests := true, laidLooks := .later }
def ResetTellsUptoCardSaid : Prop := Claim7.holds Tryd.pinned (.plain (OpenSpec.upto resetTellsSpec)) resetTellsUptoCard

/-- THE SECOND FORM's CARD OF 'foldlaw1.LifeUnlike'. -/
def lifeUnlikeUptoCard : Claim7 := { stood := { row := lifeUnlikeUptoRow, standIns := [], harness := (true, "ef4486e2eb804d87d18dac6281e54790599b4159b7850730222c3a598c249efa"), looks := true }, kinds := [], alts := [], laidByText := true, laidKinds := [.handle], laidTests := true, laidLooks := .later }
def LifeUnlikeUptoCardSaid : Prop := Claim7.holds Tryd.pinned (.plain (OpenSpec.upto lifeUnlikeSpec)) lifeUnlikeUptoCard
end Rows
end Go.Proofs.YtbfofcblhjlgmaeDoor
