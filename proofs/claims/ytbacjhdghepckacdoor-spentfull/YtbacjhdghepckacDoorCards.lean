/-
  DERIVED. GIVEN WITH THE SEED: THE CARDS: each row of YtbacjhdghepckacDoorRows.lean that lists a variable, with what it lists TIED to the program's text (the seventh form; the later family's looks); each row that meets fmt, with fmt's text TOLD by the authors' own Lean function (tested against real Go, not proved from fmt's source: count such statements apart). THE CARD IS WHAT COUNTS. Prove the row's statement (the work); the ties are given (YtbacjhdghepckacDoorTie.lean); close each card by the builder's one call (the guide's Derived/Test/ToyasCard.lean, 'card_holds'). Laid BY PROGRAM, IN A SANDBOX (cutbox-door.mjs). By AI agents, Wed Nov 11 2026. No macro, syntax, notation, axiom, sorry.
-/
import Derived.Test.YtbacjhdghepckacDoorRows
import GoSem.ClaimSeven
namespace Go.Proofs.YtbacjhdghepckacDoor
namespace Rows

/-- THE TIED CARD OF 'foldlaw1.SpentTells'. -/
def spentTellsCard : Claim7 := { stood := { row := spentTellsRow, standIns := [], harness := (true, "e8cbe923d7c0575d3f6fe6fc2d6ded02667df0b32199b21acacc92ab6a77b1b7"), looks := true }, kinds := [], alts := [], laidByText := true, laidKinds := [.handle], laidTests := true, laidLooks := .later }
def SpentTellsCardSaid : Prop := Claim7.holds Tryd.pinned (.plain (OpenSpec.ofChange spentTellsSpec)) spentTellsCard

/-- THE TIED CARD OF 'foldlaw1.SpentOnce'. -/
def spentOnceCard : Claim7 := { stood := { row := spentOnceRow, standIns := [], harness := (true, "e8cbe923d7c0575d3f6fe6fc2d6ded02667df0b32199b21acacc92ab6a77b1b7"), looks := true }, kinds := [], alts := [], laidByText := true, laidKinds := [.handle], laidTests := true, laidLooks := .later }
def SpentOnceCardSaid : Prop := Claim7.holds Tryd.pinned (.plain (OpenSpec.ofChange spentOnceSpec)) spentOnceCard

/-- THE TIED CARD OF 'foldlaw4.SpentFull'. -/
def spentFullCard : Claim7 := { stood := { row := spentFullRow, standIns := [], harness := (true, "e8cbe923d7c0575d3f6fe6fc2d6ded02667df0b32199b21acacc92ab6a77b1b7"), looks := true }, kinds := [], alts := [], laidByText := true, laidKinds := [.handle], laidTests := true, laidLooks := .later }
def SpentFullCardSaid : Prop := Claim7.holds Tryd.pinned (.plain (OpenSpec.ofChange spentFullSpec)) spentFullCard

/-- THE TIED CARD OF 'foldlaw1.WindowTells'. -/
def windowTellsCard : Claim7 := { stood := { row := windowTellsRow, standIns := [], harness := (true, "e8cbe923d7c0575d3f6fe6fc2d6ded02667df0b32199b21acacc92ab6a77b1b7"), looks := true }, kinds := [], alts := [], laidByText := true, laidKinds := [.handle], laidTests := true, laidLooks := .later }
def WindowTellsCardSaid : Prop := Claim7.holds Tryd.pinned (.plain (OpenSpec.ofChange windowTellsSpec)) windowTellsCard

/-- THE TIED CARD OF 'foldlaw1.WindowOnce'. -/
def windowOnceCard : Claim7 := { stood := { row := windowOnceRow, standIns := [], harness := (true, "e8cbe923d7c0575d3f6fe6fc2d6ded02667df0b32199b21acacc92ab6a77b1b7"), looks := true }, kinds := [], alts := [], laidByText := true, laidKinds := [.handle], laidTests := true, laidLooks := .later }
def WindowOnceCardSaid : Prop := Claim7.holds Tryd.pinned (.plain (OpenSpec.ofChange windowOnceSpec)) windowOnceCard

/-- THE SECOND FORM's CARD OF 'foldlaw1.SpentTells'. -/
def spentTellsUptoCard : Claim7 := { stood := { row := spentTellsUptoRow, standIns := [], harness := (true, "e8cbe923d7c0575d3f6fe6fc2d6ded02667df0b32199b21acacc92ab6a77b1b7"), looks := true }, kinds := [], alts := [], laidByText := true, laidKinds := [.handle], laidTests := true, laidLooks := .later }
def SpentTellsUptoCardSaid : Prop := Claim7.holds Tryd.pinned (.plain (OpenSpec.upto spentTellsSpec)) spentTellsUptoCard

/-- THE SECOND FORM's CARD OF 'foldlaw1.SpentOnce'. -/
def spentOnceUptoCard : Claim7 := { stood := { row := spentOnceUptoRow, standIns := [], harness := (true, "e8cbe923d7c0575d3f6fe6fc2d6ded02667df0b32199b21acacc92ab6a77b1b7"), looks := true }, kinds := [], alts := [], laidByText := true, laidKinds := [.handle], laidTests := true, laidLooks := .later }
def SpentOnceUptoCardSaid : Prop := Claim7.holds Tryd.pinned (.plain (OpenSpec.upto spentOnceSpec)) spentOnceUptoCard

/-- THE SECOND FORM's CARD OF 'foldlaw4.SpentFull'. -/
def spentFullUptoCard : Claim7 := { stood := { row := spentFullUptoRow, standIns := [], harness := (true, "e8cbe923d7c0575d3f6fe6fc2d6ded02667df0b32199b21acacc92ab6a77b1b7"), looks := true }, kinds := [], alts := [], laidByText := true, laidKinds := [.handle], laidTests := true, laidLooks := .later }
def SpentFullUptoCardSaid : Prop := Claim7.holds Tryd.pinned (.plain (OpenSpec.upto spentFullSpec)) spentFullUptoCard

/-- THE SECOND FORM's CARD OF 'foldlaw1.WindowTells'. -/
def windowTellsUptoCard : Claim7 := { stood := { row := windowTellsUptoRow, standIns := [], harness := (true, "e8cbe923d7c0575d3f6fe6fc2d6ded02667df0b32199b21acacc92ab6a77b1b7"), looks := true }, kinds := [], alts := [], laidByText := true, laidKinds := [.handle], laidTests := true, laidLooks := .later }
def WindowTellsUptoCardSaid : Prop := Claim7.holds Tryd.pinned (.plain (OpenSpec.upto windowTellsSpec)) windowTellsUptoCard

/-- THE SECOND FORM's CARD OF 'foldlaw1.WindowOnce'. -/
def windowOnceUptoCard : Claim7 := { stood := { row := windowOnceUptoRow, standIns := [], harness := (true, "e8cbe923d7c0575d3f6fe6fc2d6ded02667df0b32199b21acacc92ab6a77b1b7"), looks := true }, kinds := [], alts := [], laidByText := true, laidKinds := [.handle], laidTests := true, laidLooks := .later }
def WindowOnceUptoCardSaid : Prop := Claim7.holds Tryd.pinned (.plain (OpenSpec.upto windowOnceSpec)) windowOnceUptoCard
end Rows
end Go.Proofs.YtbacjhdghepckacDoor
