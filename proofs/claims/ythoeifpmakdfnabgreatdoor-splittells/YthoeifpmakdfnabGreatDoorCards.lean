/-
  DERIVED. GIVEN WITH THE SEED: THE CARDS: each row of YthoeifpmakdfnabGreatDoorRows.lean that lists a variable, with what it lists TIED to the program's text (the seventh form; the later family's looks); each row that meets fmt, with fmt's text TOLD by the authors' own Lean function (tested against real Go, not proved from fmt's source: count such statements apart). THE CARD IS WHAT COUNTS. Prove the row's statement (the work); the ties are given (YthoeifpmakdfnabGreatDoorTie.lean); close each card by the builder's one call (the guide's Derived/Test/ToyasCard.lean, 'card_holds'). Laid BY PROGRAM, IN A SANDBOX (cutbox-door.mjs). By AI agents, Wed Nov 11 2026. No macro, syntax, notation, axiom, sorry.
-/
import Derived.Test.YthoeifpmakdfnabGreatDoorRows
import GoSem.ClaimSeven
namespace Go.Proofs.YthoeifpmakdfnabGreatDoor
namespace Rows

/-- THE TIED CARD OF 'spanlaw1.SplitTells'. -/
def splitTellsCard : Claim7 := { stood := { row := splitTellsRow, standIns := [], harness := (true, "9a4e1a572a3dda3434dcf6fc8ac6d7b4842fe57d8c09c72beb6e789eeaf34fbd"), looks := true }, kinds := [], alts := [], laidByText := true, laidKinds := [.handle], laidTests := true, laidLooks := .later }
def SplitTellsCardSaid : Prop := Claim7.holds Tryz.pinned (.plain (OpenSpec.ofChange splitTellsSpec)) splitTellsCard

/-- THE SECOND FORM's CARD OF 'spanlaw1.SplitTells'. -/
def splitTellsUptoCard : Claim7 := { stood := { row := splitTellsUptoRow, standIns := [], harness := (true, "9a4e1a572a3dda3434dcf6fc8ac6d7b4842fe57d8c09c72beb6e789eeaf34fbd"), looks := true }, kinds := [], alts := [], laidByText := true, laidKinds := [.handle], laidTests := true, laidLooks := .later }
def SplitTellsUptoCardSaid : Prop := Claim7.holds Tryz.pinned (.plain (OpenSpec.upto splitTellsSpec)) splitTellsUptoCard
end Rows
end Go.Proofs.YthoeifpmakdfnabGreatDoor
