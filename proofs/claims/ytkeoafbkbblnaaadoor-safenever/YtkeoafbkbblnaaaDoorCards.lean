/-
  DERIVED. GIVEN WITH THE SEED: THE CARDS: each row of YtkeoafbkbblnaaaDoorRows.lean that lists a variable, with what it lists TIED to the program's text (the seventh form; the later family's looks); each row that meets fmt, with fmt's text TOLD by the authors' own Lean function (tested against real Go, not proved from fmt's source: count such statements apart). THE CARD IS WHAT COUNTS. Prove the row's statement (the work); the ties are given (YtkeoafbkbblnaaaDoorTie.lean); close each card by the builder's one call (the guide's Derived/Test/ToyasCard.lean, 'card_holds'). Laid BY PROGRAM, IN A SANDBOX (cutbox-door.mjs). By AI agents, Wed Nov 11 2026. No macro, syntax, notation, axiom, sorry.
-/
import Derived.Test.YtkeoafbkbblnaaaDoorRows
import GoSem.ClaimSeven
namespace Go.Proofs.YtkeoafbkbblnaaaDoor
namespace Rows

/-- THE TIED CARD OF 'spanlaw2.CoverTells'. -/
def coverTellsCard : Claim7 := { stood := { row := coverTellsRow, standIns := [], harness := (true, "3125d9e07a9b5b24fba710a2dc8b699dbd4578e2cf090b5babd66fcc32f915ca"), looks := true }, kinds := [], alts := [], laidByText := true, laidKinds := [.handle], laidTests := true, laidLooks := .later }
def CoverTellsCardSaid : Prop := Claim7.holds Tryd.pinned (.plain (OpenSpec.ofChange coverTellsSpec)) coverTellsCard

/-- THE TIED CARD OF 'spanlaw2.HoldTells'. -/
def holdTellsCard : Claim7 := { stood := { row := holdTellsRow, standIns := [], harness := (true, "3125d9e07a9b5b24fba710a2dc8b699dbd4578e2cf090b5babd66fcc32f915ca"), looks := true }, kinds := [], alts := [], laidByText := true, laidKinds := [.handle], laidTests := true, laidLooks := .later }
def HoldTellsCardSaid : Prop := Claim7.holds Tryd.pinned (.plain (OpenSpec.ofChange holdTellsSpec)) holdTellsCard

/-- THE TIED CARD OF 'spanlaw2.SafeTells'. -/
def safeTellsCard : Claim7 := { stood := { row := safeTellsRow, standIns := [], harness := (true, "3125d9e07a9b5b24fba710a2dc8b699dbd4578e2cf090b5babd66fcc32f915ca"), looks := true }, kinds := [], alts := [], laidByText := true, laidKinds := [.handle], laidTests := true, laidLooks := .later }
def SafeTellsCardSaid : Prop := Claim7.holds Tryd.pinned (.plain (OpenSpec.ofChange safeTellsSpec)) safeTellsCard

/-- THE TIED CARD OF 'spanlaw2.SafeNever'. -/
def safeNeverCard : Claim7 := { stood := { row := safeNeverRow, standIns := [], harness := (true, "3125d9e07a9b5b24fba710a2dc8b699dbd4578e2cf090b5babd66fcc32f915ca"), looks := true }, kinds := [], alts := [], laidByText := true, laidKinds := [.handle], laidTests := true, laidLooks := .later }
def SafeNeverCardSaid : Prop := Claim7.holds Tryd.pinned (.plain (OpenSpec.ofChange safeNeverSpec)) safeNeverCard

/-- THE SECOND FORM's CARD OF 'spanlaw2.CoverTells'. -/
def coverTellsUptoCard : Claim7 := { stood := { row := coverTellsUptoRow, standIns := [], harness := (true, "3125d9e07a9b5b24fba710a2dc8b699dbd4578e2cf090b5babd66fcc32f915ca"), looks := true }, kinds := [], alts := [], laidByText := true, laidKinds := [.handle], laidTests := true, laidLooks := .later }
def CoverTellsUptoCardSaid : Prop := Claim7.holds Tryd.pinned (.plain (OpenSpec.upto coverTellsSpec)) coverTellsUptoCard

/-- THE SECOND FORM's CARD OF 'spanlaw2.HoldTells'. -/
def holdTellsUptoCard : Claim7 := { stood := { row := holdTellsUptoRow, standIns := [], harness := (true, "3125d9e07a9b5b24fba710a2dc8b699dbd4578e2cf090b5babd66fcc32f915ca"), looks := true }, kinds := [], alts := [], laidByText := true, laidKinds := [.handle], laidTests := true, laidLooks := .later }
def HoldTellsUptoCardSaid : Prop := Claim7.holds Tryd.pinned (.plain (OpenSpec.upto holdTellsSpec)) holdTellsUptoCard

/-- THE SECOND FORM's CARD OF 'spanlaw2.SafeTells'. -/
def safeTellsUptoCard : Claim7 := { stood := { row := safeTellsUptoRow, standIns := [], harness := (true, "3125d9e07a9b5b24fba710a2dc8b699dbd4578e2cf090b5babd66fcc32f915ca"), looks := true }, kinds := [], alts := [], laidByText := true, laidKinds := [.handle], laidTests := true, laidLooks := .later }
def SafeTellsUptoCardSaid : Prop := Claim7.holds Tryd.pinned (.plain (OpenSpec.upto safeTellsSpec)) safeTellsUptoCard

/-- THE SECOND FORM's CARD OF 'spanlaw2.SafeNever'. -/
def safeNeverUptoCard : Claim7 := { stood := { row := safeNeverUptoRow, standIns := [], harness := (true, "3125d9e07a9b5b24fba710a2dc8b699dbd4578e2cf090b5babd66fcc32f915ca"), looks := true }, kinds := [], alts := [], laidByText := true, laidKinds := [.handle], laidTests := true, laidLooks := .later }
def SafeNeverUptoCardSaid : Prop := Claim7.holds Tryd.pinned (.plain (OpenSpec.upto safeNeverSpec)) safeNeverUptoCard
end Rows
end Go.Proofs.YtkeoafbkbblnaaaDoor
