/-
  DERIVED. GIVEN WITH THE SEED: THE CARDS: each row of YtmgabhphnafokaaDoorRows.lean that lists a variable, with what it lists TIED to the program's text (the seventh form; the later family's looks); each row that meets fmt, with fmt's text TOLD by the authors' own Lean function (tested against real Go, not proved from fmt's source: count such statements apart). THE CARD IS WHAT COUNTS. Prove the row's statement (the work); the ties are given (YtmgabhphnafokaaDoorTie.lean); close each card by the builder's one call (the guide's Derived/Test/ToyasCard.lean, 'card_holds'). Laid BY PROGRAM, IN A SANDBOX (cutbox-door.mjs). By AI agents, Wed Nov 11 2026. No macro, syntax, notation, axiom, sorry.
-/
import Derived.Test.YtmgabhphnafokaaDoorRows
import GoSem.ClaimSeven
namespace Go.Proofs.YtmgabhphnafokaaDoor
namespace Rows

/-- THE TIED CARD OF 'spanlaw1.BoxTells'. -/
def boxTellsCard : Claim7 := { stood := { row := boxTellsRow, standIns := [], harness := (true, "735f2b6b0bbbb55300239078b02741ece8414d0d9e830dd6678a106e382d3874"), looks := true }, kinds := [], alts := [], laidByText := true, laidKinds := [.handle], laidTests := true, laidLooks := .later }
def BoxTellsCardSaid : Prop := Claim7.holds Tryd.pinned (.plain (OpenSpec.ofChange boxTellsSpec)) boxTellsCard

/-- THE TIED CARD OF 'spanlaw2.FormTells'. -/
def formTellsCard : Claim7 := { stood := { row := formTellsRow, standIns := [], harness := (true, "735f2b6b0bbbb55300239078b02741ece8414d0d9e830dd6678a106e382d3874"), looks := true }, kinds := [], alts := [], laidByText := true, laidKinds := [.handle], laidTests := true, laidLooks := .later }
def FormTellsCardSaid : Prop := Claim7.holds Tryd.pinned (.plain (OpenSpec.ofChange formTellsSpec)) formTellsCard

/-- THE TIED CARD OF 'spanlaw4.FormNone'. -/
def formNoneCard : Claim7 := { stood := { row := formNoneRow, standIns := [], harness := (true, "735f2b6b0bbbb55300239078b02741ece8414d0d9e830dd6678a106e382d3874"), looks := true }, kinds := [], alts := [], laidByText := true, laidKinds := [.handle], laidTests := true, laidLooks := .later }
def FormNoneCardSaid : Prop := Claim7.holds Tryd.pinned (.plain (OpenSpec.ofChange formNoneSpec)) formNoneCard

/-- THE TIED CARD OF 'spanlaw2.StepTells'. -/
def stepTellsCard : Claim7 := { stood := { row := stepTellsRow, standIns := [], harness := (true, "735f2b6b0bbbb55300239078b02741ece8414d0d9e830dd6678a106e382d3874"), looks := true }, kinds := [], alts := [], laidByText := true, laidKinds := [.handle], laidTests := true, laidLooks := .later }
def StepTellsCardSaid : Prop := Claim7.holds Tryd.pinned (.plain (OpenSpec.ofChange stepTellsSpec)) stepTellsCard

/-- THE SECOND FORM's CARD OF 'spanlaw1.BoxTells'. -/
def boxTellsUptoCard : Claim7 := { stood := { row := boxTellsUptoRow, standIns := [], harness := (true, "735f2b6b0bbbb55300239078b02741ece8414d0d9e830dd6678a106e382d3874"), looks := true }, kinds := [], alts := [], laidByText := true, laidKinds := [.handle], laidTests := true, laidLooks := .later }
def BoxTellsUptoCardSaid : Prop := Claim7.holds Tryd.pinned (.plain (OpenSpec.upto boxTellsSpec)) boxTellsUptoCard

/-- THE SECOND FORM's CARD OF 'spanlaw2.FormTells'. -/
def formTellsUptoCard : Claim7 := { stood := { row := formTellsUptoRow, standIns := [], harness := (true, "735f2b6b0bbbb55300239078b02741ece8414d0d9e830dd6678a106e382d3874"), looks := true }, kinds := [], alts := [], laidByText := true, laidKinds := [.handle], laidTests := true, laidLooks := .later }
def FormTellsUptoCardSaid : Prop := Claim7.holds Tryd.pinned (.plain (OpenSpec.upto formTellsSpec)) formTellsUptoCard

/-- THE SECOND FORM's CARD OF 'spanlaw4.FormNone'. -/
def formNoneUptoCard : Claim7 := { stood := { row := formNoneUptoRow, standIns := [], harness := (true, "735f2b6b0bbbb55300239078b02741ece8414d0d9e830dd6678a106e382d3874"), looks := true }, kinds := [], alts := [], laidByText := true, laidKinds := [.handle], laidTests := true, laidLooks := .later }
def FormNoneUptoCardSaid : Prop := Claim7.holds Tryd.pinned (.plain (OpenSpec.upto formNoneSpec)) formNoneUptoCard

/-- THE SECOND FORM's CARD OF 'spanlaw2.StepTells'. -/
def stepTellsUptoCard : Claim7 := { stood := { row := stepTellsUptoRow, standIns := [], harness := (true, "735f2b6b0bbbb55300239078b02741ece8414d0d9e830dd6678a106e382d3874"), looks := true }, kinds := [], alts := [], laidByText := true, laidKinds := [.handle], laidTests := true, laidLooks := .later }
def StepTellsUptoCardSaid : Prop := Claim7.holds Tryd.pinned (.plain (OpenSpec.upto stepTellsSpec)) stepTellsUptoCard
end Rows
end Go.Proofs.YtmgabhphnafokaaDoor
