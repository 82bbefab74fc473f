/-
  DERIVED. GIVEN WITH THE SEED: THE CARDS: each row of YtlmbbhjbbledoaaDoorRows.lean that lists a variable, with what it lists TIED to the program's text (the seventh form; the later family's looks); each row that meets fmt, with fmt's text TOLD by the authors' own Lean function (tested against real Go, not proved from fmt's source: count such statements apart). THE CARD IS WHAT COUNTS. Prove the row's statement (the work); the ties are given (YtlmbbhjbbledoaaDoorTie.lean); close each card by the builder's one call (the guide's Derived/Test/ToyasCard.lean, 'card_holds'). Laid BY PROGRAM, IN A SANDBOX (cutbox-door.mjs). By AI agents, Wed Nov 11 2026. No macro, syntax, notation, axiom, sorry.
-/
import Derived.Test.YtlmbbhjbbledoaaDoorRows
import GoSem.ClaimSeven
namespace Go.Proofs.YtlmbbhjbbledoaaDoor
namespace Rows

/-- THE TIED CARD OF 'spanlaw2.FormTells'. -/
def formTellsCard : Claim7 := { stood := { row := formTellsRow, standIns := [], harness := (true, "aab0226badaaf4878c82c00cab10cdad8f534fa5a091e0fd0172cbfd967f13b8"), looks := true }, kinds := [], alts := [], laidByText := true, laidKinds := [.handle], laidTests := true, laidLooks := .later }
def FormTellsCardSaid : Prop := Claim7.holds Tryd.pinned (.plain (OpenSpec.ofChange formTellsSpec)) formTellsCard

/-- THE TIED CARD OF 'spanlaw4.FormNone'. -/
def formNoneCard : Claim7 := { stood := { row := formNoneRow, standIns := [], harness := (true, "aab0226badaaf4878c82c00cab10cdad8f534fa5a091e0fd0172cbfd967f13b8"), looks := true }, kinds := [], alts := [], laidByText := true, laidKinds := [.handle], laidTests := true, laidLooks := .later }
def FormNoneCardSaid : Prop := Claim7.holds Tryd.pinned (.plain (OpenSpec.ofChange formNoneSpec)) formNoneCard

/-- THE SECOND FORM's CARD OF 'spanlaw2.FormTells'. -/
def formTellsUptoCard : Claim7 := { stood := { row := formTellsUptoRow, standIns := [], harness := (true, "aab0226badaaf4878c82c00cab10cdad8f534fa5a091e0fd0172cbfd967f13b8"), looks := true }, kinds := [], alts := [], laidByText := true, laidKinds := [.handle], laidTests := true, laidLooks := .later }
def FormTellsUptoCardSaid : Prop := Claim7.holds Tryd.pinned (.plain (OpenSpec.upto formTellsSpec)) formTellsUptoCard

/-- THE SECOND FORM's CARD OF 'spanlaw4.FormNone'. -/
def formNoneUptoCard : Claim7 := { stood := { row := formNoneUptoRow, standIns := [], harness := (true, "aab0226badaaf4878c82c00cab10cdad8f534fa5a091e0fd0172cbfd967f13b8"), looks := true }, kinds := [], alts := [], laidByText := true, laidKinds := [.handle], laidTests := true, laidLooks := .later }
def FormNoneUptoCardSaid : Prop := Claim7.holds Tryd.pinned (.plain (OpenSpec.upto formNoneSpec)) formNoneUptoCard
end Rows
end Go.Proofs.YtlmbbhjbbledoaaDoor
