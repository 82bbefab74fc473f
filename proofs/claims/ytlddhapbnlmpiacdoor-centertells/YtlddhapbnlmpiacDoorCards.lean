/-
  DERIVED. GIVEN WITH THE SEED: THE CARDS: each row of YtlddhapbnlmpiacDoorRows.lean that lists a variable, with what it lists TIED to the program's text (the seventh form; the later family's looks); each row that meets fmt, with fmt's text TOLD by the authors' own Lean function (tested against real Go, not proved from fmt's source: count such statements apart). THE CARD IS WHAT COUNTS. Prove the row's statement (the work); the ties are given (YtlddhapbnlmpiacDoorTie.lean); close each card by the builder's one call (the guide's Derived/Test/ToyasCard.lean, 'card_holds'). Laid BY PROGRAM, IN A SANDBOX (cutbox-door.mjs). By AI agents, Wed Nov 11 2026. No macro, syntax, notation, axiom, sorry.
-/
import Derived.Test.YtlddhapbnlmpiacDoorRows
import GoSem.ClaimSeven
namespace Go.Proofs.YtlddhapbnlmpiacDoor
namespace Rows

/-- THE TIED CARD OF 'spanlaw1.CenterTells'. -/
def centerTellsCard : Claim7 := { stood := { row := centerTellsRow, standIns := [], harness := (true, "f67e8f1e39ccac87451971fd379c99e83d9235f1ba4988b6f55da5c117ab98e7"), looks := true }, kinds := [], alts := [], laidByText := true, laidKinds := [.handle], laidTests := true, laidLooks := .later }
def CenterTellsCardSaid : Prop := Claim7.holds Tryd.pinned (.plain (OpenSpec.ofChange centerTellsSpec)) centerTellsCard

/-- THE SECOND FORM's CARD OF 'spanlaw1.CenterTells'. -/
def centerTellsUptoCard : Claim7 := { stood := { row := centerTellsUptoRow, standIns := [], harness := (true, "f67e8f1e39ccac87451971fd379c99e83d9235f1ba4988b6f55da5c117ab98e7"), looks := true }, kinds := [], alts := [], laidByText := true, laidKinds := [.handle], laidTests := true, laidLooks := .later }
def CenterTellsUptoCardSaid : Prop := Claim7.holds Tryd.pinned (.plain (OpenSpec.upto centerTellsSpec)) centerTellsUptoCard
end Rows
end Go.Proofs.YtlddhapbnlmpiacDoor
