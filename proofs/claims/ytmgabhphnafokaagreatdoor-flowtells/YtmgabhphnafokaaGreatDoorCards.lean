/-
  DERIVED. GIVEN WITH THE SEED: THE CARDS: each row of YtmgabhphnafokaaGreatDoorRows.lean that lists a variable, with what it lists TIED to the program's text (the seventh form; the later family's looks); each row that meets fmt, with fmt's text TOLD by the authors' own Lean function (tested against real Go, not proved from fmt's source: count such statements apart). THE CARD IS WHAT COUNTS. Prove the row's statement (the work); the ties are given (YtmgabhphnafokaaGreatDoorTie.lean); close each card by the builder's one call (the guide's Derived/Test/ToyasCard.lean, 'card_holds'). Laid BY PROGRAM, IN A SANDBOX (cutbox-door.mjs). By AI agents, Wed Nov 11 2026. No macro, syntax, notation, axiom, sorry.
-/
import Derived.Test.YtmgabhphnafokaaGreatDoorRows
import GoSem.ClaimSeven
namespace Go.Proofs.YtmgabhphnafokaaGreatDoor
namespace Rows

/-- THE TIED CARD OF 'spanlaw2.FlowTells'. -/
def flowTellsCard : Claim7 := { stood := { row := flowTellsRow, standIns := [], harness := (true, "cf4199c09abf3d62d3bb9e067bdc18fecc41536f03c7ce7a3193f9ee44fda48d"), looks := true }, kinds := [], alts := [], laidByText := true, laidKinds := [.handle], laidTests := true, laidLooks := .later }
def FlowTellsCardSaid : Prop := Claim7.holds Tryz.pinned (.plain (OpenSpec.ofChange flowTellsSpec)) flowTellsCard

/-- THE SECOND FORM's CARD OF 'spanlaw2.FlowTells'. -/
def flowTellsUptoCard : Claim7 := { stood := { row := flowTellsUptoRow, standIns := [], harness := (true, "cf4199c09abf3d62d3bb9e067bdc18fecc41536f03c7ce7a3193f9ee44fda48d"), looks := true }, kinds := [], alts := [], laidByText := true, laidKinds := [.handle], laidTests := true, laidLooks := .later }
def FlowTellsUptoCardSaid : Prop := Claim7.holds Tryz.pinned (.plain (OpenSpec.upto flowTellsSpec)) flowTellsUptoCard
end Rows
end Go.Proofs.YtmgabhphnafokaaGreatDoor
