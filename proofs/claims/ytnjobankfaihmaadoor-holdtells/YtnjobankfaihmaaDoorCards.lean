/-
  DERIVED. GIVEN WITH THE SEED: THE CARDS: each row of YtnjobankfaihmaaDoorRows.lean that lists a variable, with what it lists TIED to the program's text (the seventh form; the later family's looks); each row that meets fmt, with fmt's text TOLD by the authors' own Lean function (tested against real Go, not proved from fmt's source: count such statements apart). THE CARD IS WHAT COUNTS. Prove the row's statement (the work); the ties are given (YtnjobankfaihmaaDoorTie.lean); close each card by the builder's one call (the guide's Derived/Test/ToyasCard.lean, 'card_holds'). Laid BY PROGRAM, IN A SANDBOX (cutbox-door.mjs). By AI agents, Wed Nov 11 2026. No macro, syntax, notation, axiom, sorry.
-/
import Derived.Test.YtnjobankfaihmaaDoorRows
import GoSem.ClaimSeven
namespace Go.Proofs.YtnjobankfaihmaaDoor
namespace Rows

/-- THE TIED CARD OF 'spanlaw2.HoldTells'. -/
def holdTellsCard : Claim7 := { stood := { row := holdTellsRow, standIns := [], harness := (true, "d7aeaddaabe7f3949376dc15ea794613b5bb966cc4914c81f09fcbb8d5e295b7"), looks := true }, kinds := [], alts := [], laidByText := true, laidKinds := [.handle], laidTests := true, laidLooks := .later }
def HoldTellsCardSaid : Prop := Claim7.holds Tryd.pinned (.plain (OpenSpec.ofChange holdTellsSpec)) holdTellsCard

/-- THE SECOND FORM's CARD OF 'spanlaw2.HoldTells'. -/
def holdTellsUptoCard : Claim7 := { stood := { row := holdTellsUptoRow, standIns := [], harness := (true, "d7aeaddaabe7f3949376dc15ea794613b5bb966cc4914c81f09fcbb8d5e295b7"), looks := true }, kinds := [], alts := [], laidByText := true, laidKinds := [.handle], laidTests := true, laidLooks := .later }
def HoldTellsUptoCardSaid : Prop := Claim7.holds Tryd.pinned (.plain (OpenSpec.upto holdTellsSpec)) holdTellsUptoCard
end Rows
end Go.Proofs.YtnjobankfaihmaaDoor
