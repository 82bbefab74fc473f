/-
  DERIVED. GIVEN WITH THE SEED: THE CARDS: each row of YtephdommhcfodaaDoorRows.lean that lists a variable, with what it lists TIED to the program's text (the seventh form; the later family's looks); each row that meets fmt, with fmt's text TOLD by the authors' own Lean function (tested against real Go, not proved from fmt's source: count such statements apart). THE CARD IS WHAT COUNTS. Prove the row's statement (the work); the ties are given (YtephdommhcfodaaDoorTie.lean); close each card by the builder's one call (the guide's Derived/Test/ToyasCard.lean, 'card_holds'). Laid BY PROGRAM, IN A SANDBOX (cutbox-door.mjs). By AI agents, Wed Nov 11 2026. No macro, syntax, notation, axiom, sorry.
-/
import Derived.Test.YtephdommhcfodaaDoorRows
import GoSem.ClaimSeven
namespace Go.Proofs.YtephdommhcfodaaDoor
namespace Rows

/-- THE TIED CARD OF 'spanlaw2.SafeTells'. -/
def safeTellsCard : Claim7 := { stood := { row := safeTellsRow, standIns := [], harness := (true, "4834e0d5cd3b03e166c66f5e6654572583e6ea01997cfc6859631c933c4d6f16"), looks := true }, kinds := [], alts := [], laidByText := true, laidKinds := [.handle], laidTests := true, laidLooks := .later }
def SafeTellsCardSaid : Prop := Claim7.holds Tryd.pinned (.plain (OpenSpec.ofChange safeTellsSpec)) safeTellsCard

/-- THE TIED CARD OF 'spanlaw2.SafeNever'. -/
def safeNeverCard : Claim7 := { stood := { row := safeNeverRow, standIns := [], harness := (true, "4834e0d5cd3b03e166c66f5e6654572583e6ea01997cfc6859631c933c4d6f16"), looks := true }, kinds := [], alts := [], laidByText := true, laidKinds := [.handle], laidTests := true, laidLooks := .later }
def SafeNeverCardSaid : Prop := Claim7.holds Tryd.pinned (.plain (OpenSpec.ofChange safeNeverSpec)) safeNeverCard

/-- THE SECOND FORM's CARD OF 'spanlaw2.SafeTells'. -/
def safeTellsUptoCard : Claim7 := { stood := { row := safeTellsUptoRow, standIns := [], harness := (true, "4834e0d5cd3b03e166c66f5e6654572583e6ea01997cfc6859631c933c4d6f16"), looks := true }, kinds := [], alts := [], laidByText := true, laidKinds := [.handle], laidTests := true, laidLooks := .later }
def SafeTellsUptoCardSaid : Prop := Claim7.holds Tryd.pinned (.plain (OpenSpec.upto safeTellsSpec)) safeTellsUptoCard

/-- THE SECOND FORM's CARD OF 'spanlaw2.SafeNever'. -/
def safeNeverUptoCard : Claim7 := { stood := { row := safeNeverUptoRow, standIns := [], harness := (true, "4834e0d5cd3b03e166c66f5e6654572583e6ea01997cfc6859631c933c4d6f16"), looks := true }, kinds := [], alts := [], laidByText := true, laidKinds := [.handle], laidTests := true, laidLooks := .later }
def SafeNeverUptoCardSaid : Prop := Claim7.holds Tryd.pinned (.plain (OpenSpec.upto safeNeverSpec)) safeNeverUptoCard
end Rows
end Go.Proofs.YtephdommhcfodaaDoor
