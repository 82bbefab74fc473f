/-
  DERIVED. GIVEN WITH THE SEED: THE CARDS: each row of YtmkdjaafkigemaaDoorRows.lean that lists a variable, with what it lists TIED to the program's text (the seventh form; the later family's looks); each row that meets fmt, with fmt's text TOLD by the authors' own Lean function (tested against real Go, not proved from fmt's source: count such statements apart). THE CARD IS WHAT COUNTS. Prove the row's statement (the work); the ties are given (YtmkdjaafkigemaaDoorTie.lean); close each card by the builder's one call (the guide's Derived/Test/ToyasCard.lean, 'card_holds'). Laid BY PROGRAM, IN A SANDBOX (cutbox-door.mjs). By AI agents, Wed Nov 11 2026. No macro, syntax, notation, axiom, sorry.
-/
import Derived.Test.YtmkdjaafkigemaaDoorRows
import GoSem.ClaimSeven
namespace Go.Proofs.YtmkdjaafkigemaaDoor
namespace Rows

/-- THE TIED CARD OF 'spanlaw2.NearTells'. -/
def nearTellsCard : Claim7 := { stood := { row := nearTellsRow, standIns := [], harness := (true, "a83b77e4e79417b4465c9323a80ab9a00d0b4c1d7a80cd500c20fd34ed471b7f"), looks := true }, kinds := [], alts := [], laidByText := true, laidKinds := [.handle], laidTests := true, laidLooks := .later }
def NearTellsCardSaid : Prop := Claim7.holds Tryd.pinned (.plain (OpenSpec.ofChange nearTellsSpec)) nearTellsCard

/-- THE SECOND FORM's CARD OF 'spanlaw2.NearTells'. -/
def nearTellsUptoCard : Claim7 := { stood := { row := nearTellsUptoRow, standIns := [], harness := (true, "a83b77e4e79417b4465c9323a80ab9a00d0b4c1d7a80cd500c20fd34ed471b7f"), looks := true }, kinds := [], alts := [], laidByText := true, laidKinds := [.handle], laidTests := true, laidLooks := .later }
def NearTellsUptoCardSaid : Prop := Claim7.holds Tryd.pinned (.plain (OpenSpec.upto nearTellsSpec)) nearTellsUptoCard
end Rows
end Go.Proofs.YtmkdjaafkigemaaDoor
