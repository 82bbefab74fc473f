/-
  DERIVED. GIVEN WITH THE SEED: THE CARDS: each row of YthoeifpmakdfnabDoorRows.lean that lists a variable, with what it lists TIED to the program's text (the seventh form; the later family's looks); each row that meets fmt, with fmt's text TOLD by the authors' own Lean function (tested against real Go, not proved from fmt's source: count such statements apart). THE CARD IS WHAT COUNTS. Prove the row's statement (the work); the ties are given (YthoeifpmakdfnabDoorTie.lean); close each card by the builder's one call (the guide's Derived/Test/ToyasCard.lean, 'card_holds'). Laid BY PROGRAM, IN A SANDBOX (cutbox-door.mjs). By AI agents, Wed Nov 11 2026. No macro, syntax, notation, axiom, sorry.
-/
import Derived.Test.YthoeifpmakdfnabDoorRows
import GoSem.ClaimSeven
namespace Go.Proofs.YthoeifpmakdfnabDoor
namespace Rows

/-- THE TIED CARD OF 'spanlaw1.MonoTells'. -/
def monoTellsCard : Claim7 := { stood := { row := monoTellsRow, standIns := [], harness := (true, "0363d364ae677c2c3f13791be9498a0aba0497885a40ba7e4fa088a45e6d2c45"), looks := true }, kinds := [], alts := [], laidByText := true, laidKinds := [.handle], laidTests := true, laidLooks := .later }
def MonoTellsCardSaid : Prop := Claim7.holds Tryd.pinned (.plain (OpenSpec.ofChange monoTellsSpec)) monoTellsCard

/-- THE SECOND FORM's CARD OF 'spanlaw1.MonoTells'. -/
def monoTellsUptoCard : Claim7 := { stood := { row := monoTellsUptoRow, standIns := [], harness := (true, "0363d364ae677c2c3f13791be9498a0aba0497885a40ba7e4fa088a45e6d2c45"), looks := true }, kinds := [], alts := [], laidByText := true, laidKinds := [.handle], laidTests := true, laidLooks := .later }
def MonoTellsUptoCardSaid : Prop := Claim7.holds Tryd.pinned (.plain (OpenSpec.upto monoTellsSpec)) monoTellsUptoCard
end Rows
end Go.Proofs.YthoeifpmakdfnabDoor
