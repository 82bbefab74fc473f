/-
  DERIVED. GIVEN WITH THE SEED: THE CARDS: each row of YtikgofgnjngknaaDoorRows.lean that lists a variable, with what it lists TIED to the program's text (the seventh form; the later family's looks); each row that meets fmt, with fmt's text TOLD by the authors' own Lean function (tested against real Go, not proved from fmt's source: count such statements apart). THE CARD IS WHAT COUNTS. Prove the row's statement (the work); the ties are given (YtikgofgnjngknaaDoorTie.lean); close each card by the builder's one call (the guide's Derived/Test/ToyasCard.lean, 'card_holds'). Laid BY PROGRAM, IN A SANDBOX (cutbox-door.mjs). By AI agents, Wed Nov 11 2026. No macro, syntax, notation, axiom, sorry.
-/
import Derived.Test.YtikgofgnjngknaaDoorRows
import GoSem.ClaimSeven
namespace Go.Proofs.YtikgofgnjngknaaDoor
namespace Rows

/-- THE TIED CARD OF 'spanlaw1.SpanTells'. -/
def spanTellsCard : Claim7 := { stood := { row := spanTellsRow, standIns := [], harness := (true, "460b5e326372103a349e93d8d16c777b05e79cfa8e0e1a159ca3cb5e60276452"), looks := true }, kinds := [], alts := [], laidByText := true, laidKinds := [.handle], laidTests := true, laidLooks := .later }
def SpanTellsCardSaid : Prop := Claim7.holds Tryd.pinned (.plain (OpenSpec.ofChange spanTellsSpec)) spanTellsCard

/-- THE TIED CARD OF 'spanlaw1.SpanHas'. -/
def spanHasCard : Claim7 := { stood := { row := spanHasRow, standIns := [], harness := (true, "460b5e326372103a349e93d8d16c777b05e79cfa8e0e1a159ca3cb5e60276452"), looks := true }, kinds := [], alts := [], laidByText := true, laidKinds := [.handle], laidTests := true, laidLooks := .later }
def SpanHasCardSaid : Prop := Claim7.holds Tryd.pinned (.plain (OpenSpec.ofChange spanHasSpec)) spanHasCard

/-- THE TIED CARD OF 'spanlaw4.RootLine'. -/
def rootLineCard : Claim7 := { stood := { row := rootLineRow, standIns := [], harness := (true, "460b5e326372103a349e93d8d16c777b05e79cfa8e0e1a159ca3cb5e60276452"), looks := true }, kinds := [], alts := [], laidByText := true, laidKinds := [.handle], laidTests := true, laidLooks := .later }
def RootLineCardSaid : Prop := Claim7.holds Tryd.pinned (.plain (OpenSpec.ofChange rootLineSpec)) rootLineCard

/-- THE SECOND FORM's CARD OF 'spanlaw1.SpanTells'. -/
def spanTellsUptoCard : Claim7 := { stood := { row := spanTellsUptoRow, standIns := [], harness := (true, "460b5e326372103a349e93d8d16c777b05e79cfa8e0e1a159ca3cb5e60276452"), looks := true }, kinds := [], alts := [], laidByText := true, laidKinds := [.handle], laidTests := true, laidLooks := .later }
def SpanTellsUptoCardSaid : Prop := Claim7.holds Tryd.pinned (.plain (OpenSpec.upto spanTellsSpec)) spanTellsUptoCard

/-- THE SECOND FORM's CARD OF 'spanlaw1.SpanHas'. -/
def spanHasUptoCard : Claim7 := { stood := { row := spanHasUptoRow, standIns := [], harness := (true, "460b5e326372103a349e93d8d16c777b05e79cfa8e0e1a159ca3cb5e60276452"), looks := true }, kinds := [], alts := [], laidByText := true, laidKinds := [.handle], laidTests := true, laidLooks := .later }
def SpanHasUptoCardSaid : Prop := Claim7.holds Tryd.pinned (.plain (OpenSpec.upto spanHasSpec)) spanHasUptoCard

/-- THE SECOND FORM's CARD OF 'spanlaw4.RootLine'. -/
def rootLineUptoCard : Claim7 := { stood := { row := rootLineUptoRow, standIns := [], harness := (true, "460b5e326372103a349e93d8d16c777b05e79cfa8e0e1a159ca3cb5e60276452"), looks := true }, kinds := [], alts := [], laidByText := true, laidKinds := [.handle], laidTests := true, laidLooks := .later }
def RootLineUptoCardSaid : Prop := Claim7.holds Tryd.pinned (.plain (OpenSpec.upto rootLineSpec)) rootLineUptoCard
end Rows
end Go.Proofs.YtikgofgnjngknaaDoor
