/-
  DERIVED. GIVEN WITH THE SEED: THE CARDS: each row of YtmjdlibddhhcoaaDoorRows.lean that lists a variable, with what it lists TIED to the program's text (the seventh form; the later family's looks); each row that meets fmt, with fmt's text TOLD by the authors' own Lean function (tested against real Go, not proved from fmt's source: count such statements apart). THE CARD IS WHAT COUNTS. Prove the row's statement (the work); the ties are given (YtmjdlibddhhcoaaDoorTie.lean); close each card by the builder's one call (the guide's Derived/Test/ToyasCard.lean, 'card_holds'). Laid BY PROGRAM, IN A SANDBOX (cutbox-door.mjs). By AI agents, Wed Nov 11 2026. No macro, syntax, notation, axiom, sorry.
-/
import Derived.Test.YtmjdlibddhhcoaaDoorRows
import GoSem.ClaimSeven
namespace Go.Proofs.YtmjdlibddhhcoaaDoor
namespace Rows

/-- THE TIED CARD OF 'spanlaw1.UnitTells'. -/
def unitTellsCard : Claim7 := { stood := { row := unitTellsRow, standIns := [], harness := (true, "4863acc38fc193a0c9077cbda4a06c77d49fce581dd1e2bd89864161e0dc3795"), looks := true }, kinds := [], alts := [], laidByText := true, laidKinds := [.data, .data, .data, .handle], laidTests := true, laidLooks := .later }
def UnitTellsCardSaid : Prop := Claim7.holds Tryd.pinned (.plain (OpenSpec.ofChange unitTellsSpec)) unitTellsCard

/-- THE TIED CARD OF 'spanlaw1.UnitBetween'. -/
def unitBetweenCard : Claim7 := { stood := { row := unitBetweenRow, standIns := [], harness := (true, "4863acc38fc193a0c9077cbda4a06c77d49fce581dd1e2bd89864161e0dc3795"), looks := true }, kinds := [], alts := [], laidByText := true, laidKinds := [.data, .data, .data], laidTests := true, laidLooks := .later }
def UnitBetweenCardSaid : Prop := Claim7.holds Tryd.pinned (.plain (OpenSpec.ofChange unitBetweenSpec)) unitBetweenCard

/-- THE TIED CARD OF 'spanlaw4.UnitOne'. -/
def unitOneCard : Claim7 := { stood := { row := unitOneRow, standIns := [], harness := (true, "4863acc38fc193a0c9077cbda4a06c77d49fce581dd1e2bd89864161e0dc3795"), looks := true }, kinds := [], alts := [], laidByText := true, laidKinds := [.handle], laidTests := true, laidLooks := .later }
def UnitOneCardSaid : Prop := Claim7.holds Tryd.pinned (.plain (OpenSpec.ofChange unitOneSpec)) unitOneCard

/-- THE TIED CARD OF 'spanlaw1.SpanTells'. -/
def spanTellsCard : Claim7 := { stood := { row := spanTellsRow, standIns := [], harness := (true, "4863acc38fc193a0c9077cbda4a06c77d49fce581dd1e2bd89864161e0dc3795"), looks := true }, kinds := [], alts := [], laidByText := true, laidKinds := [.handle], laidTests := true, laidLooks := .later }
def SpanTellsCardSaid : Prop := Claim7.holds Tryd.pinned (.plain (OpenSpec.ofChange spanTellsSpec)) spanTellsCard

/-- THE TIED CARD OF 'spanlaw1.SpanHas'. -/
def spanHasCard : Claim7 := { stood := { row := spanHasRow, standIns := [], harness := (true, "4863acc38fc193a0c9077cbda4a06c77d49fce581dd1e2bd89864161e0dc3795"), looks := true }, kinds := [], alts := [], laidByText := true, laidKinds := [.handle], laidTests := true, laidLooks := .later }
def SpanHasCardSaid : Prop := Claim7.holds Tryd.pinned (.plain (OpenSpec.ofChange spanHasSpec)) spanHasCard

/-- THE SECOND FORM's CARD OF 'spanlaw1.UnitTells'. -/
def unitTellsUptoCard : Claim7 := { stood := { row := unitTellsUptoRow, standIns := [], harness := (true, "4863acc38fc193a0c9077cbda4a06c77d49fce581dd1e2bd89864161e0dc3795"), looks := true }, kinds := [], alts := [], laidByText := true, laidKinds := [.data, .data, .data, .handle], laidTests := true, laidLooks := .later }
def UnitTellsUptoCardSaid : Prop := Claim7.holds Tryd.pinned (.plain (OpenSpec.upto unitTellsSpec)) unitTellsUptoCard

/-- THE SECOND FORM's CARD OF 'spanlaw1.UnitBetween'. -/
def unitBetweenUptoCard : Claim7 := { stood := { row := unitBetweenUptoRow, standIns := [], harness := (true, "4863acc38fc193a0c9077cbda4a06c77d49fce581dd1e2bd89864161e0dc3795"), looks := true }, kinds := [], alts := [], laidByText := true, laidKinds := [.data, .data, .data], laidTests := true, laidLooks := .later }
def UnitBetweenUptoCardSaid : Prop := Claim7.holds Tryd.pinned (.plain (OpenSpec.upto unitBetweenSpec)) unitBetweenUptoCard

/-- THE SECOND FORM's CARD OF 'spanlaw4.UnitOne'. -/
def unitOneUptoCard : Claim7 := { stood := { row := unitOneUptoRow, standIns := [], harness := (true, "4863acc38fc193a0c9077cbda4a06c77d49fce581dd1e2bd89864161e0dc3795"), looks := true }, kinds := [], alts := [], laidByText := true, laidKinds := [.handle], laidTests := true, laidLooks := .later }
def UnitOneUptoCardSaid : Prop := Claim7.holds Tryd.pinned (.plain (OpenSpec.upto unitOneSpec)) unitOneUptoCard

/-- THE SECOND FORM's CARD OF 'spanlaw1.SpanTells'. -/
def spanTellsUptoCard : Claim7 := { stood := { row := spanTellsUptoRow, standIns := [], harness := (true, "4863acc38fc193a0c9077cbda4a06c77d49fce581dd1e2bd89864161e0dc3795"), looks := true }, kinds := [], alts := [], laidByText := true, laidKinds := [.handle], laidTests := true, laidLooks := .later }
def SpanTellsUptoCardSaid : Prop := Claim7.holds Tryd.pinned (.plain (OpenSpec.upto spanTellsSpec)) spanTellsUptoCard

/-- THE SECOND FORM's CARD OF 'spanlaw1.SpanHas'. -/
def spanHasUptoCard : Claim7 := { stood := { row := spanHasUptoRow, standIns := [], harness := (true, "4863acc38fc193a0c9077cbda4a06c77d49fce581dd1e2bd89864161e0dc3795"), looks := true }, kinds := [], alts := [], laidByText := true, laidKinds := [.handle], laidTests := true, laidLooks := .later }
def SpanHasUptoCardSaid : Prop := Claim7.holds Tryd.pinned (.plain (OpenSpec.upto spanHasSpec)) spanHasUptoCard
end Rows
end Go.Proofs.YtmjdlibddhhcoaaDoor
