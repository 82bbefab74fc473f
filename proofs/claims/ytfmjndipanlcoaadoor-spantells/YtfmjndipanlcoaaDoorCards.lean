/-
  DERIVED. GIVEN WITH THE SEED: THE CARDS: each row of YtfmjndipanlcoaaDoorRows.lean that lists a variable, with what it lists TIED to the program's text (the seventh form; the later family's looks); each row that meets fmt, with fmt's text TOLD by the authors' own Lean function (tested against real Go, not proved from fmt's source: count such statements apart). THE CARD IS WHAT COUNTS. Prove the row's statement (the work); the ties are given (YtfmjndipanlcoaaDoorTie.lean); close each card by the builder's one call (the guide's Derived/Test/ToyasCard.lean, 'card_holds'). Laid BY PROGRAM, IN A SANDBOX (cutbox-door.mjs). By AI agents, Wed Nov 11 2026. No macro, syntax, notation, axiom, sorry.
-/
import Derived.Test.YtfmjndipanlcoaaDoorRows
import GoSem.ClaimSeven
namespace Go.Proofs.YtfmjndipanlcoaaDoor
namespace Rows

/-- THE TIED CARD OF 'spanlaw1.SpanTells'. -/
def spanTellsCard : Claim7 := { stood := { row := spanTellsRow, standIns := [], harness := (true, "9e8b769739f551fb363a5df5d5aa5df34832b3f7eec5af1d6b6309a989150405"), looks := true }, kinds := [], alts := [], laidByText := true, laidKinds := [.handle], laidTests := true, laidLooks := .later }
def SpanTellsCardSaid : Prop := Claim7.holds Tryd.pinned (.plain (OpenSpec.ofChange spanTellsSpec)) spanTellsCard

/-- THE TIED CARD OF 'spanlaw1.SpanHas'. -/
def spanHasCard : Claim7 := { stood := { row := spanHasRow, standIns := [], harness := (true, "9e8b769739f551fb363a5df5d5aa5df34832b3f7eec5af1d6b6309a989150405"), looks := true }, kinds := [], alts := [], laidByText := true, laidKinds := [.handle], laidTests := true, laidLooks := .later }
def SpanHasCardSaid : Prop := Claim7.holds Tryd.pinned (.plain (OpenSpec.ofChange spanHasSpec)) spanHasCard

/-- THE TIED CARD OF 'spanlaw1.PolyTells'. -/
def polyTellsCard : Claim7 := { stood := { row := polyTellsRow, standIns := [], harness := (true, "9e8b769739f551fb363a5df5d5aa5df34832b3f7eec5af1d6b6309a989150405"), looks := true }, kinds := [], alts := [], laidByText := true, laidKinds := [.handle], laidTests := true, laidLooks := .later }
def PolyTellsCardSaid : Prop := Claim7.holds Tryd.pinned (.plain (OpenSpec.ofChange polyTellsSpec)) polyTellsCard

/-- THE TIED CARD OF 'spanlaw1.CenterTells'. -/
def centerTellsCard : Claim7 := { stood := { row := centerTellsRow, standIns := [], harness := (true, "9e8b769739f551fb363a5df5d5aa5df34832b3f7eec5af1d6b6309a989150405"), looks := true }, kinds := [], alts := [], laidByText := true, laidKinds := [.handle], laidTests := true, laidLooks := .later }
def CenterTellsCardSaid : Prop := Claim7.holds Tryd.pinned (.plain (OpenSpec.ofChange centerTellsSpec)) centerTellsCard

/-- THE TIED CARD OF 'spanlaw1.MonoTells'. -/
def monoTellsCard : Claim7 := { stood := { row := monoTellsRow, standIns := [], harness := (true, "9e8b769739f551fb363a5df5d5aa5df34832b3f7eec5af1d6b6309a989150405"), looks := true }, kinds := [], alts := [], laidByText := true, laidKinds := [.handle], laidTests := true, laidLooks := .later }
def MonoTellsCardSaid : Prop := Claim7.holds Tryd.pinned (.plain (OpenSpec.ofChange monoTellsSpec)) monoTellsCard

/-- THE SECOND FORM's CARD OF 'spanlaw1.SpanTells'. -/
def spanTellsUptoCard : Claim7 := { stood := { row := spanTellsUptoRow, standIns := [], harness := (true, "9e8b769739f551fb363a5df5d5aa5df34832b3f7eec5af1d6b6309a989150405"), looks := true }, kinds := [], alts := [], laidByText := true, laidKinds := [.handle], laidTests := true, laidLooks := .later }
def SpanTellsUptoCardSaid : Prop := Claim7.holds Tryd.pinned (.plain (OpenSpec.upto spanTellsSpec)) spanTellsUptoCard

/-- THE SECOND FORM's CARD OF 'spanlaw1.SpanHas'. -/
def spanHasUptoCard : Claim7 := { stood := { row := spanHasUptoRow, standIns := [], harness := (true, "9e8b769739f551fb363a5df5d5aa5df34832b3f7eec5af1d6b6309a989150405"), looks := true }, kinds := [], alts := [], laidByText := true, laidKinds := [.handle], laidTests := true, laidLooks := .later }
def SpanHasUptoCardSaid : Prop := Claim7.holds Tryd.pinned (.plain (OpenSpec.upto spanHasSpec)) spanHasUptoCard

/-- THE SECOND FORM's CARD OF 'spanlaw1.PolyTells'. -/
def polyTellsUptoCard : Claim7 := { stood := { row := polyTellsUptoRow, standIns := [], harness := (true, "9e8b769739f551fb363a5df5d5aa5df34832b3f7eec5af1d6b6309a989150405"), looks := true }, kinds := [], alts := [], laidByText := true, laidKinds := [.handle], laidTests := true, laidLooks := .later }
def PolyTellsUptoCardSaid : Prop := Claim7.holds Tryd.pinned (.plain (OpenSpec.upto polyTellsSpec)) polyTellsUptoCard

/-- THE SECOND FORM's CARD OF 'spanlaw1.CenterTells'. -/
def centerTellsUptoCard : Claim7 := { stood := { row := centerTellsUptoRow, standIns := [], harness := (true, "9e8b769739f551fb363a5df5d5aa5df34832b3f7eec5af1d6b6309a989150405"), looks := true }, kinds := [], alts := [], laidByText := true, laidKinds := [.handle], laidTests := true, laidLooks := .later }
def CenterTellsUptoCardSaid : Prop := Claim7.holds Tryd.pinned (.plain (OpenSpec.upto centerTellsSpec)) centerTellsUptoCard

/-- THE SECOND FORM's CARD OF 'spanlaw1.MonoTells'. -/
def monoTellsUptoCard : Claim7 := { stood := { row := monoTellsUptoRow, standIns := [], harness := (true, "9e8b769739f551fb363a5df5d5aa5df34832b3f7eec5af1d6b6309a989150405"), looks := true }, kinds := [], alts := [], laidByText := true, laidKinds := [.handle], laidTests := true, laidLooks := .later }
def MonoTellsUptoCardSaid : Prop := Claim7.holds Tryd.pinned (.plain (OpenSpec.upto monoTellsSpec)) monoTellsUptoCard
end Rows
end Go.Proofs.YtfmjndipanlcoaaDoor
