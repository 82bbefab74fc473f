/-
  DERIVED. GIVEN WITH THE SEED: THE CARDS: each row of YthoeifpmakdfnaaDoorRows.lean that lists a variable, with what it lists TIED to the program's text (the seventh form; the later family's looks); each row that meets fmt, with fmt's text TOLD by the authors' own Lean function (tested against real Go, not proved from fmt's source: count such statements apart). THE CARD IS WHAT COUNTS. Prove the row's statement (the work); the ties are given (YthoeifpmakdfnaaDoorTie.lean); close each card by the builder's one call (the guide's Derived/Test/ToyasCard.lean, 'card_holds'). Laid BY PROGRAM, IN A SANDBOX (cutbox-door.mjs). By AI agents, Wed Nov 11 2026. No macro, syntax, notation, axiom, sorry.
-/
import Derived.Test.YthoeifpmakdfnaaDoorRows
import GoSem.ClaimSeven
namespace Go.Proofs.YthoeifpmakdfnaaDoor
namespace Rows

/-- THE TIED CARD OF 'spanlaw1.UnitTells'. -/
def unitTellsCard : Claim7 := { stood := { row := unitTellsRow, standIns := [], harness := (true, "b3c4076f74d1e68f967c058c69e098ed4b13f222edceee2ed7eba0dd46a3a490"), looks := true }, kinds := [], alts := [], laidByText := true, laidKinds := [.data, .data, .data, .handle], laidTests := true, laidLooks := .later }
def UnitTellsCardSaid : Prop := Claim7.holds Tryd.pinned (.plain (OpenSpec.ofChange unitTellsSpec)) unitTellsCard

/-- THE TIED CARD OF 'spanlaw1.UnitBetween'. -/
def unitBetweenCard : Claim7 := { stood := { row := unitBetweenRow, standIns := [], harness := (true, "b3c4076f74d1e68f967c058c69e098ed4b13f222edceee2ed7eba0dd46a3a490"), looks := true }, kinds := [], alts := [], laidByText := true, laidKinds := [.data, .data, .data], laidTests := true, laidLooks := .later }
def UnitBetweenCardSaid : Prop := Claim7.holds Tryd.pinned (.plain (OpenSpec.ofChange unitBetweenSpec)) unitBetweenCard

/-- THE TIED CARD OF 'spanlaw4.UnitOne'. -/
def unitOneCard : Claim7 := { stood := { row := unitOneRow, standIns := [], harness := (true, "b3c4076f74d1e68f967c058c69e098ed4b13f222edceee2ed7eba0dd46a3a490"), looks := true }, kinds := [], alts := [], laidByText := true, laidKinds := [.handle], laidTests := true, laidLooks := .later }
def UnitOneCardSaid : Prop := Claim7.holds Tryd.pinned (.plain (OpenSpec.ofChange unitOneSpec)) unitOneCard

/-- THE TIED CARD OF 'spanlaw1.PowerTells'. -/
def powerTellsCard : Claim7 := { stood := { row := powerTellsRow, standIns := [], harness := (true, "b3c4076f74d1e68f967c058c69e098ed4b13f222edceee2ed7eba0dd46a3a490"), looks := true }, kinds := [], alts := [], laidByText := true, laidKinds := [.handle], laidTests := true, laidLooks := .later }
def PowerTellsCardSaid : Prop := Claim7.holds Tryd.pinned (.plain (OpenSpec.ofChange powerTellsSpec)) powerTellsCard

/-- THE TIED CARD OF 'spanlaw1.PolyTells'. -/
def polyTellsCard : Claim7 := { stood := { row := polyTellsRow, standIns := [], harness := (true, "b3c4076f74d1e68f967c058c69e098ed4b13f222edceee2ed7eba0dd46a3a490"), looks := true }, kinds := [], alts := [], laidByText := true, laidKinds := [.handle], laidTests := true, laidLooks := .later }
def PolyTellsCardSaid : Prop := Claim7.holds Tryd.pinned (.plain (OpenSpec.ofChange polyTellsSpec)) polyTellsCard

/-- THE TIED CARD OF 'spanlaw1.CenterTells'. -/
def centerTellsCard : Claim7 := { stood := { row := centerTellsRow, standIns := [], harness := (true, "b3c4076f74d1e68f967c058c69e098ed4b13f222edceee2ed7eba0dd46a3a490"), looks := true }, kinds := [], alts := [], laidByText := true, laidKinds := [.handle], laidTests := true, laidLooks := .later }
def CenterTellsCardSaid : Prop := Claim7.holds Tryd.pinned (.plain (OpenSpec.ofChange centerTellsSpec)) centerTellsCard

/-- THE SECOND FORM's CARD OF 'spanlaw1.UnitTells'. -/
def unitTellsUptoCard : Claim7 := { stood := { row := unitTellsUptoRow, standIns := [], harness := (true, "b3c4076f74d1e68f967c058c69e098ed4b13f222edceee2ed7eba0dd46a3a490"), looks := true }, kinds := [], alts := [], laidByText := true, laidKinds := [.data, .data, .data, .handle], laidTests := true, laidLooks := .later }
def UnitTellsUptoCardSaid : Prop := Claim7.holds Tryd.pinned (.plain (OpenSpec.upto unitTellsSpec)) unitTellsUptoCard

/-- THE SECOND FORM's CARD OF 'spanlaw1.UnitBetween'. -/
def unitBetweenUptoCard : Claim7 := { stood := { row := unitBetweenUptoRow, standIns := [], harness := (true, "b3c4076f74d1e68f967c058c69e098ed4b13f222edceee2ed7eba0dd46a3a490"), looks := true }, kinds := [], alts := [], laidByText := true, laidKinds := [.data, .data, .data], laidTests := true, laidLooks := .later }
def UnitBetweenUptoCardSaid : Prop := Claim7.holds Tryd.pinned (.plain (OpenSpec.upto unitBetweenSpec)) unitBetweenUptoCard

/-- THE SECOND FORM's CARD OF 'spanlaw4.UnitOne'. -/
def unitOneUptoCard : Claim7 := { stood := { row := unitOneUptoRow, standIns := [], harness := (true, "b3c4076f74d1e68f967c058c69e098ed4b13f222edceee2ed7eba0dd46a3a490"), looks := true }, kinds := [], alts := [], laidByText := true, laidKinds := [.handle], laidTests := true, laidLooks := .later }
def UnitOneUptoCardSaid : Prop := Claim7.holds Tryd.pinned (.plain (OpenSpec.upto unitOneSpec)) unitOneUptoCard

/-- THE SECOND FORM's CARD OF 'spanlaw1.PowerTells'. -/
def powerTellsUptoCard : Claim7 := { stood := { row := powerTellsUptoRow, standIns := [], harness := (true, "b3c4076f74d1e68f967c058c69e098ed4b13f222edceee2ed7eba0dd46a3a490"), looks := true }, kinds := [], alts := [], laidByText := true, laidKinds := [.handle], laidTests := true, laidLooks := .later }
def PowerTellsUptoCardSaid : Prop := Claim7.holds Tryd.pinned (.plain (OpenSpec.upto powerTellsSpec)) powerTellsUptoCard

/-- THE SECOND FORM's CARD OF 'spanlaw1.PolyTells'. -/
def polyTellsUptoCard : Claim7 := { stood := { row := polyTellsUptoRow, standIns := [], harness := (true, "b3c4076f74d1e68f967c058c69e098ed4b13f222edceee2ed7eba0dd46a3a490"), looks := true }, kinds := [], alts := [], laidByText := true, laidKinds := [.handle], laidTests := true, laidLooks := .later }
def PolyTellsUptoCardSaid : Prop := Claim7.holds Tryd.pinned (.plain (OpenSpec.upto polyTellsSpec)) polyTellsUptoCard

/-- THE SECOND FORM's CARD OF 'spanlaw1.CenterTells'. -/
def centerTellsUptoCard : Claim7 := { stood := { row := centerTellsUptoRow, standIns := [], harness := (true, "b3c4076f74d1e68f967c058c69e098ed4b13f222edceee2ed7eba0dd46a3a490"), looks := true }, kinds := [], alts := [], laidByText := true, laidKinds := [.handle], laidTests := true, laidLooks := .later }
def CenterTellsUptoCardSaid : Prop := Claim7.holds Tryd.pinned (.plain (OpenSpec.upto centerTellsSpec)) centerTellsUptoCard
end Rows
end Go.Proofs.YthoeifpmakdfnaaDoor
