/-
  DERIVED. GIVEN WITH THE SEED: THE CARDS: each row of YthoiiffdigkodaaDoorRows.lean that lists a variable, with what it lists TIED to the program's text (the seventh form; the later family's looks); each row that meets fmt, with fmt's text TOLD by the authors' own Lean function (tested against real Go, not proved from fmt's source: count such statements apart). THE CARD IS WHAT COUNTS. Prove the row's statement (the work); the ties are given (YthoiiffdigkodaaDoorTie.lean); close each card by the builder's one call (the guide's Derived/Test/ToyasCard.lean, 'card_holds'). Laid BY PROGRAM, IN A SANDBOX (cutbox-door.mjs). By AI agents, Wed Nov 11 2026. No macro, syntax, notation, axiom, sorry.
-/
import Derived.Test.YthoiiffdigkodaaDoorRows
import GoSem.ClaimSeven
namespace Go.Proofs.YthoiiffdigkodaaDoor
namespace Rows

/-- THE TIED CARD OF 'spanlaw4.RootLine'. -/
def rootLineCard : Claim7 := { stood := { row := rootLineRow, standIns := [], harness := (true, "925b97e23756209b67a8b5c78d4ea79b40ce107e3fb2c8a2d18c041225099af6"), looks := true }, kinds := [], alts := [], laidByText := true, laidKinds := [.handle], laidTests := true, laidLooks := .later }
def RootLineCardSaid : Prop := Claim7.holds Tryd.pinned (.plain (OpenSpec.ofChange rootLineSpec)) rootLineCard

/-- THE TIED CARD OF 'spanlaw1.NewtonTells'. -/
def newtonTellsCard : Claim7 := { stood := { row := newtonTellsRow, standIns := [], harness := (true, "925b97e23756209b67a8b5c78d4ea79b40ce107e3fb2c8a2d18c041225099af6"), looks := true }, kinds := [], alts := [], laidByText := true, laidKinds := [.handle], laidTests := true, laidLooks := .later }
def NewtonTellsCardSaid : Prop := Claim7.holds Tryd.pinned (.plain (OpenSpec.ofChange newtonTellsSpec)) newtonTellsCard

/-- THE TIED CARD OF 'spanlaw1.NewtonKeeps'. -/
def newtonKeepsCard : Claim7 := { stood := { row := newtonKeepsRow, standIns := [], harness := (true, "925b97e23756209b67a8b5c78d4ea79b40ce107e3fb2c8a2d18c041225099af6"), looks := true }, kinds := [], alts := [], laidByText := true, laidKinds := [.handle], laidTests := true, laidLooks := .later }
def NewtonKeepsCardSaid : Prop := Claim7.holds Tryd.pinned (.plain (OpenSpec.ofChange newtonKeepsSpec)) newtonKeepsCard

/-- THE TIED CARD OF 'spantop.TopRoots'. -/
def topRootsCard : Claim7 := { stood := { row := topRootsRow, standIns := [], harness := (true, "925b97e23756209b67a8b5c78d4ea79b40ce107e3fb2c8a2d18c041225099af6"), looks := true }, kinds := [], alts := [], laidByText := true, laidKinds := [.handle], laidTests := true, laidLooks := .later }
def TopRootsCardSaid : Prop := Claim7.holds Tryd.pinned (.plain (OpenSpec.ofChange topRootsSpec)) topRootsCard

/-- THE SECOND FORM's CARD OF 'spanlaw4.RootLine'. -/
def rootLineUptoCard : Claim7 := { stood := { row := rootLineUptoRow, standIns := [], harness := (true, "925b97e23756209b67a8b5c78d4ea79b40ce107e3fb2c8a2d18c041225099af6"), looks := true }, kinds := [], alts := [], laidByText := true, laidKinds := [.handle], laidTests := true, laidLooks := .later }
def RootLineUptoCardSaid : Prop := Claim7.holds Tryd.pinned (.plain (OpenSpec.upto rootLineSpec)) rootLineUptoCard

/-- THE SECOND FORM's CARD OF 'spanlaw1.NewtonTells'. -/
def newtonTellsUptoCard : Claim7 := { stood := { row := newtonTellsUptoRow, standIns := [], harness := (true, "925b97e23756209b67a8b5c78d4ea79b40ce107e3fb2c8a2d18c041225099af6"), looks := true }, kinds := [], alts := [], laidByText := true, laidKinds := [.handle], laidTests := true, laidLooks := .later }
def NewtonTellsUptoCardSaid : Prop := Claim7.holds Tryd.pinned (.plain (OpenSpec.upto newtonTellsSpec)) newtonTellsUptoCard

/-- THE SECOND FORM's CARD OF 'spanlaw1.NewtonKeeps'. -/
def newtonKeepsUptoCard : Claim7 := { stood := { row := newtonKeepsUptoRow, standIns := [], harness := (true, "925b97e23756209b67a8b5c78d4ea79b40ce107e3fb2c8a2d18c041225099af6"), looks := true }, kinds := [], alts := [], laidByText := true, laidKinds := [.handle], laidTests := true, laidLooks := .later }
def NewtonKeepsUptoCardSaid : Prop := Claim7.holds Tryd.pinned (.plain (OpenSpec.upto newtonKeepsSpec)) newtonKeepsUptoCard

/-- THE SECOND FORM's CARD OF 'spantop.TopRoots'. -/
def topRootsUptoCard : Claim7 := { stood := { row := topRootsUptoRow, standIns := [], harness := (true, "925b97e23756209b67a8b5c78d4ea79b40ce107e3fb2c8a2d18c041225099af6"), looks := true }, kinds := [], alts := [], laidByText := true, laidKinds := [.handle], laidTests := true, laidLooks := .later }
def TopRootsUptoCardSaid : Prop := Claim7.holds Tryd.pinned (.plain (OpenSpec.upto topRootsSpec)) topRootsUptoCard
end Rows
end Go.Proofs.YthoiiffdigkodaaDoor
