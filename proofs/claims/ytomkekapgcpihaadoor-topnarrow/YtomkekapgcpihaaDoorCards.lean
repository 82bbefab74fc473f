/-
  DERIVED. GIVEN WITH THE SEED: THE CARDS: each row of YtomkekapgcpihaaDoorRows.lean that lists a variable, with what it lists TIED to the program's text (the seventh form; the later family's looks); each row that meets fmt, with fmt's text TOLD by the authors' own Lean function (tested against real Go, not proved from fmt's source: count such statements apart). THE CARD IS WHAT COUNTS. Prove the row's statement (the work); the ties are given (YtomkekapgcpihaaDoorTie.lean); close each card by the builder's one call (the guide's Derived/Test/ToyasCard.lean, 'card_holds'). Laid BY PROGRAM, IN A SANDBOX (cutbox-door.mjs). By AI agents, Wed Nov 11 2026. No macro, syntax, notation, axiom, sorry.
-/
import Derived.Test.YtomkekapgcpihaaDoorRows
import GoSem.ClaimSeven
namespace Go.Proofs.YtomkekapgcpihaaDoor
namespace Rows

/-- THE TIED CARD OF 'spanlaw2.NarrowTells'. -/
def narrowTellsCard : Claim7 := { stood := { row := narrowTellsRow, standIns := [], harness := (true, "0e29d1c3c0448cfe41276f1043b753f67549b48e99c3d25885d730fc58a3c095"), looks := true }, kinds := [], alts := [], laidByText := true, laidKinds := [.handle], laidTests := true, laidLooks := .later }
def NarrowTellsCardSaid : Prop := Claim7.holds Tryd.pinned (.plain (OpenSpec.ofChange narrowTellsSpec)) narrowTellsCard

/-- THE TIED CARD OF 'spanlaw2.NarrowKeeps'. -/
def narrowKeepsCard : Claim7 := { stood := { row := narrowKeepsRow, standIns := [], harness := (true, "0e29d1c3c0448cfe41276f1043b753f67549b48e99c3d25885d730fc58a3c095"), looks := true }, kinds := [], alts := [], laidByText := true, laidKinds := [.handle], laidTests := true, laidLooks := .later }
def NarrowKeepsCardSaid : Prop := Claim7.holds Tryd.pinned (.plain (OpenSpec.ofChange narrowKeepsSpec)) narrowKeepsCard

/-- THE TIED CARD OF 'spantop.TopNarrow'. -/
def topNarrowCard : Claim7 := { stood := { row := topNarrowRow, standIns := [], harness := (true, "0e29d1c3c0448cfe41276f1043b753f67549b48e99c3d25885d730fc58a3c095"), looks := true }, kinds := [], alts := [], laidByText := true, laidKinds := [.handle], laidTests := true, laidLooks := .later }
def TopNarrowCardSaid : Prop := Claim7.holds Tryd.pinned (.plain (OpenSpec.ofChange topNarrowSpec)) topNarrowCard

/-- THE SECOND FORM's CARD OF 'spanlaw2.NarrowTells'. -/
def narrowTellsUptoCard : Claim7 := { stood := { row := narrowTellsUptoRow, standIns := [], harness := (true, "0e29d1c3c0448cfe41276f1043b753f67549b48e99c3d25885d730fc58a3c095"), looks := true }, kinds := [], alts := [], laidByText := true, laidKinds := [.handle], laidTests := true, laidLooks := .later }
def NarrowTellsUptoCardSaid : Prop := Claim7.holds Tryd.pinned (.plain (OpenSpec.upto narrowTellsSpec)) narrowTellsUptoCard

/-- THE SECOND FORM's CARD OF 'spanlaw2.NarrowKeeps'. -/
def narrowKeepsUptoCard : Claim7 := { stood := { row := narrowKeepsUptoRow, standIns := [], harness := (true, "0e29d1c3c0448cfe41276f1043b753f67549b48e99c3d25885d730fc58a3c095"), looks := true }, kinds := [], alts := [], laidByText := true, laidKinds := [.handle], laidTests := true, laidLooks := .later }
def NarrowKeepsUptoCardSaid : Prop := Claim7.holds Tryd.pinned (.plain (OpenSpec.upto narrowKeepsSpec)) narrowKeepsUptoCard

/-- THE SECOND FORM's CARD OF 'spantop.TopNarrow'. -/
def topNarrowUptoCard : Claim7 := { stood := { row := topNarrowUptoRow, standIns := [], harness := (true, "0e29d1c3c0448cfe41276f1043b753f67549b48e99c3d25885d730fc58a3c095"), looks := true }, kinds := [], alts := [], laidByText := true, laidKinds := [.handle], laidTests := true, laidLooks := .later }
def TopNarrowUptoCardSaid : Prop := Claim7.holds Tryd.pinned (.plain (OpenSpec.upto topNarrowSpec)) topNarrowUptoCard
end Rows
end Go.Proofs.YtomkekapgcpihaaDoor
