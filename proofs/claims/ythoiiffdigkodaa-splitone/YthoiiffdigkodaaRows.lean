/-
  No cell of these rows narrows 'for every input' (looked for: loops, veiled, ifaces, maps, wideKeys, modest, calm, conditions, laid).
  DERIVED. THE GIVEN ROWS OF THIS SEAT. 4 by the template 'for every input the law returns true; each argument reads behind the call as it read before'; 0 by the template 'total and deterministic' (their statements: YthoiiffdigkodaaTotals.lean).
  GIVEN WITH THE SEED: the statements are not yours to turn. If you find one false, say at which input.
  Laid BY PROGRAM, IN A SANDBOX (cutbox-rows.mjs): the forced cells as the released guide's own fill.sh prints them over the translation 14625291c8e30ada… (all of the seat's roots in one cut). By AI agents, Wed Nov 11 2026. No macro, syntax, notation, axiom, sorry.
-/
import Derived.Test.YthoiiffdigkodaaChecked
import GoSem.Claim
import GoSem.ClaimJoined
import GoSem.ClaimMapViews
import Derived.JoinedTies
import Derived.KernelRfl
namespace Go.Proofs.Ythoiiffdigkodaa
/- THE CELL 'sum', in the pinned program and in every row, IS THE sha256 OF THE DUMP (.gsa) THAT YthoiiffdigkodaaProg.lean LOADS. Nothing in Lean hashes anything: it is a label: what it is worth is what the hold of that sum in a sandbox is worth. -/
noncomputable def Try.pinned : Pinned := { name := "ythoiiffdigkodaa", sum := "14625291c8e30ada27660d85bd3908ff36d2f5360da422b013f772ddbd2f295a", checked := Try.checked }
namespace Rows
def none {H : Type} : Left H := { results := [], args := [] }

/-- 'spanlaw1.SplitHas': WHATEVER THE INPUT: true; the input reads as it did. -/
def splitHasSpec : ChangeSpec := { name := "splitHas", fn := fun _ => fun
  | [d1, d2, d3, d4] => { results := [.lit (.bool true)], args := [d1, d2, d3, d4] }
  | _ => none }
def splitHasRow : OpenClaim := { program := "ythoiiffdigkodaa", sum := "14625291c8e30ada27660d85bd3908ff36d2f5360da422b013f772ddbd2f295a", func := "spanmeadow/spanlaw1.SplitHas", spec := "splitHas", unfollowed := true, recurses := true, apart := false }
def SplitHasSaid : Prop := splitHasRow.holds Try.pinned (OpenSpec.ofChange splitHasSpec)

/-- ITS FALSE NEIGHBOUR: 'it returns false'. Refute it at one input. -/
def splitHasWrong : ChangeSpec := { name := "splitHas", fn := fun _ => fun
  | [d1, d2, d3, d4] => { results := [.lit (.bool false)], args := [d1, d2, d3, d4] }
  | _ => none }
def SplitHasWrongFalsely : Prop := splitHasRow.holds Try.pinned (OpenSpec.ofChange splitHasWrong)

/-- 'spanlaw4.SplitOne': WHATEVER THE INPUT: true; the input reads as it did. -/
def splitOneSpec : ChangeSpec := { name := "splitOne", fn := fun _ => fun
  | [d1, d2] => { results := [.lit (.bool true)], args := [d1, d2] }
  | _ => none }
def splitOneRow : OpenClaim := { program := "ythoiiffdigkodaa", sum := "14625291c8e30ada27660d85bd3908ff36d2f5360da422b013f772ddbd2f295a", func := "spanmeadow/spanlaw4.SplitOne", spec := "splitOne", unfollowed := true, recurses := true, apart := false }
def SplitOneSaid : Prop := splitOneRow.holds Try.pinned (OpenSpec.ofChange splitOneSpec)

/-- ITS FALSE NEIGHBOUR: 'it returns false'. Refute it at one input. -/
def splitOneWrong : ChangeSpec := { name := "splitOne", fn := fun _ => fun
  | [d1, d2] => { results := [.lit (.bool false)], args := [d1, d2] }
  | _ => none }
def SplitOneWrongFalsely : Prop := splitOneRow.holds Try.pinned (OpenSpec.ofChange splitOneWrong)

/-- 'spanlaw1.RootKept': WHATEVER THE INPUT: true; the input reads as it did. -/
def rootKeptSpec : ChangeSpec := { name := "rootKept", fn := fun _ => fun
  | [d1, d2, d3, d4] => { results := [.lit (.bool true)], args := [d1, d2, d3, d4] }
  | _ => none }
def rootKeptRow : OpenClaim := { program := "ythoiiffdigkodaa", sum := "14625291c8e30ada27660d85bd3908ff36d2f5360da422b013f772ddbd2f295a", func := "spanmeadow/spanlaw1.RootKept", spec := "rootKept", unfollowed := true, recurses := true, apart := false }
def RootKeptSaid : Prop := rootKeptRow.holds Try.pinned (OpenSpec.ofChange rootKeptSpec)

/-- ITS FALSE NEIGHBOUR: 'it returns false'. Refute it at one input. -/
def rootKeptWrong : ChangeSpec := { name := "rootKept", fn := fun _ => fun
  | [d1, d2, d3, d4] => { results := [.lit (.bool false)], args := [d1, d2, d3, d4] }
  | _ => none }
def RootKeptWrongFalsely : Prop := rootKeptRow.holds Try.pinned (OpenSpec.ofChange rootKeptWrong)

/-- 'spanlaw4.NewtonLine': WHATEVER THE INPUT: true; the input reads as it did. -/
def newtonLineSpec : ChangeSpec := { name := "newtonLine", fn := fun _ => fun
  | [d1, d2] => { results := [.lit (.bool true)], args := [d1, d2] }
  | _ => none }
def newtonLineRow : OpenClaim := { program := "ythoiiffdigkodaa", sum := "14625291c8e30ada27660d85bd3908ff36d2f5360da422b013f772ddbd2f295a", func := "spanmeadow/spanlaw4.NewtonLine", spec := "newtonLine", unfollowed := true, recurses := true, apart := false }
def NewtonLineSaid : Prop := newtonLineRow.holds Try.pinned (OpenSpec.ofChange newtonLineSpec)

/-- ITS FALSE NEIGHBOUR: 'it returns false'. Refute it at one input. -/
def newtonLineWrong : ChangeSpec := { name := "newtonLine", fn := fun _ => fun
  | [d1, d2] => { results := [.lit (.bool false)], args := [d1, d2] }
  | _ => none }
def NewtonLineWrongFalsely : Prop := newtonLineRow.holds Try.pinned (OpenSpec.ofChange newtonLineWrong)

/- THE SECOND FORM. 'bulk': how many values and letters a reading holds, each counted each time it is reached (what is shared counts as often as it is met; a slice's spare places count too). A statement '..UptoSaid' is the law's where the arguments, and the package variables that the reading takes, are together of bulk at most 1048576: NARROWER than '..Said'. Prove '..Said' where nothing that the law and all that it calls make is longer than what came in: it says more and counts as full. Else prove '..UptoSaid'. A law counts once. -/
mutual
def uptoBulk {H : Type} : DataW H → Nat
  | .lit (.string bytes) => bytes.length + 1
  | .lit _ => 1
  | .nil => 1
  | .ptr d => uptoBulk d + 1
  | .slice elems spare => uptoBulkAll elems + uptoBulkAll spare + 1
  | .agg parts => uptoBulkAll parts + 1
  | .iface _ d => uptoBulk d + 1
  | .map entries => uptoBulkEntries entries + 1
  | .held _ => 1
def uptoBulkAll {H : Type} : List (DataW H) → Nat
  | [] => 0
  | d :: r => uptoBulk d + uptoBulkAll r
def uptoBulkEntries {H : Type} : List (Lit × DataW H) → Nat
  | [] => 0
  | x :: r => uptoBulkEntry x + uptoBulkEntries r
def uptoBulkEntry {H : Type} : Lit × DataW H → Nat
  | (.string bytes, d) => bytes.length + uptoBulk d + 1
  | (_, d) => uptoBulk d + 1
 end
def uptoSmall : (H : Type) → List (DataW H) → Bool := fun _ ds => decide (uptoBulkAll ds ≤ 1048576)
def OpenSpec.upto (s : _root_.Go.ChangeSpec) : _root_.Go.OpenSpec := { _root_.Go.OpenSpec.ofChange s with cond := some uptoSmall }

/-- 'spanlaw1.SplitHas', WHERE WHAT IT READS IS OF BULK AT MOST 1048576: true; the input reads as it did. -/
def splitHasUptoRow : OpenClaim := { program := "ythoiiffdigkodaa", sum := "14625291c8e30ada27660d85bd3908ff36d2f5360da422b013f772ddbd2f295a", func := "spanmeadow/spanlaw1.SplitHas", spec := "splitHas", unfollowed := true, recurses := true, apart := false, narrowed := true }
def SplitHasUptoSaid : Prop := splitHasUptoRow.holds Try.pinned (OpenSpec.upto splitHasSpec)

/-- 'spanlaw4.SplitOne', WHERE WHAT IT READS IS OF BULK AT MOST 1048576: true; the input reads as it did. -/
def splitOneUptoRow : OpenClaim := { program := "ythoiiffdigkodaa", sum := "14625291c8e30ada27660d85bd3908ff36d2f5360da422b013f772ddbd2f295a", func := "spanmeadow/spanlaw4.SplitOne", spec := "splitOne", unfollowed := true, recurses := true, apart := false, narrowed := true }
def SplitOneUptoSaid : Prop := splitOneUptoRow.holds Try.pinned (OpenSpec.upto splitOneSpec)

/-- 'spanlaw1.RootKept', WHERE WHAT IT READS IS OF BULK AT MOST 1048576: true; the input reads as it did. -/
def rootKeptUptoRow : OpenClaim := { program := "ythoiiffdigkodaa", sum := "14625291c8e30ada27660d85bd3908ff36d2f5360da422b013f772ddbd2f295a", func := "spanmeadow/spanlaw1.RootKept", spec := "rootKept", unfollowed := true, recurses := true, apart := false, narrowed := true }
def RootKeptUptoSaid : Prop := rootKeptUptoRow.holds Try.pinned (OpenSpec.upto rootKeptSpec)

/-- 'spanlaw4.NewtonLine', WHERE WHAT IT READS IS OF BULK AT MOST 1048576: true; the input reads as it did. -/
def newtonLineUptoRow : OpenClaim := { program := "ythoiiffdigkodaa", sum := "14625291c8e30ada27660d85bd3908ff36d2f5360da422b013f772ddbd2f295a", func := "spanmeadow/spanlaw4.NewtonLine", spec := "newtonLine", unfollowed := true, recurses := true, apart := false, narrowed := true }
def NewtonLineUptoSaid : Prop := newtonLineUptoRow.holds Try.pinned (OpenSpec.upto newtonLineSpec)

end Rows
end Go.Proofs.Ythoiiffdigkodaa
