/-
  NARROWER THAN 'FOR EVERY INPUT', by the rows' own cells (each row's printed sentence says how): RootLine: laid · NewtonTells: laid · NewtonKeeps: laid · TopRoots: laid.
  DERIVED. THE GIVEN ROWS OF THIS SEAT. 4 by the template 'for every input the law returns true; each argument reads behind the call as it read before'; 0 by the template 'total and deterministic' (their statements: YthoiiffdigkodaaDoorTotals.lean).
  GIVEN WITH THE SEED: the statements are not yours to turn. If you find one false, say at which input.
  Laid BY PROGRAM, IN A SANDBOX (cutbox-rows.mjs): the forced cells as the released guide's own fill.sh prints them over the translation ba4ca1ef48f6f426… (all of the seat's roots in one cut). By AI agents, Wed Nov 11 2026. No macro, syntax, notation, axiom, sorry.
-/
import Derived.Test.YthoiiffdigkodaaDoorChecked
import GoSem.Claim
import GoSem.ClaimJoined
import GoSem.ClaimMapViews
import Derived.JoinedTies
import Derived.KernelRfl
namespace Go.Proofs.YthoiiffdigkodaaDoor
/- THE CELL 'sum', in the pinned program and in every row, IS THE sha256 OF THE DUMP (.gsa) THAT YthoiiffdigkodaaDoorProg.lean LOADS. Nothing in Lean hashes anything: it is a label: what it is worth is what the hold of that sum in a sandbox is worth. -/
noncomputable def Tryd.pinned : Pinned := { name := "ythoiiffdigkodaadoor", sum := "ba4ca1ef48f6f4265baf831c0f6565cd87467b7ce5fb8aac5610d9ae0e9ec4d3", checked := Tryd.checked }
namespace Rows
def none {H : Type} : Left H := { results := [], args := [] }

/- WHAT THE LISTED PACKAGE-LEVEL VARIABLES READ AS WHEN THE CALL BEGINS. Each datum BY PROGRAM (the guide's laid-datum.mjs) off the statement by which the dump's own 'gosem.cut.vars' lays the variable. In a bare row this is a premise. The card (YthoiiffdigkodaaDoorCards.lean) ties it to the program's text. -/
def laid_errors_errorType {H : Type} : DataW H := .iface "internal/reflectlite.rtype" (.agg [.ptr (.lit (.string [101, 114, 114, 111, 114]))])

/-- 'spanlaw4.RootLine': WHATEVER THE INPUT: true; the input reads as it did. -/
def rootLineSpec : ChangeSpec := { name := "rootLine", fn := fun _ => fun
  | [d1, d2] => { results := [.lit (.bool true)], args := [d1, d2] }
  | _ => none }
def rootLineRow : OpenClaim := { program := "ythoiiffdigkodaadoor", sum := "ba4ca1ef48f6f4265baf831c0f6565cd87467b7ce5fb8aac5610d9ae0e9ec4d3", func := "spanmeadow/spanlaw4.RootLine", spec := "rootLine", inPlace := ["internal/reflectlite.ValueOf", "(internal/reflectlite.Value).Type", "(internal/reflectlite.Value).IsNil", "internal/reflectlite.TypeOf", "(internal/reflectlite.Value).Elem", "(internal/reflectlite.Value).Set"], unfollowed := true, recurses := true, named := ["errors.errorType"], apart := false, laid := [("errors.errorType", laid_errors_errorType)] }
def RootLineSaid : Prop := rootLineRow.holds Tryd.pinned (OpenSpec.ofChange rootLineSpec)

/-- ITS FALSE NEIGHBOUR: 'it returns false'. Refute it at one input. -/
def rootLineWrong : ChangeSpec := { name := "rootLine", fn := fun _ => fun
  | [d1, d2] => { results := [.lit (.bool false)], args := [d1, d2] }
  | _ => none }
def RootLineWrongFalsely : Prop := rootLineRow.holds Tryd.pinned (OpenSpec.ofChange rootLineWrong)

/-- 'spanlaw1.NewtonTells': WHATEVER THE INPUT: true; the input reads as it did. -/
def newtonTellsSpec : ChangeSpec := { name := "newtonTells", fn := fun _ => fun
  | [d1, d2, d3] => { results := [.lit (.bool true)], args := [d1, d2, d3] }
  | _ => none }
def newtonTellsRow : OpenClaim := { program := "ythoiiffdigkodaadoor", sum := "ba4ca1ef48f6f4265baf831c0f6565cd87467b7ce5fb8aac5610d9ae0e9ec4d3", func := "spanmeadow/spanlaw1.NewtonTells", spec := "newtonTells", inPlace := ["internal/reflectlite.ValueOf", "(internal/reflectlite.Value).Type", "(internal/reflectlite.Value).IsNil", "internal/reflectlite.TypeOf", "(internal/reflectlite.Value).Elem", "(internal/reflectlite.Value).Set"], unfollowed := true, recurses := true, named := ["errors.errorType"], apart := false, laid := [("errors.errorType", laid_errors_errorType)] }
def NewtonTellsSaid : Prop := newtonTellsRow.holds Tryd.pinned (OpenSpec.ofChange newtonTellsSpec)

/-- ITS FALSE NEIGHBOUR: 'it returns false'. Refute it at one input. -/
def newtonTellsWrong : ChangeSpec := { name := "newtonTells", fn := fun _ => fun
  | [d1, d2, d3] => { results := [.lit (.bool false)], args := [d1, d2, d3] }
  | _ => none }
def NewtonTellsWrongFalsely : Prop := newtonTellsRow.holds Tryd.pinned (OpenSpec.ofChange newtonTellsWrong)

/-- 'spanlaw1.NewtonKeeps': WHATEVER THE INPUT: true; the input reads as it did. -/
def newtonKeepsSpec : ChangeSpec := { name := "newtonKeeps", fn := fun _ => fun
  | [d1, d2, d3, d4] => { results := [.lit (.bool true)], args := [d1, d2, d3, d4] }
  | _ => none }
def newtonKeepsRow : OpenClaim := { program := "ythoiiffdigkodaadoor", sum := "ba4ca1ef48f6f4265baf831c0f6565cd87467b7ce5fb8aac5610d9ae0e9ec4d3", func := "spanmeadow/spanlaw1.NewtonKeeps", spec := "newtonKeeps", inPlace := ["internal/reflectlite.ValueOf", "(internal/reflectlite.Value).Type", "(internal/reflectlite.Value).IsNil", "internal/reflectlite.TypeOf", "(internal/reflectlite.Value).Elem", "(internal/reflectlite.Value).Set"], unfollowed := true, recurses := true, named := ["errors.errorType"], apart := false, laid := [("errors.errorType", laid_errors_errorType)] }
def NewtonKeepsSaid : Prop := newtonKeepsRow.holds Tryd.pinned (OpenSpec.ofChange newtonKeepsSpec)

/-- ITS FALSE NEIGHBOUR: 'it returns false'. Refute it at one input. -/
def newtonKeepsWrong : ChangeSpec := { name := "newtonKeeps", fn := fun _ => fun
  | [d1, d2, d3, d4] => { results := [.lit (.bool false)], args := [d1, d2, d3, d4] }
  | _ => none }
def NewtonKeepsWrongFalsely : Prop := newtonKeepsRow.holds Tryd.pinned (OpenSpec.ofChange newtonKeepsWrong)

/-- 'spantop.TopRoots': WHATEVER THE INPUT: true; the input reads as it did. -/
def topRootsSpec : ChangeSpec := { name := "topRoots", fn := fun _ => fun
  | [d1, d2, d3, d4, d5] => { results := [.lit (.bool true)], args := [d1, d2, d3, d4, d5] }
  | _ => none }
def topRootsRow : OpenClaim := { program := "ythoiiffdigkodaadoor", sum := "ba4ca1ef48f6f4265baf831c0f6565cd87467b7ce5fb8aac5610d9ae0e9ec4d3", func := "spanmeadow/spantop.TopRoots", spec := "topRoots", inPlace := ["internal/reflectlite.ValueOf", "(internal/reflectlite.Value).Type", "(internal/reflectlite.Value).IsNil", "internal/reflectlite.TypeOf", "(internal/reflectlite.Value).Elem", "(internal/reflectlite.Value).Set"], unfollowed := true, recurses := true, named := ["errors.errorType"], apart := false, laid := [("errors.errorType", laid_errors_errorType)] }
def TopRootsSaid : Prop := topRootsRow.holds Tryd.pinned (OpenSpec.ofChange topRootsSpec)

/-- ITS FALSE NEIGHBOUR: 'it returns false'. Refute it at one input. -/
def topRootsWrong : ChangeSpec := { name := "topRoots", fn := fun _ => fun
  | [d1, d2, d3, d4, d5] => { results := [.lit (.bool false)], args := [d1, d2, d3, d4, d5] }
  | _ => none }
def TopRootsWrongFalsely : Prop := topRootsRow.holds Tryd.pinned (OpenSpec.ofChange topRootsWrong)

/- THE SECOND FORM. 'bulk': how many values and letters a reading holds, each counted each time it is reached (what is shared counts as often as it is met; a slice's spare places count too). A statement '..UptoSaid' is the law's where the arguments, and the package variables that the reading takes, are together of bulk at most 1048576: NARROWER than '..Said'. Prove '..Said' where nothing that the law and all that it calls make is longer than what came in: it says more and counts as full. Else prove '..UptoSaid'. A law counts once. -/
mutual
def uptoBulk {H : Type} : DataW H → Nat
  | .lit (.string bytes) => bytes.length + 1
  | .lit _ => 1
  | .nil => 1
  | .ptr d => uptoBulk d + 1
  | .slice elems spare => uptoBulkAll elems + uptoBulkAll spare + 1
  | .agg parts => uptoBulkAll parts + 1
  | .iface _ d => uptoBulk d + 1
  | .map entries => uptoBulkEntries entries + 1
  | .held _ => 1
def uptoBulkAll {H : Type} : List (DataW H) → Nat
  | [] => 0
  | d :: r => uptoBulk d + uptoBulkAll r
def uptoBulkEntries {H : Type} : List (Lit × DataW H) → Nat
  | [] => 0
  | x :: r => uptoBulkEntry x + uptoBulkEntries r
def uptoBulkEntry {H : Type} : Lit × DataW H → Nat
  | (.string bytes, d) => bytes.length + uptoBulk d + 1
  | (_, d) => uptoBulk d + 1
 end
def uptoSmall : (H : Type) → List (DataW H) → Bool := fun _ ds => decide (uptoBulkAll ds ≤ 1048576)
def OpenSpec.upto (s : _root_.Go.ChangeSpec) : _root_.Go.OpenSpec := { _root_.Go.OpenSpec.ofChange s with cond := some uptoSmall }

/-- 'spanlaw4.RootLine', WHERE WHAT IT READS IS OF BULK AT MOST 1048576: true; the input reads as it did. -/
def rootLineUptoRow : OpenClaim := { program := "ythoiiffdigkodaadoor", sum := "ba4ca1ef48f6f4265baf831c0f6565cd87467b7ce5fb8aac5610d9ae0e9ec4d3", func := "spanmeadow/spanlaw4.RootLine", spec := "rootLine", inPlace := ["internal/reflectlite.ValueOf", "(internal/reflectlite.Value).Type", "(internal/reflectlite.Value).IsNil", "internal/reflectlite.TypeOf", "(internal/reflectlite.Value).Elem", "(internal/reflectlite.Value).Set"], unfollowed := true, recurses := true, named := ["errors.errorType"], apart := false, laid := [("errors.errorType", laid_errors_errorType)], narrowed := true }
def RootLineUptoSaid : Prop := rootLineUptoRow.holds Tryd.pinned (OpenSpec.upto rootLineSpec)

/-- 'spanlaw1.NewtonTells', WHERE WHAT IT READS IS OF BULK AT MOST 1048576: true; the input reads as it did. -/
def newtonTellsUptoRow : OpenClaim := { program := "ythoiiffdigkodaadoor", sum := "ba4ca1ef48f6f4265baf831c0f6565cd87467b7ce5fb8aac5610d9ae0e9ec4d3", func := "spanmeadow/spanlaw1.NewtonTells", spec := "newtonTells", inPlace := ["internal/reflectlite.ValueOf", "(internal/reflectlite.Value).Type", "(internal/reflectlite.Value).IsNil", "internal/reflectlite.TypeOf", "(internal/reflectlite.Value).Elem", "(internal/reflectlite.Value).Set"], unfollowed := true, recurses := true, named := ["errors.errorType"], apart := false, laid := [("errors.errorType", laid_errors_errorType)], narrowed := true }
def NewtonTellsUptoSaid : Prop := newtonTellsUptoRow.holds Tryd.pinned (OpenSpec.upto newtonTellsSpec)

/-- 'spanlaw1.NewtonKeeps', WHERE WHAT IT READS IS OF BULK AT MOST 1048576: true; the input reads as it did. -/
def newtonKeepsUptoRow : OpenClaim := { program := "ythoiiffdigkodaadoor", sum := "ba4ca1ef48f6f4265baf831c0f6565cd87467b7ce5fb8aac5610d9ae0e9ec4d3", func := "spanmeadow/spanlaw1.NewtonKeeps", spec := "newtonKeeps", inPlace := ["internal/reflectlite.ValueOf", "(internal/reflectlite.Value).Type", "(internal/reflectlite.Value).IsNil", "internal/reflectlite.TypeOf", "(internal/reflectlite.Value).Elem", "(internal/reflectlite.Value).Set"], unfollowed := true, recurses := true, named := ["errors.errorType"], apart := false, laid := [("errors.errorType", laid_errors_errorType)], narrowed := true }
def NewtonKeepsUptoSaid : Prop := newtonKeepsUptoRow.holds Tryd.pinned (OpenSpec.upto newtonKeepsSpec)

/-- 'spantop.TopRoots', WHERE WHAT IT READS IS OF BULK AT MOST 1048576: true; the input reads as it did. -/
def topRootsUptoRow : OpenClaim := { program := "ythoiiffdigkodaadoor", sum := "ba4ca1ef48f6f4265baf831c0f6565cd87467b7ce5fb8aac5610d9ae0e9ec4d3", func := "spanmeadow/spantop.TopRoots", spec := "topRoots", inPlace := ["internal/reflectlite.ValueOf", "(internal/reflectlite.Value).Type", "(internal/reflectlite.Value).IsNil", "internal/reflectlite.TypeOf", "(internal/reflectlite.Value).Elem", "(internal/reflectlite.Value).Set"], unfollowed := true, recurses := true, named := ["errors.errorType"], apart := false, laid := [("errors.errorType", laid_errors_errorType)], narrowed := true }
def TopRootsUptoSaid : Prop := topRootsUptoRow.holds Tryd.pinned (OpenSpec.upto topRootsSpec)

end Rows
end Go.Proofs.YthoiiffdigkodaaDoor
