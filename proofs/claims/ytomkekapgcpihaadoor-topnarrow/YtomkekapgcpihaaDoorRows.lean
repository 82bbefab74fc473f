/-
  NARROWER THAN 'FOR EVERY INPUT', by the rows' own cells (each row's printed sentence says how): NarrowTells: laid · NarrowKeeps: laid · TopNarrow: laid.
  DERIVED. THE GIVEN ROWS OF THIS SEAT. 3 by the template 'for every input the law returns true; each argument reads behind the call as it read before'; 0 by the template 'total and deterministic' (their statements: YtomkekapgcpihaaDoorTotals.lean).
  GIVEN WITH THE SEED: the statements are not yours to turn. If you find one false, say at which input.
  Laid BY PROGRAM, IN A SANDBOX (cutbox-rows.mjs): the forced cells as the released guide's own fill.sh prints them over the translation e9438536efa0caa6… (all of the seat's roots in one cut). By AI agents, Wed Nov 11 2026. No macro, syntax, notation, axiom, sorry.
-/
import Derived.Test.YtomkekapgcpihaaDoorChecked
import GoSem.Claim
import GoSem.ClaimJoined
import GoSem.ClaimMapViews
import Derived.JoinedTies
import Derived.KernelRfl
namespace Go.Proofs.YtomkekapgcpihaaDoor
/- THE CELL 'sum', in the pinned program and in every row, IS THE sha256 OF THE DUMP (.gsa) THAT YtomkekapgcpihaaDoorProg.lean LOADS. Nothing in Lean hashes anything: it is a label: what it is worth is what the hold of that sum in a sandbox is worth. -/
noncomputable def Tryd.pinned : Pinned := { name := "ytomkekapgcpihaadoor", sum := "e9438536efa0caa65f7e6e759fdfa88d86a4c3bd22df865c42087715835d1f65", checked := Tryd.checked }
namespace Rows
def none {H : Type} : Left H := { results := [], args := [] }

/- WHAT THE LISTED PACKAGE-LEVEL VARIABLES READ AS WHEN THE CALL BEGINS. Each datum BY PROGRAM (the guide's laid-datum.mjs) off the statement by which the dump's own 'gosem.cut.vars' lays the variable. In a bare row this is a premise. The card (YtomkekapgcpihaaDoorCards.lean) ties it to the program's text. -/
def laid_errors_errorType {H : Type} : DataW H := .iface "internal/reflectlite.rtype" (.agg [.ptr (.lit (.string [101, 114, 114, 111, 114]))])

/-- 'spanlaw2.NarrowTells': WHATEVER THE INPUT: true; the input reads as it did. -/
def narrowTellsSpec : ChangeSpec := { name := "narrowTells", fn := fun _ => fun
  | [d1, d2, d3] => { results := [.lit (.bool true)], args := [d1, d2, d3] }
  | _ => none }
def narrowTellsRow : OpenClaim := { program := "ytomkekapgcpihaadoor", sum := "e9438536efa0caa65f7e6e759fdfa88d86a4c3bd22df865c42087715835d1f65", func := "spanmeadow/spanlaw2.NarrowTells", spec := "narrowTells", inPlace := ["internal/reflectlite.ValueOf", "(internal/reflectlite.Value).Type", "(internal/reflectlite.Value).IsNil", "internal/reflectlite.TypeOf", "(internal/reflectlite.Value).Elem", "(internal/reflectlite.Value).Set"], unfollowed := true, recurses := true, named := ["errors.errorType"], apart := false, laid := [("errors.errorType", laid_errors_errorType)] }
def NarrowTellsSaid : Prop := narrowTellsRow.holds Tryd.pinned (OpenSpec.ofChange narrowTellsSpec)

/-- ITS FALSE NEIGHBOUR: 'it returns false'. Refute it at one input. -/
def narrowTellsWrong : ChangeSpec := { name := "narrowTells", fn := fun _ => fun
  | [d1, d2, d3] => { results := [.lit (.bool false)], args := [d1, d2, d3] }
  | _ => none }
def NarrowTellsWrongFalsely : Prop := narrowTellsRow.holds Tryd.pinned (OpenSpec.ofChange narrowTellsWrong)

/-- 'spanlaw2.NarrowKeeps': WHATEVER THE INPUT: true; the input reads as it did. -/
def narrowKeepsSpec : ChangeSpec := { name := "narrowKeeps", fn := fun _ => fun
  | [d1, d2, d3, d4, d5] => { results := [.lit (.bool true)], args := [d1, d2, d3, d4, d5] }
  | _ => none }
def narrowKeepsRow : OpenClaim := { program := "ytomkekapgcpihaadoor", sum := "e9438536efa0caa65f7e6e759fdfa88d86a4c3bd22df865c42087715835d1f65", func := "spanmeadow/spanlaw2.NarrowKeeps", spec := "narrowKeeps", inPlace := ["internal/reflectlite.ValueOf", "(internal/reflectlite.Value).Type", "(internal/reflectlite.Value).IsNil", "internal/reflectlite.TypeOf", "(internal/reflectlite.Value).Elem", "(internal/reflectlite.Value).Set"], unfollowed := true, recurses := true, named := ["errors.errorType"], apart := false, laid := [("errors.errorType", laid_errors_errorType)] }
def NarrowKeepsSaid : Prop := narrowKeepsRow.holds Tryd.pinned (OpenSpec.ofChange narrowKeepsSpec)

/-- ITS FALSE NEIGHBOUR: 'it returns false'. Refute it at one input. -/
def narrowKeepsWrong : ChangeSpec := { name := "narrowKeeps", fn := fun _ => fun
  | [d1, d2, d3, d4, d5] => { results := [.lit (.bool false)], args := [d1, d2, d3, d4, d5] }
  | _ => none }
def NarrowKeepsWrongFalsely : Prop := narrowKeepsRow.holds Tryd.pinned (OpenSpec.ofChange narrowKeepsWrong)

/-- 'spantop.TopNarrow': WHATEVER THE INPUT: true; the input reads as it did. -/
def topNarrowSpec : ChangeSpec := { name := "topNarrow", fn := fun _ => fun
  | [d1, d2, d3, d4, d5] => { results := [.lit (.bool true)], args := [d1, d2, d3, d4, d5] }
  | _ => none }
def topNarrowRow : OpenClaim := { program := "ytomkekapgcpihaadoor", sum := "e9438536efa0caa65f7e6e759fdfa88d86a4c3bd22df865c42087715835d1f65", func := "spanmeadow/spantop.TopNarrow", spec := "topNarrow", inPlace := ["internal/reflectlite.ValueOf", "(internal/reflectlite.Value).Type", "(internal/reflectlite.Value).IsNil", "internal/reflectlite.TypeOf", "(internal/reflectlite.Value).Elem", "(internal/reflectlite.Value).Set"], unfollowed := true, recurses := true, named := ["errors.errorType"], apart := false, laid := [("errors.errorType", laid_errors_errorType)] }
def TopNarrowSaid : Prop := topNarrowRow.holds Tryd.pinned (OpenSpec.ofChange topNarrowSpec)

/-- ITS FALSE NEIGHBOUR: 'it returns false'. Refute it at one input. -/
def topNarrowWrong : ChangeSpec := { name := "topNarrow", fn := fun _ => fun
  | [d1, d2, d3, d4, d5] => { results := [.lit (.bool false)], args := [d1, d2, d3, d4, d5] }
  | _ => none }
def TopNarrowWrongFalsely : Prop := topNarrowRow.holds Tryd.pinned (OpenSpec.ofChange topNarrowWrong)

/- THE SECOND FORM. 'bulk': how many values and letters a reading holds, each counted each time it is reached (what is shared counts as often as it is met; a slice's spare places count too). A statement '..UptoSaid' is the law's where the arguments, and the package variables that the reading takes, are together of bulk at most 1048576: NARROWER than '..Said'. Prove '..Said' where nothing that the law and all that it calls make is longer than what came in: it says more and counts as full. Else prove '..UptoSaid'. A law counts once. -/
mutual
def uptoBulk {H : Type} : DataW H → Nat
  | .lit (.string bytes) => bytes.length + 1
  | .lit _ => 1
  | .nil => 1
  | .ptr d => uptoBulk d + 1
  | .slice elems spare => uptoBulkAll elems + uptoBulkAll spare + 1
  | .agg parts => uptoBulkAll parts + 1
  | .iface _ d => uptoBulk d + 1
  | .map entries => uptoBulkEntries entries + 1
  | .held _ => 1
def uptoBulkAll {H : Type} : List (DataW H) → Nat
  | [] => 0
  | d :: r => uptoBulk d + uptoBulkAll r
def uptoBulkEntries {H : Type} : List (Lit × DataW H) → Nat
  | [] => 0
  | x :: r => uptoBulkEntry x + uptoBulkEntries r
def uptoBulkEntry {H : Type} : Lit × DataW H → Nat
  | (.string bytes, d) => bytes.length + uptoBulk d + 1
  | (_, d) => uptoBulk d + 1
 end
def uptoSmall : (H : Type) → List (DataW H) → Bool := fun _ ds => decide (uptoBulkAll ds ≤ 1048576)
def OpenSpec.upto (s : _root_.Go.ChangeSpec) : _root_.Go.OpenSpec := { _root_.Go.OpenSpec.ofChange s with cond := some uptoSmall }

/-- 'spanlaw2.NarrowTells', WHERE WHAT IT READS IS OF BULK AT MOST 1048576: true; the input reads as it did. -/
def narrowTellsUptoRow : OpenClaim := { program := "ytomkekapgcpihaadoor", sum := "e9438536efa0caa65f7e6e759fdfa88d86a4c3bd22df865c42087715835d1f65", func := "spanmeadow/spanlaw2.NarrowTells", spec := "narrowTells", inPlace := ["internal/reflectlite.ValueOf", "(internal/reflectlite.Value).Type", "(internal/reflectlite.Value).IsNil", "internal/reflectlite.TypeOf", "(internal/reflectlite.Value).Elem", "(internal/reflectlite.Value).Set"], unfollowed := true, recurses := true, named := ["errors.errorType"], apart := false, laid := [("errors.errorType", laid_errors_errorType)], narrowed := true }
def NarrowTellsUptoSaid : Prop := narrowTellsUptoRow.holds Tryd.pinned (OpenSpec.upto narrowTellsSpec)

/-- 'spanlaw2.NarrowKeeps', WHERE WHAT IT READS IS OF BULK AT MOST 1048576: true; the input reads as it did. -/
def narrowKeepsUptoRow : OpenClaim := { program := "ytomkekapgcpihaadoor", sum := "e9438536efa0caa65f7e6e759fdfa88d86a4c3bd22df865c42087715835d1f65", func := "spanmeadow/spanlaw2.NarrowKeeps", spec := "narrowKeeps", inPlace := ["internal/reflectlite.ValueOf", "(internal/reflectlite.Value).Type", "(internal/reflectlite.Value).IsNil", "internal/reflectlite.TypeOf", "(internal/reflectlite.Value).Elem", "(internal/reflectlite.Value).Set"], unfollowed := true, recurses := true, named := ["errors.errorType"], apart := false, laid := [("errors.errorType", laid_errors_errorType)], narrowed := true }
def NarrowKeepsUptoSaid : Prop := narrowKeepsUptoRow.holds Tryd.pinned (OpenSpec.upto narrowKeepsSpec)

/-- 'spantop.TopNarrow', WHERE WHAT IT READS IS OF BULK AT MOST 1048576: true; the input reads as it did. -/
def topNarrowUptoRow : OpenClaim := { program := "ytomkekapgcpihaadoor", sum := "e9438536efa0caa65f7e6e759fdfa88d86a4c3bd22df865c42087715835d1f65", func := "spanmeadow/spantop.TopNarrow", spec := "topNarrow", inPlace := ["internal/reflectlite.ValueOf", "(internal/reflectlite.Value).Type", "(internal/reflectlite.Value).IsNil", "internal/reflectlite.TypeOf", "(internal/reflectlite.Value).Elem", "(internal/reflectlite.Value).Set"], unfollowed := true, recurses := true, named := ["errors.errorType"], apart := false, laid := [("errors.errorType", laid_errors_errorType)], narrowed := true }
def TopNarrowUptoSaid : Prop := topNarrowUptoRow.holds Tryd.pinned (OpenSpec.upto topNarrowSpec)

end Rows
end Go.Proofs.YtomkekapgcpihaaDoor
