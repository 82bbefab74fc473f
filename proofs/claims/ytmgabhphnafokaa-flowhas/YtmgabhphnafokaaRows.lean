/-
  No cell of these rows narrows 'for every input' (looked for: loops, veiled, ifaces, maps, wideKeys, modest, calm, conditions, laid).
  DERIVED. THE GIVEN ROWS OF THIS SEAT. 7 by the template 'for every input the law returns true; each argument reads behind the call as it read before'; 0 by the template 'total and deterministic' (their statements: YtmgabhphnafokaaTotals.lean).
  GIVEN WITH THE SEED: the statements are not yours to turn. If you find one false, say at which input.
  Laid BY PROGRAM, IN A SANDBOX (cutbox-rows.mjs): the forced cells as the released guide's own fill.sh prints them over the translation 957e5d9f1c0a40e1… (all of the seat's roots in one cut). By AI agents, Wed Nov 11 2026. No macro, syntax, notation, axiom, sorry.
-/
import Derived.Test.YtmgabhphnafokaaChecked
import GoSem.Claim
import GoSem.ClaimJoined
import GoSem.ClaimMapViews
import Derived.JoinedTies
import Derived.KernelRfl
namespace Go.Proofs.Ytmgabhphnafokaa
/- THE CELL 'sum', in the pinned program and in every row, IS THE sha256 OF THE DUMP (.gsa) THAT YtmgabhphnafokaaProg.lean LOADS. Nothing in Lean hashes anything: it is a label: what it is worth is what the hold of that sum in a sandbox is worth. -/
noncomputable def Try.pinned : Pinned := { name := "ytmgabhphnafokaa", sum := "957e5d9f1c0a40e134e078d71a7ceee782d6e49d8380dba697f643cc699b5a91", checked := Try.checked }
namespace Rows
def none {H : Type} : Left H := { results := [], args := [] }

/-- 'spanlaw1.BoxParts': WHATEVER THE INPUT: true; the input reads as it did. -/
def boxPartsSpec : ChangeSpec := { name := "boxParts", fn := fun _ => fun
  | [d1, d2, d3] => { results := [.lit (.bool true)], args := [d1, d2, d3] }
  | _ => none }
def boxPartsRow : OpenClaim := { program := "ytmgabhphnafokaa", sum := "957e5d9f1c0a40e134e078d71a7ceee782d6e49d8380dba697f643cc699b5a91", func := "spanmeadow/spanlaw1.BoxParts", spec := "boxParts", unfollowed := true, recurses := true, apart := false }
def BoxPartsSaid : Prop := boxPartsRow.holds Try.pinned (OpenSpec.ofChange boxPartsSpec)

/-- ITS FALSE NEIGHBOUR: 'it returns false'. Refute it at one input. -/
def boxPartsWrong : ChangeSpec := { name := "boxParts", fn := fun _ => fun
  | [d1, d2, d3] => { results := [.lit (.bool false)], args := [d1, d2, d3] }
  | _ => none }
def BoxPartsWrongFalsely : Prop := boxPartsRow.holds Try.pinned (OpenSpec.ofChange boxPartsWrong)

/-- 'spanlaw4.BoxPoint': WHATEVER THE INPUT: true; the input reads as it did. -/
def boxPointSpec : ChangeSpec := { name := "boxPoint", fn := fun _ => fun
  | [d] => { results := [.lit (.bool true)], args := [d] }
  | _ => none }
def boxPointRow : OpenClaim := { program := "ytmgabhphnafokaa", sum := "957e5d9f1c0a40e134e078d71a7ceee782d6e49d8380dba697f643cc699b5a91", func := "spanmeadow/spanlaw4.BoxPoint", spec := "boxPoint", unfollowed := true, recurses := true, apart := false }
def BoxPointSaid : Prop := boxPointRow.holds Try.pinned (OpenSpec.ofChange boxPointSpec)

/-- ITS FALSE NEIGHBOUR: 'it returns false'. Refute it at one input. -/
def boxPointWrong : ChangeSpec := { name := "boxPoint", fn := fun _ => fun
  | [d] => { results := [.lit (.bool false)], args := [d] }
  | _ => none }
def BoxPointWrongFalsely : Prop := boxPointRow.holds Try.pinned (OpenSpec.ofChange boxPointWrong)

/-- 'spanlaw2.FormHas': WHATEVER THE INPUT: true; the input reads as it did. -/
def formHasSpec : ChangeSpec := { name := "formHas", fn := fun _ => fun
  | [d1, d2, d3, d4] => { results := [.lit (.bool true)], args := [d1, d2, d3, d4] }
  | _ => none }
def formHasRow : OpenClaim := { program := "ytmgabhphnafokaa", sum := "957e5d9f1c0a40e134e078d71a7ceee782d6e49d8380dba697f643cc699b5a91", func := "spanmeadow/spanlaw2.FormHas", spec := "formHas", unfollowed := true, recurses := true, apart := false }
def FormHasSaid : Prop := formHasRow.holds Try.pinned (OpenSpec.ofChange formHasSpec)

/-- ITS FALSE NEIGHBOUR: 'it returns false'. Refute it at one input. -/
def formHasWrong : ChangeSpec := { name := "formHas", fn := fun _ => fun
  | [d1, d2, d3, d4] => { results := [.lit (.bool false)], args := [d1, d2, d3, d4] }
  | _ => none }
def FormHasWrongFalsely : Prop := formHasRow.holds Try.pinned (OpenSpec.ofChange formHasWrong)

/-- 'spanlaw2.StepHas': WHATEVER THE INPUT: true; the input reads as it did. -/
def stepHasSpec : ChangeSpec := { name := "stepHas", fn := fun _ => fun
  | [d1, d2, d3, d4] => { results := [.lit (.bool true)], args := [d1, d2, d3, d4] }
  | _ => none }
def stepHasRow : OpenClaim := { program := "ytmgabhphnafokaa", sum := "957e5d9f1c0a40e134e078d71a7ceee782d6e49d8380dba697f643cc699b5a91", func := "spanmeadow/spanlaw2.StepHas", spec := "stepHas", unfollowed := true, recurses := true, apart := false }
def StepHasSaid : Prop := stepHasRow.holds Try.pinned (OpenSpec.ofChange stepHasSpec)

/-- ITS FALSE NEIGHBOUR: 'it returns false'. Refute it at one input. -/
def stepHasWrong : ChangeSpec := { name := "stepHas", fn := fun _ => fun
  | [d1, d2, d3, d4] => { results := [.lit (.bool false)], args := [d1, d2, d3, d4] }
  | _ => none }
def StepHasWrongFalsely : Prop := stepHasRow.holds Try.pinned (OpenSpec.ofChange stepHasWrong)

/-- 'spanlaw4.StepNone': WHATEVER THE INPUT: true; the input reads as it did. -/
def stepNoneSpec : ChangeSpec := { name := "stepNone", fn := fun _ => fun
  | [d1, d2] => { results := [.lit (.bool true)], args := [d1, d2] }
  | _ => none }
def stepNoneRow : OpenClaim := { program := "ytmgabhphnafokaa", sum := "957e5d9f1c0a40e134e078d71a7ceee782d6e49d8380dba697f643cc699b5a91", func := "spanmeadow/spanlaw4.StepNone", spec := "stepNone", unfollowed := true, recurses := true, apart := false }
def StepNoneSaid : Prop := stepNoneRow.holds Try.pinned (OpenSpec.ofChange stepNoneSpec)

/-- ITS FALSE NEIGHBOUR: 'it returns false'. Refute it at one input. -/
def stepNoneWrong : ChangeSpec := { name := "stepNone", fn := fun _ => fun
  | [d1, d2] => { results := [.lit (.bool false)], args := [d1, d2] }
  | _ => none }
def StepNoneWrongFalsely : Prop := stepNoneRow.holds Try.pinned (OpenSpec.ofChange stepNoneWrong)

/-- 'spanlaw2.FlowHas': WHATEVER THE INPUT: true; the input reads as it did. -/
def flowHasSpec : ChangeSpec := { name := "flowHas", fn := fun _ => fun
  | [d1, d2, d3, d4] => { results := [.lit (.bool true)], args := [d1, d2, d3, d4] }
  | _ => none }
def flowHasRow : OpenClaim := { program := "ytmgabhphnafokaa", sum := "957e5d9f1c0a40e134e078d71a7ceee782d6e49d8380dba697f643cc699b5a91", func := "spanmeadow/spanlaw2.FlowHas", spec := "flowHas", unfollowed := true, recurses := true, apart := false }
def FlowHasSaid : Prop := flowHasRow.holds Try.pinned (OpenSpec.ofChange flowHasSpec)

/-- ITS FALSE NEIGHBOUR: 'it returns false'. Refute it at one input. -/
def flowHasWrong : ChangeSpec := { name := "flowHas", fn := fun _ => fun
  | [d1, d2, d3, d4] => { results := [.lit (.bool false)], args := [d1, d2, d3, d4] }
  | _ => none }
def FlowHasWrongFalsely : Prop := flowHasRow.holds Try.pinned (OpenSpec.ofChange flowHasWrong)

/-- 'spanlaw4.FlowNone': WHATEVER THE INPUT: true; the input reads as it did. -/
def flowNoneSpec : ChangeSpec := { name := "flowNone", fn := fun _ => fun
  | [d1, d2] => { results := [.lit (.bool true)], args := [d1, d2] }
  | _ => none }
def flowNoneRow : OpenClaim := { program := "ytmgabhphnafokaa", sum := "957e5d9f1c0a40e134e078d71a7ceee782d6e49d8380dba697f643cc699b5a91", func := "spanmeadow/spanlaw4.FlowNone", spec := "flowNone", unfollowed := true, recurses := true, apart := false }
def FlowNoneSaid : Prop := flowNoneRow.holds Try.pinned (OpenSpec.ofChange flowNoneSpec)

/-- ITS FALSE NEIGHBOUR: 'it returns false'. Refute it at one input. -/
def flowNoneWrong : ChangeSpec := { name := "flowNone", fn := fun _ => fun
  | [d1, d2] => { results := [.lit (.bool false)], args := [d1, d2] }
  | _ => none }
def FlowNoneWrongFalsely : Prop := flowNoneRow.holds Try.pinned (OpenSpec.ofChange flowNoneWrong)

/- THE SECOND FORM. 'bulk': how many values and letters a reading holds, each counted each time it is reached (what is shared counts as often as it is met; a slice's spare places count too). A statement '..UptoSaid' is the law's where the arguments, and the package variables that the reading takes, are together of bulk at most 1048576: NARROWER than '..Said'. Prove '..Said' where nothing that the law and all that it calls make is longer than what came in: it says more and counts as full. Else prove '..UptoSaid'. A law counts once. -/
mutual
def uptoBulk {H : Type} : DataW H → Nat
  | .lit (.string bytes) => bytes.length + 1
  | .lit _ => 1
  | .nil => 1
  | .ptr d => uptoBulk d + 1
  | .slice elems spare => uptoBulkAll elems + uptoBulkAll spare + 1
  | .agg parts => uptoBulkAll parts + 1
  | .iface _ d => uptoBulk d + 1
  | .map entries => uptoBulkEntries entries + 1
  | .held _ => 1
def uptoBulkAll {H : Type} : List (DataW H) → Nat
  | [] => 0
  | d :: r => uptoBulk d + uptoBulkAll r
def uptoBulkEntries {H : Type} : List (Lit × DataW H) → Nat
  | [] => 0
  | x :: r => uptoBulkEntry x + uptoBulkEntries r
def uptoBulkEntry {H : Type} : Lit × DataW H → Nat
  | (.string bytes, d) => bytes.length + uptoBulk d + 1
  | (_, d) => uptoBulk d + 1
 end
def uptoSmall : (H : Type) → List (DataW H) → Bool := fun _ ds => decide (uptoBulkAll ds ≤ 1048576)
def OpenSpec.upto (s : _root_.Go.ChangeSpec) : _root_.Go.OpenSpec := { _root_.Go.OpenSpec.ofChange s with cond := some uptoSmall }

/-- 'spanlaw1.BoxParts', WHERE WHAT IT READS IS OF BULK AT MOST 1048576: true; the input reads as it did. -/
def boxPartsUptoRow : OpenClaim := { program := "ytmgabhphnafokaa", sum := "957e5d9f1c0a40e134e078d71a7ceee782d6e49d8380dba697f643cc699b5a91", func := "spanmeadow/spanlaw1.BoxParts", spec := "boxParts", unfollowed := true, recurses := true, apart := false, narrowed := true }
def BoxPartsUptoSaid : Prop := boxPartsUptoRow.holds Try.pinned (OpenSpec.upto boxPartsSpec)

/-- 'spanlaw4.BoxPoint', WHERE WHAT IT READS IS OF BULK AT MOST 1048576: true; the input reads as it did. -/
def boxPointUptoRow : OpenClaim := { program := "ytmgabhphnafokaa", sum := "957e5d9f1c0a40e134e078d71a7ceee782d6e49d8380dba697f643cc699b5a91", func := "spanmeadow/spanlaw4.BoxPoint", spec := "boxPoint", unfollowed := true, recurses := true, apart := false, narrowed := true }
def BoxPointUptoSaid : Prop := boxPointUptoRow.holds Try.pinned (OpenSpec.upto boxPointSpec)

/-- 'spanlaw2.FormHas', WHERE WHAT IT READS IS OF BULK AT MOST 1048576: true; the input reads as it did. -/
def formHasUptoRow : OpenClaim := { program := "ytmgabhphnafokaa", sum := "957e5d9f1c0a40e134e078d71a7ceee782d6e49d8380dba697f643cc699b5a91", func := "spanmeadow/spanlaw2.FormHas", spec := "formHas", unfollowed := true, recurses := true, apart := false, narrowed := true }
def FormHasUptoSaid : Prop := formHasUptoRow.holds Try.pinned (OpenSpec.upto formHasSpec)

/-- 'spanlaw2.StepHas', WHERE WHAT IT READS IS OF BULK AT MOST 1048576: true; the input reads as it did. -/
def stepHasUptoRow : OpenClaim := { program := "ytmgabhphnafokaa", sum := "957e5d9f1c0a40e134e078d71a7ceee782d6e49d8380dba697f643cc699b5a91", func := "spanmeadow/spanlaw2.StepHas", spec := "stepHas", unfollowed := true, recurses := true, apart := false, narrowed := true }
def StepHasUptoSaid : Prop := stepHasUptoRow.holds Try.pinned (OpenSpec.upto stepHasSpec)

/-- 'spanlaw4.StepNone', WHERE WHAT IT READS IS OF BULK AT MOST 1048576: true; the input reads as it did. -/
def stepNoneUptoRow : OpenClaim := { program := "ytmgabhphnafokaa", sum := "957e5d9f1c0a40e134e078d71a7ceee782d6e49d8380dba697f643cc699b5a91", func := "spanmeadow/spanlaw4.StepNone", spec := "stepNone", unfollowed := true, recurses := true, apart := false, narrowed := true }
def StepNoneUptoSaid : Prop := stepNoneUptoRow.holds Try.pinned (OpenSpec.upto stepNoneSpec)

/-- 'spanlaw2.FlowHas', WHERE WHAT IT READS IS OF BULK AT MOST 1048576: true; the input reads as it did. -/
def flowHasUptoRow : OpenClaim := { program := "ytmgabhphnafokaa", sum := "957e5d9f1c0a40e134e078d71a7ceee782d6e49d8380dba697f643cc699b5a91", func := "spanmeadow/spanlaw2.FlowHas", spec := "flowHas", unfollowed := true, recurses := true, apart := false, narrowed := true }
def FlowHasUptoSaid : Prop := flowHasUptoRow.holds Try.pinned (OpenSpec.upto flowHasSpec)

/-- 'spanlaw4.FlowNone', WHERE WHAT IT READS IS OF BULK AT MOST 1048576: true; the input reads as it did. -/
def flowNoneUptoRow : OpenClaim := { program := "ytmgabhphnafokaa", sum := "957e5d9f1c0a40e134e078d71a7ceee782d6e49d8380dba697f643cc699b5a91", func := "spanmeadow/spanlaw4.FlowNone", spec := "flowNone", unfollowed := true, recurses := true, apart := false, narrowed := true }
def FlowNoneUptoSaid : Prop := flowNoneUptoRow.holds Try.pinned (OpenSpec.upto flowNoneSpec)

end Rows
end Go.Proofs.Ytmgabhphnafokaa
