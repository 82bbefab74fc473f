/-
  No cell of these rows narrows 'for every input' (looked for: loops, veiled, ifaces, maps, wideKeys, modest, calm, conditions, laid).
  DERIVED. THE GIVEN ROWS OF THIS SEAT. 4 by the template 'for every input the law returns true; each argument reads behind the call as it read before'; 0 by the template 'total and deterministic' (their statements: YthoeifpmakdfnabTotals.lean).
  GIVEN WITH THE SEED: the statements are not yours to turn. If you find one false, say at which input.
  Laid BY PROGRAM, IN A SANDBOX (cutbox-rows.mjs): the forced cells as the released guide's own fill.sh prints them over the translation 6a67f4269c4cfcd2… (all of the seat's roots in one cut). By AI agents, Wed Nov 11 2026. No macro, syntax, notation, axiom, sorry.
-/
import Derived.Test.YthoeifpmakdfnabChecked
import GoSem.Claim
import GoSem.ClaimJoined
import GoSem.ClaimMapViews
import Derived.JoinedTies
import Derived.KernelRfl
namespace Go.Proofs.Ythoeifpmakdfnab
/- THE CELL 'sum', in the pinned program and in every row, IS THE sha256 OF THE DUMP (.gsa) THAT YthoeifpmakdfnabProg.lean LOADS. Nothing in Lean hashes anything: it is a label: what it is worth is what the hold of that sum in a sandbox is worth. -/
noncomputable def Try.pinned : Pinned := { name := "ythoeifpmakdfnab", sum := "6a67f4269c4cfcd2e5c11a3826aec9c07c8ef7dcc2c6bba44ebbdb1ad87b523f", checked := Try.checked }
namespace Rows
def none {H : Type} : Left H := { results := [], args := [] }

/-- 'spanlaw1.MonoHas': WHATEVER THE INPUT: true; the input reads as it did. -/
def monoHasSpec : ChangeSpec := { name := "monoHas", fn := fun _ => fun
  | [d1, d2, d3, d4] => { results := [.lit (.bool true)], args := [d1, d2, d3, d4] }
  | _ => none }
def monoHasRow : OpenClaim := { program := "ythoeifpmakdfnab", sum := "6a67f4269c4cfcd2e5c11a3826aec9c07c8ef7dcc2c6bba44ebbdb1ad87b523f", func := "spanmeadow/spanlaw1.MonoHas", spec := "monoHas", unfollowed := true, recurses := true, apart := false }
def MonoHasSaid : Prop := monoHasRow.holds Try.pinned (OpenSpec.ofChange monoHasSpec)

/-- ITS FALSE NEIGHBOUR: 'it returns false'. Refute it at one input. -/
def monoHasWrong : ChangeSpec := { name := "monoHas", fn := fun _ => fun
  | [d1, d2, d3, d4] => { results := [.lit (.bool false)], args := [d1, d2, d3, d4] }
  | _ => none }
def MonoHasWrongFalsely : Prop := monoHasRow.holds Try.pinned (OpenSpec.ofChange monoHasWrong)

/-- 'spanlaw4.MonoStraight': WHATEVER THE INPUT: true; the input reads as it did. -/
def monoStraightSpec : ChangeSpec := { name := "monoStraight", fn := fun _ => fun
  | [d1, d2, d3] => { results := [.lit (.bool true)], args := [d1, d2, d3] }
  | _ => none }
def monoStraightRow : OpenClaim := { program := "ythoeifpmakdfnab", sum := "6a67f4269c4cfcd2e5c11a3826aec9c07c8ef7dcc2c6bba44ebbdb1ad87b523f", func := "spanmeadow/spanlaw4.MonoStraight", spec := "monoStraight", unfollowed := true, recurses := true, apart := false }
def MonoStraightSaid : Prop := monoStraightRow.holds Try.pinned (OpenSpec.ofChange monoStraightSpec)

/-- ITS FALSE NEIGHBOUR: 'it returns false'. Refute it at one input. -/
def monoStraightWrong : ChangeSpec := { name := "monoStraight", fn := fun _ => fun
  | [d1, d2, d3] => { results := [.lit (.bool false)], args := [d1, d2, d3] }
  | _ => none }
def MonoStraightWrongFalsely : Prop := monoStraightRow.holds Try.pinned (OpenSpec.ofChange monoStraightWrong)

/-- 'spanlaw1.SplitHas': WHATEVER THE INPUT: true; the input reads as it did. -/
def splitHasSpec : ChangeSpec := { name := "splitHas", fn := fun _ => fun
  | [d1, d2, d3, d4] => { results := [.lit (.bool true)], args := [d1, d2, d3, d4] }
  | _ => none }
def splitHasRow : OpenClaim := { program := "ythoeifpmakdfnab", sum := "6a67f4269c4cfcd2e5c11a3826aec9c07c8ef7dcc2c6bba44ebbdb1ad87b523f", func := "spanmeadow/spanlaw1.SplitHas", spec := "splitHas", unfollowed := true, recurses := true, apart := false }
def SplitHasSaid : Prop := splitHasRow.holds Try.pinned (OpenSpec.ofChange splitHasSpec)

/-- ITS FALSE NEIGHBOUR: 'it returns false'. Refute it at one input. -/
def splitHasWrong : ChangeSpec := { name := "splitHas", fn := fun _ => fun
  | [d1, d2, d3, d4] => { results := [.lit (.bool false)], args := [d1, d2, d3, d4] }
  | _ => none }
def SplitHasWrongFalsely : Prop := splitHasRow.holds Try.pinned (OpenSpec.ofChange splitHasWrong)

/-- 'spanlaw4.SplitOne': WHATEVER THE INPUT: true; the input reads as it did. -/
def splitOneSpec : ChangeSpec := { name := "splitOne", fn := fun _ => fun
  | [d1, d2] => { results := [.lit (.bool true)], args := [d1, d2] }
  | _ => none }
def splitOneRow : OpenClaim := { program := "ythoeifpmakdfnab", sum := "6a67f4269c4cfcd2e5c11a3826aec9c07c8ef7dcc2c6bba44ebbdb1ad87b523f", func := "spanmeadow/spanlaw4.SplitOne", spec := "splitOne", unfollowed := true, recurses := true, apart := false }
def SplitOneSaid : Prop := splitOneRow.holds Try.pinned (OpenSpec.ofChange splitOneSpec)

/-- ITS FALSE NEIGHBOUR: 'it returns false'. Refute it at one input. -/
def splitOneWrong : ChangeSpec := { name := "splitOne", fn := fun _ => fun
  | [d1, d2] => { results := [.lit (.bool false)], args := [d1, d2] }
  | _ => none }
def SplitOneWrongFalsely : Prop := splitOneRow.holds Try.pinned (OpenSpec.ofChange splitOneWrong)

/- THE SECOND FORM. 'bulk': how many values and letters a reading holds, each counted each time it is reached (what is shared counts as often as it is met; a slice's spare places count too). A statement '..UptoSaid' is the law's where the arguments, and the package variables that the reading takes, are together of bulk at most 1048576: NARROWER than '..Said'. Prove '..Said' where nothing that the law and all that it calls make is longer than what came in: it says more and counts as full. Else prove '..UptoSaid'. A law counts once. -/
mutual
def uptoBulk {H : Type} : DataW H → Nat
  | .lit (.string bytes) => bytes.length + 1
  | .lit _ => 1
  | .nil => 1
  | .ptr d => uptoBulk d + 1
  | .slice elems spare => uptoBulkAll elems + uptoBulkAll spare + 1
  | .agg parts => uptoBulkAll parts + 1
  | .iface _ d => uptoBulk d + 1
  | .map entries => uptoBulkEntries entries + 1
  | .held _ => 1
def uptoBulkAll {H : Type} : List (DataW H) → Nat
  | [] => 0
  | d :: r => uptoBulk d + uptoBulkAll r
def uptoBulkEntries {H : Type} : List (Lit × DataW H) → Nat
  | [] => 0
  | x :: r => uptoBulkEntry x + uptoBulkEntries r
def uptoBulkEntry {H : Type} : Lit × DataW H → Nat
  | (.string bytes, d) => bytes.length + uptoBulk d + 1
  | (_, d) => uptoBulk d + 1
 end
def uptoSmall : (H : Type) → List (DataW H) → Bool := fun _ ds => decide (uptoBulkAll ds ≤ 1048576)
def OpenSpec.upto (s : _root_.Go.ChangeSpec) : _root_.Go.OpenSpec := { _root_.Go.OpenSpec.ofChange s with cond := some uptoSmall }

/-- 'spanlaw1.MonoHas', WHERE WHAT IT READS IS OF BULK AT MOST 1048576: true; the input reads as it did. -/
def monoHasUptoRow : OpenClaim := { program := "ythoeifpmakdfnab", sum := "6a67f4269c4cfcd2e5c11a3826aec9c07c8ef7dcc2c6bba44ebbdb1ad87b523f", func := "spanmeadow/spanlaw1.MonoHas", spec := "monoHas", unfollowed := true, recurses := true, apart := false, narrowed := true }
def MonoHasUptoSaid : Prop := monoHasUptoRow.holds Try.pinned (OpenSpec.upto monoHasSpec)

/-- 'spanlaw4.MonoStraight', WHERE WHAT IT READS IS OF BULK AT MOST 1048576: true; the input reads as it did. -/
def monoStraightUptoRow : OpenClaim := { program := "ythoeifpmakdfnab", sum := "6a67f4269c4cfcd2e5c11a3826aec9c07c8ef7dcc2c6bba44ebbdb1ad87b523f", func := "spanmeadow/spanlaw4.MonoStraight", spec := "monoStraight", unfollowed := true, recurses := true, apart := false, narrowed := true }
def MonoStraightUptoSaid : Prop := monoStraightUptoRow.holds Try.pinned (OpenSpec.upto monoStraightSpec)

/-- 'spanlaw1.SplitHas', WHERE WHAT IT READS IS OF BULK AT MOST 1048576: true; the input reads as it did. -/
def splitHasUptoRow : OpenClaim := { program := "ythoeifpmakdfnab", sum := "6a67f4269c4cfcd2e5c11a3826aec9c07c8ef7dcc2c6bba44ebbdb1ad87b523f", func := "spanmeadow/spanlaw1.SplitHas", spec := "splitHas", unfollowed := true, recurses := true, apart := false, narrowed := true }
def SplitHasUptoSaid : Prop := splitHasUptoRow.holds Try.pinned (OpenSpec.upto splitHasSpec)

/-- 'spanlaw4.SplitOne', WHERE WHAT IT READS IS OF BULK AT MOST 1048576: true; the input reads as it did. -/
def splitOneUptoRow : OpenClaim := { program := "ythoeifpmakdfnab", sum := "6a67f4269c4cfcd2e5c11a3826aec9c07c8ef7dcc2c6bba44ebbdb1ad87b523f", func := "spanmeadow/spanlaw4.SplitOne", spec := "splitOne", unfollowed := true, recurses := true, apart := false, narrowed := true }
def SplitOneUptoSaid : Prop := splitOneUptoRow.holds Try.pinned (OpenSpec.upto splitOneSpec)

end Rows
end Go.Proofs.Ythoeifpmakdfnab
