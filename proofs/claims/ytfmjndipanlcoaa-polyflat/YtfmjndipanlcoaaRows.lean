/-
  No cell of these rows narrows 'for every input' (looked for: loops, veiled, ifaces, maps, wideKeys, modest, calm, conditions, laid).
  DERIVED. THE GIVEN ROWS OF THIS SEAT. 7 by the template 'for every input the law returns true; each argument reads behind the call as it read before'; 0 by the template 'total and deterministic' (their statements: YtfmjndipanlcoaaTotals.lean).
  GIVEN WITH THE SEED: the statements are not yours to turn. If you find one false, say at which input.
  Laid BY PROGRAM, IN A SANDBOX (cutbox-rows.mjs): the forced cells as the released guide's own fill.sh prints them over the translation 0e16191c480c0a94… (all of the seat's roots in one cut). By AI agents, Wed Nov 11 2026. No macro, syntax, notation, axiom, sorry.
-/
import Derived.Test.YtfmjndipanlcoaaChecked
import GoSem.Claim
import GoSem.ClaimJoined
import GoSem.ClaimMapViews
import Derived.JoinedTies
import Derived.KernelRfl
namespace Go.Proofs.Ytfmjndipanlcoaa
/- THE CELL 'sum', in the pinned program and in every row, IS THE sha256 OF THE DUMP (.gsa) THAT YtfmjndipanlcoaaProg.lean LOADS. Nothing in Lean hashes anything: it is a label: what it is worth is what the hold of that sum in a sandbox is worth. -/
noncomputable def Try.pinned : Pinned := { name := "ytfmjndipanlcoaa", sum := "0e16191c480c0a94327a78e0bd2e2bd8b34f9fc4a3fea85886ebd2c01f5b8795", checked := Try.checked }
namespace Rows
def none {H : Type} : Left H := { results := [], args := [] }

/-- 'spanlaw4.SpanZero': WHATEVER THE INPUT: true; the input reads as it did. -/
def spanZeroSpec : ChangeSpec := { name := "spanZero", fn := fun _ => fun
  | [d] => { results := [.lit (.bool true)], args := [d] }
  | _ => none }
def spanZeroRow : OpenClaim := { program := "ytfmjndipanlcoaa", sum := "0e16191c480c0a94327a78e0bd2e2bd8b34f9fc4a3fea85886ebd2c01f5b8795", func := "spanmeadow/spanlaw4.SpanZero", spec := "spanZero", unfollowed := true, recurses := true, apart := false }
def SpanZeroSaid : Prop := spanZeroRow.holds Try.pinned (OpenSpec.ofChange spanZeroSpec)

/-- ITS FALSE NEIGHBOUR: 'it returns false'. Refute it at one input. -/
def spanZeroWrong : ChangeSpec := { name := "spanZero", fn := fun _ => fun
  | [d] => { results := [.lit (.bool false)], args := [d] }
  | _ => none }
def SpanZeroWrongFalsely : Prop := spanZeroRow.holds Try.pinned (OpenSpec.ofChange spanZeroWrong)

/-- 'spanlaw1.PolyHas': WHATEVER THE INPUT: true; the input reads as it did. -/
def polyHasSpec : ChangeSpec := { name := "polyHas", fn := fun _ => fun
  | [d1, d2, d3] => { results := [.lit (.bool true)], args := [d1, d2, d3] }
  | _ => none }
def polyHasRow : OpenClaim := { program := "ytfmjndipanlcoaa", sum := "0e16191c480c0a94327a78e0bd2e2bd8b34f9fc4a3fea85886ebd2c01f5b8795", func := "spanmeadow/spanlaw1.PolyHas", spec := "polyHas", unfollowed := true, recurses := true, apart := false }
def PolyHasSaid : Prop := polyHasRow.holds Try.pinned (OpenSpec.ofChange polyHasSpec)

/-- ITS FALSE NEIGHBOUR: 'it returns false'. Refute it at one input. -/
def polyHasWrong : ChangeSpec := { name := "polyHas", fn := fun _ => fun
  | [d1, d2, d3] => { results := [.lit (.bool false)], args := [d1, d2, d3] }
  | _ => none }
def PolyHasWrongFalsely : Prop := polyHasRow.holds Try.pinned (OpenSpec.ofChange polyHasWrong)

/-- 'spanlaw4.PolyFlat': WHATEVER THE INPUT: true; the input reads as it did. -/
def polyFlatSpec : ChangeSpec := { name := "polyFlat", fn := fun _ => fun
  | [d1, d2] => { results := [.lit (.bool true)], args := [d1, d2] }
  | _ => none }
def polyFlatRow : OpenClaim := { program := "ytfmjndipanlcoaa", sum := "0e16191c480c0a94327a78e0bd2e2bd8b34f9fc4a3fea85886ebd2c01f5b8795", func := "spanmeadow/spanlaw4.PolyFlat", spec := "polyFlat", unfollowed := true, recurses := true, apart := false }
def PolyFlatSaid : Prop := polyFlatRow.holds Try.pinned (OpenSpec.ofChange polyFlatSpec)

/-- ITS FALSE NEIGHBOUR: 'it returns false'. Refute it at one input. -/
def polyFlatWrong : ChangeSpec := { name := "polyFlat", fn := fun _ => fun
  | [d1, d2] => { results := [.lit (.bool false)], args := [d1, d2] }
  | _ => none }
def PolyFlatWrongFalsely : Prop := polyFlatRow.holds Try.pinned (OpenSpec.ofChange polyFlatWrong)

/-- 'spanlaw1.CenterHas': WHATEVER THE INPUT: true; the input reads as it did. -/
def centerHasSpec : ChangeSpec := { name := "centerHas", fn := fun _ => fun
  | [d1, d2, d3] => { results := [.lit (.bool true)], args := [d1, d2, d3] }
  | _ => none }
def centerHasRow : OpenClaim := { program := "ytfmjndipanlcoaa", sum := "0e16191c480c0a94327a78e0bd2e2bd8b34f9fc4a3fea85886ebd2c01f5b8795", func := "spanmeadow/spanlaw1.CenterHas", spec := "centerHas", unfollowed := true, recurses := true, apart := false }
def CenterHasSaid : Prop := centerHasRow.holds Try.pinned (OpenSpec.ofChange centerHasSpec)

/-- ITS FALSE NEIGHBOUR: 'it returns false'. Refute it at one input. -/
def centerHasWrong : ChangeSpec := { name := "centerHas", fn := fun _ => fun
  | [d1, d2, d3] => { results := [.lit (.bool false)], args := [d1, d2, d3] }
  | _ => none }
def CenterHasWrongFalsely : Prop := centerHasRow.holds Try.pinned (OpenSpec.ofChange centerHasWrong)

/-- 'spanlaw4.CenterPoint': WHATEVER THE INPUT: true; the input reads as it did. -/
def centerPointSpec : ChangeSpec := { name := "centerPoint", fn := fun _ => fun
  | [d1, d2] => { results := [.lit (.bool true)], args := [d1, d2] }
  | _ => none }
def centerPointRow : OpenClaim := { program := "ytfmjndipanlcoaa", sum := "0e16191c480c0a94327a78e0bd2e2bd8b34f9fc4a3fea85886ebd2c01f5b8795", func := "spanmeadow/spanlaw4.CenterPoint", spec := "centerPoint", unfollowed := true, recurses := true, apart := false }
def CenterPointSaid : Prop := centerPointRow.holds Try.pinned (OpenSpec.ofChange centerPointSpec)

/-- ITS FALSE NEIGHBOUR: 'it returns false'. Refute it at one input. -/
def centerPointWrong : ChangeSpec := { name := "centerPoint", fn := fun _ => fun
  | [d1, d2] => { results := [.lit (.bool false)], args := [d1, d2] }
  | _ => none }
def CenterPointWrongFalsely : Prop := centerPointRow.holds Try.pinned (OpenSpec.ofChange centerPointWrong)

/-- 'spanlaw1.MonoHas': WHATEVER THE INPUT: true; the input reads as it did. -/
def monoHasSpec : ChangeSpec := { name := "monoHas", fn := fun _ => fun
  | [d1, d2, d3, d4] => { results := [.lit (.bool true)], args := [d1, d2, d3, d4] }
  | _ => none }
def monoHasRow : OpenClaim := { program := "ytfmjndipanlcoaa", sum := "0e16191c480c0a94327a78e0bd2e2bd8b34f9fc4a3fea85886ebd2c01f5b8795", func := "spanmeadow/spanlaw1.MonoHas", spec := "monoHas", unfollowed := true, recurses := true, apart := false }
def MonoHasSaid : Prop := monoHasRow.holds Try.pinned (OpenSpec.ofChange monoHasSpec)

/-- ITS FALSE NEIGHBOUR: 'it returns false'. Refute it at one input. -/
def monoHasWrong : ChangeSpec := { name := "monoHas", fn := fun _ => fun
  | [d1, d2, d3, d4] => { results := [.lit (.bool false)], args := [d1, d2, d3, d4] }
  | _ => none }
def MonoHasWrongFalsely : Prop := monoHasRow.holds Try.pinned (OpenSpec.ofChange monoHasWrong)

/-- 'spanlaw4.MonoStraight': WHATEVER THE INPUT: true; the input reads as it did. -/
def monoStraightSpec : ChangeSpec := { name := "monoStraight", fn := fun _ => fun
  | [d1, d2, d3] => { results := [.lit (.bool true)], args := [d1, d2, d3] }
  | _ => none }
def monoStraightRow : OpenClaim := { program := "ytfmjndipanlcoaa", sum := "0e16191c480c0a94327a78e0bd2e2bd8b34f9fc4a3fea85886ebd2c01f5b8795", func := "spanmeadow/spanlaw4.MonoStraight", spec := "monoStraight", unfollowed := true, recurses := true, apart := false }
def MonoStraightSaid : Prop := monoStraightRow.holds Try.pinned (OpenSpec.ofChange monoStraightSpec)

/-- ITS FALSE NEIGHBOUR: 'it returns false'. Refute it at one input. -/
def monoStraightWrong : ChangeSpec := { name := "monoStraight", fn := fun _ => fun
  | [d1, d2, d3] => { results := [.lit (.bool false)], args := [d1, d2, d3] }
  | _ => none }
def MonoStraightWrongFalsely : Prop := monoStraightRow.holds Try.pinned (OpenSpec.ofChange monoStraightWrong)

/- THE SECOND FORM. 'bulk': how many values and letters a reading holds, each counted each time it is reached (what is shared counts as often as it is met; a slice's spare places count too). A statement '..UptoSaid' is the law's where the arguments, and the package variables that the reading takes, are together of bulk at most 1048576: NARROWER than '..Said'. Prove '..Said' where nothing that the law and all that it calls make is longer than what came in: it says more and counts as full. Else prove '..UptoSaid'. A law counts once. -/
mutual
def uptoBulk {H : Type} : DataW H → Nat
  | .lit (.string bytes) => bytes.length + 1
  | .lit _ => 1
  | .nil => 1
  | .ptr d => uptoBulk d + 1
  | .slice elems spare => uptoBulkAll elems + uptoBulkAll spare + 1
  | .agg parts => uptoBulkAll parts + 1
  | .iface _ d => uptoBulk d + 1
  | .map entries => uptoBulkEntries entries + 1
  | .held _ => 1
def uptoBulkAll {H : Type} : List (DataW H) → Nat
  | [] => 0
  | d :: r => uptoBulk d + uptoBulkAll r
def uptoBulkEntries {H : Type} : List (Lit × DataW H) → Nat
  | [] => 0
  | x :: r => uptoBulkEntry x + uptoBulkEntries r
def uptoBulkEntry {H : Type} : Lit × DataW H → Nat
  | (.string bytes, d) => bytes.length + uptoBulk d + 1
  | (_, d) => uptoBulk d + 1
 end
def uptoSmall : (H : Type) → List (DataW H) → Bool := fun _ ds => decide (uptoBulkAll ds ≤ 1048576)
def OpenSpec.upto (s : _root_.Go.ChangeSpec) : _root_.Go.OpenSpec := { _root_.Go.OpenSpec.ofChange s with cond := some uptoSmall }

/-- 'spanlaw4.SpanZero', WHERE WHAT IT READS IS OF BULK AT MOST 1048576: true; the input reads as it did. -/
def spanZeroUptoRow : OpenClaim := { program := "ytfmjndipanlcoaa", sum := "0e16191c480c0a94327a78e0bd2e2bd8b34f9fc4a3fea85886ebd2c01f5b8795", func := "spanmeadow/spanlaw4.SpanZero", spec := "spanZero", unfollowed := true, recurses := true, apart := false, narrowed := true }
def SpanZeroUptoSaid : Prop := spanZeroUptoRow.holds Try.pinned (OpenSpec.upto spanZeroSpec)

/-- 'spanlaw1.PolyHas', WHERE WHAT IT READS IS OF BULK AT MOST 1048576: true; the input reads as it did. -/
def polyHasUptoRow : OpenClaim := { program := "ytfmjndipanlcoaa", sum := "0e16191c480c0a94327a78e0bd2e2bd8b34f9fc4a3fea85886ebd2c01f5b8795", func := "spanmeadow/spanlaw1.PolyHas", spec := "polyHas", unfollowed := true, recurses := true, apart := false, narrowed := true }
def PolyHasUptoSaid : Prop := polyHasUptoRow.holds Try.pinned (OpenSpec.upto polyHasSpec)

/-- 'spanlaw4.PolyFlat', WHERE WHAT IT READS IS OF BULK AT MOST 1048576: true; the input reads as it did. -/
def polyFlatUptoRow : OpenClaim := { program := "ytfmjndipanlcoaa", sum := "0e16191c480c0a94327a78e0bd2e2bd8b34f9fc4a3fea85886ebd2c01f5b8795", func := "spanmeadow/spanlaw4.PolyFlat", spec := "polyFlat", unfollowed := true, recurses := true, apart := false, narrowed := true }
def PolyFlatUptoSaid : Prop := polyFlatUptoRow.holds Try.pinned (OpenSpec.upto polyFlatSpec)

/-- 'spanlaw1.CenterHas', WHERE WHAT IT READS IS OF BULK AT MOST 1048576: true; the input reads as it did. -/
def centerHasUptoRow : OpenClaim := { program := "ytfmjndipanlcoaa", sum := "0e16191c480c0a94327a78e0bd2e2bd8b34f9fc4a3fea85886ebd2c01f5b8795", func := "spanmeadow/spanlaw1.CenterHas", spec := "centerHas", unfollowed := true, recurses := true, apart := false, narrowed := true }
def CenterHasUptoSaid : Prop := centerHasUptoRow.holds Try.pinned (OpenSpec.upto centerHasSpec)

/-- 'spanlaw4.CenterPoint', WHERE WHAT IT READS IS OF BULK AT MOST 1048576: true; the input reads as it did. -/
def centerPointUptoRow : OpenClaim := { program := "ytfmjndipanlcoaa", sum := "0e16191c480c0a94327a78e0bd2e2bd8b34f9fc4a3fea85886ebd2c01f5b8795", func := "spanmeadow/spanlaw4.CenterPoint", spec := "centerPoint", unfollowed := true, recurses := true, apart := false, narrowed := true }
def CenterPointUptoSaid : Prop := centerPointUptoRow.holds Try.pinned (OpenSpec.upto centerPointSpec)

/-- 'spanlaw1.MonoHas', WHERE WHAT IT READS IS OF BULK AT MOST 1048576: true; the input reads as it did. -/
def monoHasUptoRow : OpenClaim := { program := "ytfmjndipanlcoaa", sum := "0e16191c480c0a94327a78e0bd2e2bd8b34f9fc4a3fea85886ebd2c01f5b8795", func := "spanmeadow/spanlaw1.MonoHas", spec := "monoHas", unfollowed := true, recurses := true, apart := false, narrowed := true }
def MonoHasUptoSaid : Prop := monoHasUptoRow.holds Try.pinned (OpenSpec.upto monoHasSpec)

/-- 'spanlaw4.MonoStraight', WHERE WHAT IT READS IS OF BULK AT MOST 1048576: true; the input reads as it did. -/
def monoStraightUptoRow : OpenClaim := { program := "ytfmjndipanlcoaa", sum := "0e16191c480c0a94327a78e0bd2e2bd8b34f9fc4a3fea85886ebd2c01f5b8795", func := "spanmeadow/spanlaw4.MonoStraight", spec := "monoStraight", unfollowed := true, recurses := true, apart := false, narrowed := true }
def MonoStraightUptoSaid : Prop := monoStraightUptoRow.holds Try.pinned (OpenSpec.upto monoStraightSpec)

end Rows
end Go.Proofs.Ytfmjndipanlcoaa
