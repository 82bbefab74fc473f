/-
  No cell of these rows narrows 'for every input' (looked for: loops, veiled, ifaces, maps, wideKeys, modest, calm, conditions, laid).
  DERIVED. THE GIVEN ROWS OF THIS SEAT. 4 by the template 'for every input the law returns true; each argument reads behind the call as it read before'; 0 by the template 'total and deterministic' (their statements: YtlddhapbnlmpiabTotals.lean).
  GIVEN WITH THE SEED: the statements are not yours to turn. If you find one false, say at which input.
  Laid BY PROGRAM, IN A SANDBOX (cutbox-rows.mjs): the forced cells as the released guide's own fill.sh prints them over the translation f36095fe2f195b52… (all of the seat's roots in one cut). By AI agents, Wed Nov 11 2026. No macro, syntax, notation, axiom, sorry.
-/
import Derived.Test.YtlddhapbnlmpiabChecked
import GoSem.Claim
import GoSem.ClaimJoined
import GoSem.ClaimMapViews
import Derived.JoinedTies
import Derived.KernelRfl
namespace Go.Proofs.Ytlddhapbnlmpiab
/- THE CELL 'sum', in the pinned program and in every row, IS THE sha256 OF THE DUMP (.gsa) THAT YtlddhapbnlmpiabProg.lean LOADS. Nothing in Lean hashes anything: it is a label: what it is worth is what the hold of that sum in a sandbox is worth. -/
noncomputable def Try.pinned : Pinned := { name := "ytlddhapbnlmpiab", sum := "f36095fe2f195b5233a7a114ffb60c46a6345bb05db71f46565b40d43baa3dfb", checked := Try.checked }
namespace Rows
def none {H : Type} : Left H := { results := [], args := [] }

/-- 'spanlaw4.SpanZero': WHATEVER THE INPUT: true; the input reads as it did. -/
def spanZeroSpec : ChangeSpec := { name := "spanZero", fn := fun _ => fun
  | [d] => { results := [.lit (.bool true)], args := [d] }
  | _ => none }
def spanZeroRow : OpenClaim := { program := "ytlddhapbnlmpiab", sum := "f36095fe2f195b5233a7a114ffb60c46a6345bb05db71f46565b40d43baa3dfb", func := "spanmeadow/spanlaw4.SpanZero", spec := "spanZero", unfollowed := true, recurses := true, apart := false }
def SpanZeroSaid : Prop := spanZeroRow.holds Try.pinned (OpenSpec.ofChange spanZeroSpec)

/-- ITS FALSE NEIGHBOUR: 'it returns false'. Refute it at one input. -/
def spanZeroWrong : ChangeSpec := { name := "spanZero", fn := fun _ => fun
  | [d] => { results := [.lit (.bool false)], args := [d] }
  | _ => none }
def SpanZeroWrongFalsely : Prop := spanZeroRow.holds Try.pinned (OpenSpec.ofChange spanZeroWrong)

/-- 'spanlaw1.PowerHas': WHATEVER THE INPUT: true; the input reads as it did. -/
def powerHasSpec : ChangeSpec := { name := "powerHas", fn := fun _ => fun
  | [d1, d2, d3] => { results := [.lit (.bool true)], args := [d1, d2, d3] }
  | _ => none }
def powerHasRow : OpenClaim := { program := "ytlddhapbnlmpiab", sum := "f36095fe2f195b5233a7a114ffb60c46a6345bb05db71f46565b40d43baa3dfb", func := "spanmeadow/spanlaw1.PowerHas", spec := "powerHas", apart := false }
def PowerHasSaid : Prop := powerHasRow.holds Try.pinned (OpenSpec.ofChange powerHasSpec)

/-- ITS FALSE NEIGHBOUR: 'it returns false'. Refute it at one input. -/
def powerHasWrong : ChangeSpec := { name := "powerHas", fn := fun _ => fun
  | [d1, d2, d3] => { results := [.lit (.bool false)], args := [d1, d2, d3] }
  | _ => none }
def PowerHasWrongFalsely : Prop := powerHasRow.holds Try.pinned (OpenSpec.ofChange powerHasWrong)

/-- 'spanlaw4.PowerFirst': WHATEVER THE INPUT: true; the input reads as it did. -/
def powerFirstSpec : ChangeSpec := { name := "powerFirst", fn := fun _ => fun
  | [d] => { results := [.lit (.bool true)], args := [d] }
  | _ => none }
def powerFirstRow : OpenClaim := { program := "ytlddhapbnlmpiab", sum := "f36095fe2f195b5233a7a114ffb60c46a6345bb05db71f46565b40d43baa3dfb", func := "spanmeadow/spanlaw4.PowerFirst", spec := "powerFirst", apart := false }
def PowerFirstSaid : Prop := powerFirstRow.holds Try.pinned (OpenSpec.ofChange powerFirstSpec)

/-- ITS FALSE NEIGHBOUR: 'it returns false'. Refute it at one input. -/
def powerFirstWrong : ChangeSpec := { name := "powerFirst", fn := fun _ => fun
  | [d] => { results := [.lit (.bool false)], args := [d] }
  | _ => none }
def PowerFirstWrongFalsely : Prop := powerFirstRow.holds Try.pinned (OpenSpec.ofChange powerFirstWrong)

/-- 'spanlaw1.PolyHas': WHATEVER THE INPUT: true; the input reads as it did. -/
def polyHasSpec : ChangeSpec := { name := "polyHas", fn := fun _ => fun
  | [d1, d2, d3] => { results := [.lit (.bool true)], args := [d1, d2, d3] }
  | _ => none }
def polyHasRow : OpenClaim := { program := "ytlddhapbnlmpiab", sum := "f36095fe2f195b5233a7a114ffb60c46a6345bb05db71f46565b40d43baa3dfb", func := "spanmeadow/spanlaw1.PolyHas", spec := "polyHas", unfollowed := true, recurses := true, apart := false }
def PolyHasSaid : Prop := polyHasRow.holds Try.pinned (OpenSpec.ofChange polyHasSpec)

/-- ITS FALSE NEIGHBOUR: 'it returns false'. Refute it at one input. -/
def polyHasWrong : ChangeSpec := { name := "polyHas", fn := fun _ => fun
  | [d1, d2, d3] => { results := [.lit (.bool false)], args := [d1, d2, d3] }
  | _ => none }
def PolyHasWrongFalsely : Prop := polyHasRow.holds Try.pinned (OpenSpec.ofChange polyHasWrong)

/- THE SECOND FORM. 'bulk': how many values and letters a reading holds, each counted each time it is reached (what is shared counts as often as it is met; a slice's spare places count too). A statement '..UptoSaid' is the law's where the arguments, and the package variables that the reading takes, are together of bulk at most 1048576: NARROWER than '..Said'. Prove '..Said' where nothing that the law and all that it calls make is longer than what came in: it says more and counts as full. Else prove '..UptoSaid'. A law counts once. -/
mutual
def uptoBulk {H : Type} : DataW H → Nat
  | .lit (.string bytes) => bytes.length + 1
  | .lit _ => 1
  | .nil => 1
  | .ptr d => uptoBulk d + 1
  | .slice elems spare => uptoBulkAll elems + uptoBulkAll spare + 1
  | .agg parts => uptoBulkAll parts + 1
  | .iface _ d => uptoBulk d + 1
  | .map entries => uptoBulkEntries entries + 1
  | .held _ => 1
def uptoBulkAll {H : Type} : List (DataW H) → Nat
  | [] => 0
  | d :: r => uptoBulk d + uptoBulkAll r
def uptoBulkEntries {H : Type} : List (Lit × DataW H) → Nat
  | [] => 0
  | x :: r => uptoBulkEntry x + uptoBulkEntries r
def uptoBulkEntry {H : Type} : Lit × DataW H → Nat
  | (.string bytes, d) => bytes.length + uptoBulk d + 1
  | (_, d) => uptoBulk d + 1
 end
def uptoSmall : (H : Type) → List (DataW H) → Bool := fun _ ds => decide (uptoBulkAll ds ≤ 1048576)
def OpenSpec.upto (s : _root_.Go.ChangeSpec) : _root_.Go.OpenSpec := { _root_.Go.OpenSpec.ofChange s with cond := some uptoSmall }

/-- 'spanlaw4.SpanZero', WHERE WHAT IT READS IS OF BULK AT MOST 1048576: true; the input reads as it did. -/
def spanZeroUptoRow : OpenClaim := { program := "ytlddhapbnlmpiab", sum := "f36095fe2f195b5233a7a114ffb60c46a6345bb05db71f46565b40d43baa3dfb", func := "spanmeadow/spanlaw4.SpanZero", spec := "spanZero", unfollowed := true, recurses := true, apart := false, narrowed := true }
def SpanZeroUptoSaid : Prop := spanZeroUptoRow.holds Try.pinned (OpenSpec.upto spanZeroSpec)

/-- 'spanlaw1.PowerHas', WHERE WHAT IT READS IS OF BULK AT MOST 1048576: true; the input reads as it did. -/
def powerHasUptoRow : OpenClaim := { program := "ytlddhapbnlmpiab", sum := "f36095fe2f195b5233a7a114ffb60c46a6345bb05db71f46565b40d43baa3dfb", func := "spanmeadow/spanlaw1.PowerHas", spec := "powerHas", apart := false, narrowed := true }
def PowerHasUptoSaid : Prop := powerHasUptoRow.holds Try.pinned (OpenSpec.upto powerHasSpec)

/-- 'spanlaw4.PowerFirst', WHERE WHAT IT READS IS OF BULK AT MOST 1048576: true; the input reads as it did. -/
def powerFirstUptoRow : OpenClaim := { program := "ytlddhapbnlmpiab", sum := "f36095fe2f195b5233a7a114ffb60c46a6345bb05db71f46565b40d43baa3dfb", func := "spanmeadow/spanlaw4.PowerFirst", spec := "powerFirst", apart := false, narrowed := true }
def PowerFirstUptoSaid : Prop := powerFirstUptoRow.holds Try.pinned (OpenSpec.upto powerFirstSpec)

/-- 'spanlaw1.PolyHas', WHERE WHAT IT READS IS OF BULK AT MOST 1048576: true; the input reads as it did. -/
def polyHasUptoRow : OpenClaim := { program := "ytlddhapbnlmpiab", sum := "f36095fe2f195b5233a7a114ffb60c46a6345bb05db71f46565b40d43baa3dfb", func := "spanmeadow/spanlaw1.PolyHas", spec := "polyHas", unfollowed := true, recurses := true, apart := false, narrowed := true }
def PolyHasUptoSaid : Prop := polyHasUptoRow.holds Try.pinned (OpenSpec.upto polyHasSpec)

end Rows
end Go.Proofs.Ytlddhapbnlmpiab
