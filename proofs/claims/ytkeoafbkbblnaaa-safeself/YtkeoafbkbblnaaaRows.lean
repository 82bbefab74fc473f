/-
  No cell of these rows narrows 'for every input' (looked for: loops, veiled, ifaces, maps, wideKeys, modest, calm, conditions, laid).
  DERIVED. THE GIVEN ROWS OF THIS SEAT. 6 by the template 'for every input the law returns true; each argument reads behind the call as it read before'; 0 by the template 'total and deterministic' (their statements: YtkeoafbkbblnaaaTotals.lean).
  GIVEN WITH THE SEED: the statements are not yours to turn. If you find one false, say at which input.
  Laid BY PROGRAM, IN A SANDBOX (cutbox-rows.mjs): the forced cells as the released guide's own fill.sh prints them over the translation 2eb5b308c0983b71… (all of the seat's roots in one cut). By AI agents, Wed Nov 11 2026. No macro, syntax, notation, axiom, sorry.
-/
import Derived.Test.YtkeoafbkbblnaaaChecked
import GoSem.Claim
import GoSem.ClaimJoined
import GoSem.ClaimMapViews
import Derived.JoinedTies
import Derived.KernelRfl
namespace Go.Proofs.Ytkeoafbkbblnaaa
/- THE CELL 'sum', in the pinned program and in every row, IS THE sha256 OF THE DUMP (.gsa) THAT YtkeoafbkbblnaaaProg.lean LOADS. Nothing in Lean hashes anything: it is a label: what it is worth is what the hold of that sum in a sandbox is worth. -/
noncomputable def Try.pinned : Pinned := { name := "ytkeoafbkbblnaaa", sum := "2eb5b308c0983b7148819ec7a2e6ccc37ed54752d1b30b56f9b61469c3fdd3b0", checked := Try.checked }
namespace Rows
def none {H : Type} : Left H := { results := [], args := [] }

/-- 'spanlaw2.CoverHas': WHATEVER THE INPUT: true; the input reads as it did. -/
def coverHasSpec : ChangeSpec := { name := "coverHas", fn := fun _ => fun
  | [d1, d2, d3, d4, d5] => { results := [.lit (.bool true)], args := [d1, d2, d3, d4, d5] }
  | _ => none }
def coverHasRow : OpenClaim := { program := "ytkeoafbkbblnaaa", sum := "2eb5b308c0983b7148819ec7a2e6ccc37ed54752d1b30b56f9b61469c3fdd3b0", func := "spanmeadow/spanlaw2.CoverHas", spec := "coverHas", unfollowed := true, recurses := true, apart := false }
def CoverHasSaid : Prop := coverHasRow.holds Try.pinned (OpenSpec.ofChange coverHasSpec)

/-- ITS FALSE NEIGHBOUR: 'it returns false'. Refute it at one input. -/
def coverHasWrong : ChangeSpec := { name := "coverHas", fn := fun _ => fun
  | [d1, d2, d3, d4, d5] => { results := [.lit (.bool false)], args := [d1, d2, d3, d4, d5] }
  | _ => none }
def CoverHasWrongFalsely : Prop := coverHasRow.holds Try.pinned (OpenSpec.ofChange coverHasWrong)

/-- 'spanlaw4.CoverNone': WHATEVER THE INPUT: true; the input reads as it did. -/
def coverNoneSpec : ChangeSpec := { name := "coverNone", fn := fun _ => fun
  | [d1, d2] => { results := [.lit (.bool true)], args := [d1, d2] }
  | _ => none }
def coverNoneRow : OpenClaim := { program := "ytkeoafbkbblnaaa", sum := "2eb5b308c0983b7148819ec7a2e6ccc37ed54752d1b30b56f9b61469c3fdd3b0", func := "spanmeadow/spanlaw4.CoverNone", spec := "coverNone", unfollowed := true, recurses := true, apart := false }
def CoverNoneSaid : Prop := coverNoneRow.holds Try.pinned (OpenSpec.ofChange coverNoneSpec)

/-- ITS FALSE NEIGHBOUR: 'it returns false'. Refute it at one input. -/
def coverNoneWrong : ChangeSpec := { name := "coverNone", fn := fun _ => fun
  | [d1, d2] => { results := [.lit (.bool false)], args := [d1, d2] }
  | _ => none }
def CoverNoneWrongFalsely : Prop := coverNoneRow.holds Try.pinned (OpenSpec.ofChange coverNoneWrong)

/-- 'spanlaw2.HoldStays': WHATEVER THE INPUT: true; the input reads as it did. -/
def holdStaysSpec : ChangeSpec := { name := "holdStays", fn := fun _ => fun
  | [d1, d2, d3, d4, d5] => { results := [.lit (.bool true)], args := [d1, d2, d3, d4, d5] }
  | _ => none }
def holdStaysRow : OpenClaim := { program := "ytkeoafbkbblnaaa", sum := "2eb5b308c0983b7148819ec7a2e6ccc37ed54752d1b30b56f9b61469c3fdd3b0", func := "spanmeadow/spanlaw2.HoldStays", spec := "holdStays", unfollowed := true, recurses := true, apart := false }
def HoldStaysSaid : Prop := holdStaysRow.holds Try.pinned (OpenSpec.ofChange holdStaysSpec)

/-- ITS FALSE NEIGHBOUR: 'it returns false'. Refute it at one input. -/
def holdStaysWrong : ChangeSpec := { name := "holdStays", fn := fun _ => fun
  | [d1, d2, d3, d4, d5] => { results := [.lit (.bool false)], args := [d1, d2, d3, d4, d5] }
  | _ => none }
def HoldStaysWrongFalsely : Prop := holdStaysRow.holds Try.pinned (OpenSpec.ofChange holdStaysWrong)

/-- 'spanlaw4.HoldNone': WHATEVER THE INPUT: true; the input reads as it did. -/
def holdNoneSpec : ChangeSpec := { name := "holdNone", fn := fun _ => fun
  | [d1, d2] => { results := [.lit (.bool true)], args := [d1, d2] }
  | _ => none }
def holdNoneRow : OpenClaim := { program := "ytkeoafbkbblnaaa", sum := "2eb5b308c0983b7148819ec7a2e6ccc37ed54752d1b30b56f9b61469c3fdd3b0", func := "spanmeadow/spanlaw4.HoldNone", spec := "holdNone", unfollowed := true, recurses := true, apart := false }
def HoldNoneSaid : Prop := holdNoneRow.holds Try.pinned (OpenSpec.ofChange holdNoneSpec)

/-- ITS FALSE NEIGHBOUR: 'it returns false'. Refute it at one input. -/
def holdNoneWrong : ChangeSpec := { name := "holdNone", fn := fun _ => fun
  | [d1, d2] => { results := [.lit (.bool false)], args := [d1, d2] }
  | _ => none }
def HoldNoneWrongFalsely : Prop := holdNoneRow.holds Try.pinned (OpenSpec.ofChange holdNoneWrong)

/-- 'spanlaw4.SafeSelf': WHATEVER THE INPUT: true; the input reads as it did. -/
def safeSelfSpec : ChangeSpec := { name := "safeSelf", fn := fun _ => fun
  | [d1, d2, d3] => { results := [.lit (.bool true)], args := [d1, d2, d3] }
  | _ => none }
def safeSelfRow : OpenClaim := { program := "ytkeoafbkbblnaaa", sum := "2eb5b308c0983b7148819ec7a2e6ccc37ed54752d1b30b56f9b61469c3fdd3b0", func := "spanmeadow/spanlaw4.SafeSelf", spec := "safeSelf", unfollowed := true, recurses := true, apart := false }
def SafeSelfSaid : Prop := safeSelfRow.holds Try.pinned (OpenSpec.ofChange safeSelfSpec)

/-- ITS FALSE NEIGHBOUR: 'it returns false'. Refute it at one input. -/
def safeSelfWrong : ChangeSpec := { name := "safeSelf", fn := fun _ => fun
  | [d1, d2, d3] => { results := [.lit (.bool false)], args := [d1, d2, d3] }
  | _ => none }
def SafeSelfWrongFalsely : Prop := safeSelfRow.holds Try.pinned (OpenSpec.ofChange safeSelfWrong)

/-- 'spantop.TopTube': WHATEVER THE INPUT: true; the input reads as it did. -/
def topTubeSpec : ChangeSpec := { name := "topTube", fn := fun _ => fun
  | [d1, d2, d3, d4, d5, d6] => { results := [.lit (.bool true)], args := [d1, d2, d3, d4, d5, d6] }
  | _ => none }
def topTubeRow : OpenClaim := { program := "ytkeoafbkbblnaaa", sum := "2eb5b308c0983b7148819ec7a2e6ccc37ed54752d1b30b56f9b61469c3fdd3b0", func := "spanmeadow/spantop.TopTube", spec := "topTube", unfollowed := true, recurses := true, apart := false }
def TopTubeSaid : Prop := topTubeRow.holds Try.pinned (OpenSpec.ofChange topTubeSpec)

/-- ITS FALSE NEIGHBOUR: 'it returns false'. Refute it at one input. -/
def topTubeWrong : ChangeSpec := { name := "topTube", fn := fun _ => fun
  | [d1, d2, d3, d4, d5, d6] => { results := [.lit (.bool false)], args := [d1, d2, d3, d4, d5, d6] }
  | _ => none }
def TopTubeWrongFalsely : Prop := topTubeRow.holds Try.pinned (OpenSpec.ofChange topTubeWrong)

/- THE SECOND FORM. 'bulk': how many values and letters a reading holds, each counted each time it is reached (what is shared counts as often as it is met; a slice's spare places count too). A statement '..UptoSaid' is the law's where the arguments, and the package variables that the reading takes, are together of bulk at most 1048576: NARROWER than '..Said'. Prove '..Said' where nothing that the law and all that it calls make is longer than what came in: it says more and counts as full. Else prove '..UptoSaid'. A law counts once. -/
mutual
def uptoBulk {H : Type} : DataW H → Nat
  | .lit (.string bytes) => bytes.length + 1
  | .lit _ => 1
  | .nil => 1
  | .ptr d => uptoBulk d + 1
  | .slice elems spare => uptoBulkAll elems + uptoBulkAll spare + 1
  | .agg parts => uptoBulkAll parts + 1
  | .iface _ d => uptoBulk d + 1
  | .map entries => uptoBulkEntries entries + 1
  | .held _ => 1
def uptoBulkAll {H : Type} : List (DataW H) → Nat
  | [] => 0
  | d :: r => uptoBulk d + uptoBulkAll r
def uptoBulkEntries {H : Type} : List (Lit × DataW H) → Nat
  | [] => 0
  | x :: r => uptoBulkEntry x + uptoBulkEntries r
def uptoBulkEntry {H : Type} : Lit × DataW H → Nat
  | (.string bytes, d) => bytes.length + uptoBulk d + 1
  | (_, d) => uptoBulk d + 1
 end
def uptoSmall : (H : Type) → List (DataW H) → Bool := fun _ ds => decide (uptoBulkAll ds ≤ 1048576)
def OpenSpec.upto (s : _root_.Go.ChangeSpec) : _root_.Go.OpenSpec := { _root_.Go.OpenSpec.ofChange s with cond := some uptoSmall }

/-- 'spanlaw2.CoverHas', WHERE WHAT IT READS IS OF BULK AT MOST 1048576: true; the input reads as it did. -/
def coverHasUptoRow : OpenClaim := { program := "ytkeoafbkbblnaaa", sum := "2eb5b308c0983b7148819ec7a2e6ccc37ed54752d1b30b56f9b61469c3fdd3b0", func := "spanmeadow/spanlaw2.CoverHas", spec := "coverHas", unfollowed := true, recurses := true, apart := false, narrowed := true }
def CoverHasUptoSaid : Prop := coverHasUptoRow.holds Try.pinned (OpenSpec.upto coverHasSpec)

/-- 'spanlaw4.CoverNone', WHERE WHAT IT READS IS OF BULK AT MOST 1048576: true; the input reads as it did. -/
def coverNoneUptoRow : OpenClaim := { program := "ytkeoafbkbblnaaa", sum := "2eb5b308c0983b7148819ec7a2e6ccc37ed54752d1b30b56f9b61469c3fdd3b0", func := "spanmeadow/spanlaw4.CoverNone", spec := "coverNone", unfollowed := true, recurses := true, apart := false, narrowed := true }
def CoverNoneUptoSaid : Prop := coverNoneUptoRow.holds Try.pinned (OpenSpec.upto coverNoneSpec)

/-- 'spanlaw2.HoldStays', WHERE WHAT IT READS IS OF BULK AT MOST 1048576: true; the input reads as it did. -/
def holdStaysUptoRow : OpenClaim := { program := "ytkeoafbkbblnaaa", sum := "2eb5b308c0983b7148819ec7a2e6ccc37ed54752d1b30b56f9b61469c3fdd3b0", func := "spanmeadow/spanlaw2.HoldStays", spec := "holdStays", unfollowed := true, recurses := true, apart := false, narrowed := true }
def HoldStaysUptoSaid : Prop := holdStaysUptoRow.holds Try.pinned (OpenSpec.upto holdStaysSpec)

/-- 'spanlaw4.HoldNone', WHERE WHAT IT READS IS OF BULK AT MOST 1048576: true; the input reads as it did. -/
def holdNoneUptoRow : OpenClaim := { program := "ytkeoafbkbblnaaa", sum := "2eb5b308c0983b7148819ec7a2e6ccc37ed54752d1b30b56f9b61469c3fdd3b0", func := "spanmeadow/spanlaw4.HoldNone", spec := "holdNone", unfollowed := true, recurses := true, apart := false, narrowed := true }
def HoldNoneUptoSaid : Prop := holdNoneUptoRow.holds Try.pinned (OpenSpec.upto holdNoneSpec)

/-- 'spanlaw4.SafeSelf', WHERE WHAT IT READS IS OF BULK AT MOST 1048576: true; the input reads as it did. -/
def safeSelfUptoRow : OpenClaim := { program := "ytkeoafbkbblnaaa", sum := "2eb5b308c0983b7148819ec7a2e6ccc37ed54752d1b30b56f9b61469c3fdd3b0", func := "spanmeadow/spanlaw4.SafeSelf", spec := "safeSelf", unfollowed := true, recurses := true, apart := false, narrowed := true }
def SafeSelfUptoSaid : Prop := safeSelfUptoRow.holds Try.pinned (OpenSpec.upto safeSelfSpec)

/-- 'spantop.TopTube', WHERE WHAT IT READS IS OF BULK AT MOST 1048576: true; the input reads as it did. -/
def topTubeUptoRow : OpenClaim := { program := "ytkeoafbkbblnaaa", sum := "2eb5b308c0983b7148819ec7a2e6ccc37ed54752d1b30b56f9b61469c3fdd3b0", func := "spanmeadow/spantop.TopTube", spec := "topTube", unfollowed := true, recurses := true, apart := false, narrowed := true }
def TopTubeUptoSaid : Prop := topTubeUptoRow.holds Try.pinned (OpenSpec.upto topTubeSpec)

end Rows
end Go.Proofs.Ytkeoafbkbblnaaa
