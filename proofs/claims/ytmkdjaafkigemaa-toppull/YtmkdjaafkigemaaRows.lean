/-
  No cell of these rows narrows 'for every input' (looked for: loops, veiled, ifaces, maps, wideKeys, modest, calm, conditions, laid).
  DERIVED. THE GIVEN ROWS OF THIS SEAT. 3 by the template 'for every input the law returns true; each argument reads behind the call as it read before'; 0 by the template 'total and deterministic' (their statements: YtmkdjaafkigemaaTotals.lean).
  GIVEN WITH THE SEED: the statements are not yours to turn. If you find one false, say at which input.
  Laid BY PROGRAM, IN A SANDBOX (cutbox-rows.mjs): the forced cells as the released guide's own fill.sh prints them over the translation fee2f90c3e09aa68… (all of the seat's roots in one cut). By AI agents, Wed Nov 11 2026. No macro, syntax, notation, axiom, sorry.
-/
import Derived.Test.YtmkdjaafkigemaaChecked
import GoSem.Claim
import GoSem.ClaimJoined
import GoSem.ClaimMapViews
import Derived.JoinedTies
import Derived.KernelRfl
namespace Go.Proofs.Ytmkdjaafkigemaa
/- THE CELL 'sum', in the pinned program and in every row, IS THE sha256 OF THE DUMP (.gsa) THAT YtmkdjaafkigemaaProg.lean LOADS. Nothing in Lean hashes anything: it is a label: what it is worth is what the hold of that sum in a sandbox is worth. -/
noncomputable def Try.pinned : Pinned := { name := "ytmkdjaafkigemaa", sum := "fee2f90c3e09aa689ecd9a5614bb7471b9ffb6a8b03d2540733df4d81f2efb08", checked := Try.checked }
namespace Rows
def none {H : Type} : Left H := { results := [], args := [] }

/-- 'spanlaw2.NearPulls': WHATEVER THE INPUT: true; the input reads as it did. -/
def nearPullsSpec : ChangeSpec := { name := "nearPulls", fn := fun _ => fun
  | [d1, d2, d3, d4, d5] => { results := [.lit (.bool true)], args := [d1, d2, d3, d4, d5] }
  | _ => none }
def nearPullsRow : OpenClaim := { program := "ytmkdjaafkigemaa", sum := "fee2f90c3e09aa689ecd9a5614bb7471b9ffb6a8b03d2540733df4d81f2efb08", func := "spanmeadow/spanlaw2.NearPulls", spec := "nearPulls", unfollowed := true, recurses := true, apart := false }
def NearPullsSaid : Prop := nearPullsRow.holds Try.pinned (OpenSpec.ofChange nearPullsSpec)

/-- ITS FALSE NEIGHBOUR: 'it returns false'. Refute it at one input. -/
def nearPullsWrong : ChangeSpec := { name := "nearPulls", fn := fun _ => fun
  | [d1, d2, d3, d4, d5] => { results := [.lit (.bool false)], args := [d1, d2, d3, d4, d5] }
  | _ => none }
def NearPullsWrongFalsely : Prop := nearPullsRow.holds Try.pinned (OpenSpec.ofChange nearPullsWrong)

/-- 'spanlaw4.NearNone': WHATEVER THE INPUT: true; the input reads as it did. -/
def nearNoneSpec : ChangeSpec := { name := "nearNone", fn := fun _ => fun
  | [d] => { results := [.lit (.bool true)], args := [d] }
  | _ => none }
def nearNoneRow : OpenClaim := { program := "ytmkdjaafkigemaa", sum := "fee2f90c3e09aa689ecd9a5614bb7471b9ffb6a8b03d2540733df4d81f2efb08", func := "spanmeadow/spanlaw4.NearNone", spec := "nearNone", unfollowed := true, recurses := true, apart := false }
def NearNoneSaid : Prop := nearNoneRow.holds Try.pinned (OpenSpec.ofChange nearNoneSpec)

/-- ITS FALSE NEIGHBOUR: 'it returns false'. Refute it at one input. -/
def nearNoneWrong : ChangeSpec := { name := "nearNone", fn := fun _ => fun
  | [d] => { results := [.lit (.bool false)], args := [d] }
  | _ => none }
def NearNoneWrongFalsely : Prop := nearNoneRow.holds Try.pinned (OpenSpec.ofChange nearNoneWrong)

/-- 'spantop.TopPull': WHATEVER THE INPUT: true; the input reads as it did. -/
def topPullSpec : ChangeSpec := { name := "topPull", fn := fun _ => fun
  | [d1, d2, d3, d4, d5] => { results := [.lit (.bool true)], args := [d1, d2, d3, d4, d5] }
  | _ => none }
def topPullRow : OpenClaim := { program := "ytmkdjaafkigemaa", sum := "fee2f90c3e09aa689ecd9a5614bb7471b9ffb6a8b03d2540733df4d81f2efb08", func := "spanmeadow/spantop.TopPull", spec := "topPull", unfollowed := true, recurses := true, apart := false }
def TopPullSaid : Prop := topPullRow.holds Try.pinned (OpenSpec.ofChange topPullSpec)

/-- ITS FALSE NEIGHBOUR: 'it returns false'. Refute it at one input. -/
def topPullWrong : ChangeSpec := { name := "topPull", fn := fun _ => fun
  | [d1, d2, d3, d4, d5] => { results := [.lit (.bool false)], args := [d1, d2, d3, d4, d5] }
  | _ => none }
def TopPullWrongFalsely : Prop := topPullRow.holds Try.pinned (OpenSpec.ofChange topPullWrong)

/- THE SECOND FORM. 'bulk': how many values and letters a reading holds, each counted each time it is reached (what is shared counts as often as it is met; a slice's spare places count too). A statement '..UptoSaid' is the law's where the arguments, and the package variables that the reading takes, are together of bulk at most 1048576: NARROWER than '..Said'. Prove '..Said' where nothing that the law and all that it calls make is longer than what came in: it says more and counts as full. Else prove '..UptoSaid'. A law counts once. -/
mutual
def uptoBulk {H : Type} : DataW H → Nat
  | .lit (.string bytes) => bytes.length + 1
  | .lit _ => 1
  | .nil => 1
  | .ptr d => uptoBulk d + 1
  | .slice elems spare => uptoBulkAll elems + uptoBulkAll spare + 1
  | .agg parts => uptoBulkAll parts + 1
  | .iface _ d => uptoBulk d + 1
  | .map entries => uptoBulkEntries entries + 1
  | .held _ => 1
def uptoBulkAll {H : Type} : List (DataW H) → Nat
  | [] => 0
  | d :: r => uptoBulk d + uptoBulkAll r
def uptoBulkEntries {H : Type} : List (Lit × DataW H) → Nat
  | [] => 0
  | x :: r => uptoBulkEntry x + uptoBulkEntries r
def uptoBulkEntry {H : Type} : Lit × DataW H → Nat
  | (.string bytes, d) => bytes.length + uptoBulk d + 1
  | (_, d) => uptoBulk d + 1
 end
def uptoSmall : (H : Type) → List (DataW H) → Bool := fun _ ds => decide (uptoBulkAll ds ≤ 1048576)
def OpenSpec.upto (s : _root_.Go.ChangeSpec) : _root_.Go.OpenSpec := { _root_.Go.OpenSpec.ofChange s with cond := some uptoSmall }

/-- 'spanlaw2.NearPulls', WHERE WHAT IT READS IS OF BULK AT MOST 1048576: true; the input reads as it did. -/
def nearPullsUptoRow : OpenClaim := { program := "ytmkdjaafkigemaa", sum := "fee2f90c3e09aa689ecd9a5614bb7471b9ffb6a8b03d2540733df4d81f2efb08", func := "spanmeadow/spanlaw2.NearPulls", spec := "nearPulls", unfollowed := true, recurses := true, apart := false, narrowed := true }
def NearPullsUptoSaid : Prop := nearPullsUptoRow.holds Try.pinned (OpenSpec.upto nearPullsSpec)

/-- 'spanlaw4.NearNone', WHERE WHAT IT READS IS OF BULK AT MOST 1048576: true; the input reads as it did. -/
def nearNoneUptoRow : OpenClaim := { program := "ytmkdjaafkigemaa", sum := "fee2f90c3e09aa689ecd9a5614bb7471b9ffb6a8b03d2540733df4d81f2efb08", func := "spanmeadow/spanlaw4.NearNone", spec := "nearNone", unfollowed := true, recurses := true, apart := false, narrowed := true }
def NearNoneUptoSaid : Prop := nearNoneUptoRow.holds Try.pinned (OpenSpec.upto nearNoneSpec)

/-- 'spantop.TopPull', WHERE WHAT IT READS IS OF BULK AT MOST 1048576: true; the input reads as it did. -/
def topPullUptoRow : OpenClaim := { program := "ytmkdjaafkigemaa", sum := "fee2f90c3e09aa689ecd9a5614bb7471b9ffb6a8b03d2540733df4d81f2efb08", func := "spanmeadow/spantop.TopPull", spec := "topPull", unfollowed := true, recurses := true, apart := false, narrowed := true }
def TopPullUptoSaid : Prop := topPullUptoRow.holds Try.pinned (OpenSpec.upto topPullSpec)

end Rows
end Go.Proofs.Ytmkdjaafkigemaa
