/-
  What is carried along a law's walk.
-/
import Derived.Test.YthgehlonjoafmaaDoorAs
import Derived.Test.YthgehlonjoafmaaDoorTimes
namespace Go.Proofs.YthgehlonjoafmaaDoor
set_option linter.unusedSimpArgs false
open Go.RowKit

/-- What is carried along a law's walk: of what was there when it began nothing has turned; errors.errorType is as laid. -/
structure Inv (w0 w : World) : Prop where
  below : Below w0.heap.size w0 w
  err : HasErr w
theorem Inv.start {w : World} (h : HasErr w) : Inv w w := ⟨Below.refl _ _, h⟩
theorem Inv.step {w0 w w' : World} (h : Inv w0 w) (k : Below w.heap.size w w') : Inv w0 w' := ⟨h.below.trans (k.mono h.below.size), h.err.below k h.err.size⟩
end Go.Proofs.YthgehlonjoafmaaDoor
