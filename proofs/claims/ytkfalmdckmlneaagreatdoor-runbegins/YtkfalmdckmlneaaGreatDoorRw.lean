/-
  What a session asks of the world: the laid variables of errors, strconv and strings.
-/
import Derived.Test.YtkfalmdckmlneaaGreatDoorPrint
import Derived.Test.YtkfalmdckmlneaaGreatDoorAs
namespace Go.Proofs.YtkfalmdckmlneaaGreatDoor
set_option linter.unusedSimpArgs false
open Go.RowKit

structure Hv (w : World) : Prop where
  err : HasErr w
  pow : HasPow w
  len : HasLen w
theorem Hv.step {w w' : World} (h : Hv w) (hb : Below w.heap.size w w') : Hv w' := ⟨h.err.below hb h.err.size, h.pow.below hb, h.len.below hb h.len.size⟩
theorem Hv.keep {w w' : World} (h : Hv w) (hb : Below w.heap.size w w') : Hv w' := h.step hb
end Go.Proofs.YtkfalmdckmlneaaGreatDoor
