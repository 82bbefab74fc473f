/-
  What the document's answer (package spanref1) to which side of a right box is the widest is: Widest.
-/
import Derived.Test.YthgehlonjoafmaaDoorRefBoxC
namespace Go.Proofs.YthgehlonjoafmaaDoor
set_option linter.unusedSimpArgs false
open Go.RowKit

end Go.Proofs.YthgehlonjoafmaaDoor
