/-
  What the functions of package unit that multiply answer: around, nextTo, Times, at every argument.
-/
import Derived.Test.YthgehlonjoafmaaDoorBase
namespace Go.Proofs.YthgehlonjoafmaaDoor
set_option linter.unusedSimpArgs false
open Go.RowKit

theorem res3_cases (n d : Int) : (Um.nextR n d).2.2 = 0 ∨ (Um.nextR n d).2.2 = 4 := by unfold Um.nextR; split <;> simp

end Go.Proofs.YthgehlonjoafmaaDoor
