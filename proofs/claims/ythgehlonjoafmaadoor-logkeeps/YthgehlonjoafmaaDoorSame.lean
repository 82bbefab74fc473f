/-
  spansame.Error of an error that is told by its number.
-/
import Derived.Test.YthgehlonjoafmaaDoorUnit
namespace Go.Proofs.YthgehlonjoafmaaDoor
open Go.RowKit
theorem same_any (k n : Int) (w : World) (hg : HasErr w) :
    Calls Tryd.prog 9 #[errV k, .int .i64 n] w fun e w' => e = .returned (.bool (k == n)) ∧ Below w.heap.size w w' := by
  by_cases h : k = 0
  · subst h
    refine (same_nil n w).mono ?_
    rintro e w' ⟨rfl, rfl⟩
    exact ⟨rfl, Below.refl _ _⟩
  · rw [errV_some h]
    exact same_hit k n w hg
end Go.Proofs.YthgehlonjoafmaaDoor
