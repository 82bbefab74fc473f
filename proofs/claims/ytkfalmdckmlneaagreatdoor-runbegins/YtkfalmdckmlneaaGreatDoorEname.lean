/-
  What api.Errno's method Error answers: the name of an error.
-/
import Derived.Test.YtkfalmdckmlneaaGreatDoorLx
import Derived.Test.YtkfalmdckmlneaaGreatDoorTexts
namespace Go.Proofs.YtkfalmdckmlneaaGreatDoor
set_option linter.unusedSimpArgs false
open Go.RowKit

set_option maxRecDepth 100000 in
set_option maxHeartbeats 4000000 in
theorem errName_any (k : Int) (w : World) (h1 : 0 ≤ k) (h2 : k ≤ 8) :
    Calls Tryz.prog 70 #[.int .i64 k] w fun e w' => e = .returned (strV (Um.nameR k)) ∧ w' = w := by
  rcases (by omega : k = 0 ∨ k = 1 ∨ k = 2 ∨ k = 3 ∨ k = 4 ∨ k = 5 ∨ k = 6 ∨ k = 7 ∨ k = 8) with rfl | rfl | rfl | rfl | rfl | rfl | rfl | rfl | rfl
  all_goals
    go_enter Tryz.func70, Tryz.ntmps70
    go_wp2
    go_returns
    exact ⟨rfl, rfl⟩
end Go.Proofs.YtkfalmdckmlneaaGreatDoor
