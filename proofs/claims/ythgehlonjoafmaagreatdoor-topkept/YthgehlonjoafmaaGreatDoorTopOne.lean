/-
  What 'spantop.one' answers: of a line one step is enough.
-/
import Derived.Test.YthgehlonjoafmaaGreatDoorNewton
namespace Go.Proofs.YthgehlonjoafmaaGreatDoor
set_option linter.unusedSimpArgs false
open Go.RowKit

theorem one_fact : Um.newtAll [-3000, 1000] 0 9000 = (3000, 3000, 0) := by decide +kernel

set_option maxRecDepth 100000 in
set_option maxHeartbeats 8000000 in
theorem one_any  (w : World)  :
    Calls Tryz.prog 4 #[] w fun e w' => e = .returned (.bool true) ∧ Below w.heap.size w w' := by
  have v0 := errV_none
  have q1 := errG
  have q2 := errGn
  have q3 := errE
  have q4 := errN
  have HF0 := fun v w hl => hid (step_any [-3000, 1000] v 0 9000 w hl)
  rw [one_fact] at HF0
  have hF := Fr.start w
  go_enter Tryz.func4, Tryz.ntmps4
  go_wp2_with (first | (go_at_call 18; refine (HF0 _ _ (Li.lit (p := [-3000, 1000]) (by simp) two_cells)).out.mono ?_; rintro e wn ⟨rfl, hb⟩; replace hF := (hF.alloc _).step hb; clear hb; clear HF0; replace hF := hF.push 3000 3000 rfl; have x0l := (hF.at 0 rfl).lo; have x0h := (hF.at 0 rfl).hi))
  go_returns
  exact ⟨rfl, hF.below⟩

end Go.Proofs.YthgehlonjoafmaaGreatDoor
