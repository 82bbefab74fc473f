/-
  What package power answers: downward, upward, lowEnd, highEnd, far, Far, Middle, at every argument.
-/
import Derived.Test.YthgehlonjoafmaaDoorTimes
import Derived.Test.YthgehlonjoafmaaDoorSpan
import Derived.Test.YthgehlonjoafmaaDoorMaths
import Derived.LoopTactic
namespace Go.Proofs.YthgehlonjoafmaaDoor
set_option linter.unusedSimpArgs false
open Go.RowKit

theorem ret_ie {a b k l : Int} (h1 : a = b) (h2 : k = l) : Ending.returned (.tuple #[.int .i64 a, errV k]) = .returned (.tuple #[.int .i64 b, errV l]) := by rw [h1, h2]

theorem dw_bound {x : Int} (hx : 0 ≤ x) (hx2 : x ≤ 1000000000) (k : Nat) : 0 ≤ (Um.dwR x k).1 ∧ (Um.dwR x k).1 ≤ 1000000000 := by
  rcases Um.dw_right hx hx2 k with ⟨_, h⟩ | h
  · exact h
  · rw [h]; decide
theorem up_bound {x : Int} (hx : 0 ≤ x) (hx2 : x ≤ 1000000000) (k : Nat) : 0 ≤ (Um.upR x k).1 ∧ (Um.upR x k).1 ≤ 1000000000 := by
  rcases Um.up_right hx hx2 k with ⟨_, h⟩ | h
  · exact h
  · rw [h]; decide

theorem far_lo {lo hi : Int} (h : lo ≤ hi) : (Um.farR lo hi).1 = max 0 (max lo (-hi)) := by
  unfold Um.farR Um.ab
  simp only []
  repeat' split
  all_goals omega
theorem far_hi {lo hi : Int} (h : lo ≤ hi) : (Um.farR lo hi).2 = max (-lo) hi := by
  unfold Um.farR Um.ab
  simp only []
  repeat' split
  all_goals omega
theorem mid_is {lo hi : Int} (h : lo ≤ hi) : lo + (hi - lo).tdiv 2 = Um.midR lo hi := by
  unfold Um.midR
  rw [Um.fl_pos (by decide), Int.tdiv_eq_ediv_of_nonneg (by omega)]
  omega
/-- What Far answers to any span. -/
def farAll (lo hi : Int) : Int × Int × Int := if Um.chk lo hi = 0 then ((Um.farR lo hi).1, (Um.farR lo hi).2, 0) else (0, 0, Um.chk lo hi)
def midAll (lo hi : Int) : Int × Int := if Um.chk lo hi = 0 then (Um.midR lo hi, 0) else (0, Um.chk lo hi)
end Go.Proofs.YthgehlonjoafmaaDoor
