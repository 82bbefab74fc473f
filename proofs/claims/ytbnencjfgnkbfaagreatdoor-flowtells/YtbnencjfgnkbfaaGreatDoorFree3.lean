/-
  A statement that leaves its order open, with a call whose answer lies in new memory: what hangs on it has not come ahead of it.
-/
import Derived.Test.YtbnencjfgnkbfaaGreatDoorMems
namespace Go.Free
/-- What hangs on an operation that has not come has not come. -/
theorem never {listed : Array Bool} {i j : Nat} {p : Prop} (h : listed.getD j false = true → listed.getD i false = true) (hn : listed.getD i true = false) (hne : i ≠ j) (e : (listed.setIfInBounds i true).getD j false = true) : p := by
  have q := h (back hne e)
  rw [off hn] at q; cases q
end Go.Free
