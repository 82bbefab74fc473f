/-
  A list of ints of a call's own, as append makes it; spansame.Ints of two that are the same.
-/
import Derived.Test.YtmkdjaafkigemaaMems
import Derived.OwnWalk
import Derived.Maps.AppendAt
import Derived.LoopTactic
namespace Go.Proofs.Ytmkdjaafkigemaa
set_option linter.unusedSimpArgs false
open Go.RowKit

theorem info_int : (Try.prog.info? 3).map (fun i => (i.zero, i.size, i.bytes)) = some (some (.int .i64 0), 1, 8) := by kernel_rfl
theorem li_owns {w : World} {base E : Nat} {v : Value} {q : List Int} (h : w.ownsRow base E 1 v q.length (q.map (Value.int .i64))) : Li w.heap.size w v q := by
  rcases h.2 with ⟨rfl, h0⟩ | ⟨g, cap, cur, rfl, _, hg, hle, _, hsz, hcur⟩
  · have : q = [] := List.length_eq_zero_iff.1 h0
    subst this; exact Li.nil _ _
  · refine Li.new hg fun j hj => ?_
    have e := congrArg (fun l : List Value => l[j]?) hcur
    simp only [Nat.mul_one] at e
    rw [List.getElem?_take_of_lt hj, List.getElem?_map, List.getElem?_eq_getElem hj] at e
    rw [← Array.getElem?_toList, e, List.getElem?_eq_getElem hj]
    rfl

theorem own_from {w : World} {base E size n : Nat} {v : Value} {xs : List Value} (h : w.ownsRow base E size v n xs) : ∀ j, v.ownBlock = some j → base ≤ j := by
  rcases h.2 with ⟨rfl, _⟩ | ⟨g, cap, cur, rfl, hg, _⟩
  · intro j e; cases e
  · intro j e
    have : g = j := by simpa [Value.ownBlock] using e
    omega

end Go.Proofs.Ytmkdjaafkigemaa
