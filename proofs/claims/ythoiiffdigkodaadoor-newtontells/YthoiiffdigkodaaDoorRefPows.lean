/-
  What the document's answer (package spanref1) to polynomials is: Powers at a right polynomial and a right span.
-/
import Derived.Test.YthoiiffdigkodaaDoorRefHorn
import Derived.Test.YthoiiffdigkodaaDoorRefPow
import Derived.Test.YthoiiffdigkodaaDoorPolyP
namespace Go.Proofs.YthoiiffdigkodaaDoor
set_option linter.unusedSimpArgs false
open Go.RowKit

theorem Ri.away {w W : World} {S c : Nat} {lo hi : Int} {s : Int × Int × Int} (h : Ri w W S lo hi s) (h1 : S ≠ c) (h2 : w.heap.size + 1 < c) (x y : Value) : Ri w ((W.setCell ⟨c, 0, none⟩ x).setCell ⟨c, 1, none⟩ y) S lo hi s :=
  ⟨h.ok, (h.sum.other _ _ h1).other _ _ h1, (h.x.other _ _ (by simp only []; omega)).other _ _ (by simp only []; omega), (h.res.other _ _ (by simp only []; omega)).other _ _ (by simp only []; omega), (h.below.setCell (by simp only []; omega) _).setCell (by simp only []; omega) _⟩
theorem pows_is {lo hi : Int} {p : List Int} {k : Nat} (h0 : (Um.powsN lo hi p k).2.2 = 0) (hp : (Um.powR lo hi k).2.2 = 0) :
    Um.powsN lo hi p (k + 1) = if (Um.stimesR (p[k]?.getD 0) (p[k]?.getD 0) (Um.powR lo hi k).1 (Um.powR lo hi k).2.1).2.2 = 0 then Um.addR (Um.powsN lo hi p k).1 (Um.powsN lo hi p k).2.1 (Um.stimesR (p[k]?.getD 0) (p[k]?.getD 0) (Um.powR lo hi k).1 (Um.powR lo hi k).2.1).1 (Um.stimesR (p[k]?.getD 0) (p[k]?.getD 0) (Um.powR lo hi k).1 (Um.powR lo hi k).2.1).2.1 else (0, 0, 4) := by
  rw [Um.pows_succ, List.getD_eq_getElem?_getD]
  unfold Um.pstep
  rw [if_pos h0, if_pos hp]

end Go.Proofs.YthoiiffdigkodaaDoor
