/-
  What package form answers: termAt, down of what is right, At at every argument.
-/
import Derived.Test.YthgehlonjoafmaaGreatDoorFormR
namespace Go.Proofs.YthgehlonjoafmaaGreatDoor
set_option linter.unusedSimpArgs false
open Go.RowKit

theorem down_code {n d : Int} (hd : 0 < d) : Um.fl n d = if n.tmod d < 0 then n.tdiv d - 1 else n.tdiv d := by
  rw [Um.fl_pos hd]
  split
  · exact (Um.pos_down hd ‹_›).1
  · rcases (by omega : n.tmod d = 0 ∨ 0 < n.tmod d) with h | h
    · exact (Um.pos_zero hd h).1
    · exact (Um.pos_up hd h).1
/-- May each By be in At? -/
def bysB (f : List Um.Tm) : Bool := f.all fun t => Um.litB t.1
theorem bys_yes {f : List Um.Tm} (h : bysB f = true) : Um.bysP f := fun _ hi => Um.lit_iff.1 (List.all_eq_true.1 h _ (Um.tm_mem hi))
theorem bys_no {f : List Um.Tm} (h : bysB f = false) : ¬ Um.bysP f := by
  intro g
  have : bysB f = true := by
    unfold bysB
    rw [List.all_eq_true]
    intro t ht
    obtain ⟨i, hi, rfl⟩ := List.getElem_of_mem ht
    have := g i hi
    unfold Um.tm at this
    rw [List.getElem?_eq_getElem hi] at this
    exact Um.lit_iff.2 this
  rw [h] at this; cases this
theorem nums_all {x : List Int} (h : x.all Um.litB = true) : Um.numsF x = 0 := Um.nums_ok.2 fun _ hi => Um.lit_iff.1 (List.all_eq_true.1 h _ (Um.at_mem hi))
theorem nums_not {x : List Int} (h : x.all Um.litB = false) : Um.numsF x = 1 := by
  rcases Um.nums_fault x with e | e
  · have : x.all Um.litB = true := by
      rw [List.all_eq_true]
      intro c hc
      obtain ⟨j, hj, rfl⟩ := List.getElem_of_mem hc
      have := Um.nums_ok.1 e j hj
      unfold Um.nm at this
      rw [List.getElem?_eq_getElem hj] at this
      exact Um.lit_iff.2 this
    rw [h] at this; cases this
  · exact e
end Go.Proofs.YthgehlonjoafmaaGreatDoor
