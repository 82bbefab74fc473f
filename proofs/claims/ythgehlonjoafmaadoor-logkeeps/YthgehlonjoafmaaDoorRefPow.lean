/-
  What the document's answer (package spanref1) to powers is: again, Far, Middle, Power at right spans.
-/
import Derived.Test.YthgehlonjoafmaaDoorRef
import Derived.Test.YthgehlonjoafmaaDoorMaths
import Derived.LoopTactic
namespace Go.Proofs.YthgehlonjoafmaaDoor
set_option linter.unusedSimpArgs false
open Go.RowKit

theorem ag_go {n : Int} {k : Nat} (h : (Um.agR n k).2.2 = 0) (h2 : Um.may (Um.ce ((Um.agR n k).2.1 * n) 1000) = true) : Um.agR n (k + 1) = (Um.fl ((Um.agR n k).1 * n) 1000, Um.ce ((Um.agR n k).2.1 * n) 1000, 0) := by
  rw [Um.ag_succ, if_pos h, if_pos h2]
theorem ag_stay {n : Int} {k : Nat} (h : ¬ (Um.agR n k).2.2 = 0) : ∀ m, Um.agR n (k + m) = (0, 0, 4)
  | 0 => (Um.ag_fault n k).resolve_left h
  | m + 1 => by
    have i := ag_stay h m
    show Um.agR n (k + m + 1) = _
    rw [Um.ag_succ, i]; rfl
theorem ag_stop {n : Int} {k m : Nat} (hk : k < m) (h : (Um.agR n k).2.2 = 0) (h2 : Um.may (Um.ce ((Um.agR n k).2.1 * n) 1000) = false) : Um.agR n m = (0, 0, 4) := by
  have e : Um.agR n (k + 1) = (0, 0, 4) := by rw [Um.ag_succ, if_pos h, if_neg (by rw [h2]; decide)]
  obtain ⟨j, rfl⟩ : ∃ j, m = k + 1 + j := ⟨m - (k + 1), by omega⟩
  exact ag_stay (by rw [e]; decide) j
theorem ag_bound {n : Int} (hn : 0 ≤ n) (k : Nat) : 0 ≤ (Um.agR n k).1 ∧ (Um.agR n k).1 ≤ 1000000000 ∧ 0 ≤ (Um.agR n k).2.1 ∧ (Um.agR n k).2.1 ≤ 1000000000 := by
  by_cases h : (Um.agR n k).2.2 = 0
  · have := Um.ag_right hn k h
    omega
  · rw [(Um.ag_fault n k).resolve_left h]; decide

theorem rfar_lo {lo hi : Int} (h : lo ≤ hi) : (Um.farR lo hi).1 = max 0 (max lo (-hi)) := by
  unfold Um.farR Um.ab
  simp only []
  repeat' split
  all_goals omega
theorem rfar_hi {lo hi : Int} (h : lo ≤ hi) : (Um.farR lo hi).2 = max (-lo) hi := by
  unfold Um.farR Um.ab
  simp only []
  repeat' split
  all_goals omega
end Go.Proofs.YthgehlonjoafmaaDoor
