/-
  What package span's ofEnds answers with unit.Times, and with unit.By: the first error of the four pairs of ends, or the least lower one and the greatest upper one.
-/
import Derived.Test.YthgehlonjoafmaaGreatDoorTimes
import Derived.Test.YthgehlonjoafmaaGreatDoorSpan
namespace Go.Proofs.YthgehlonjoafmaaGreatDoor
set_option linter.unusedSimpArgs false
open Go.RowKit

theorem next_res (n d : Int) : (∃ k, ¬ k = 0 ∧ Um.nextR n d = (0, 0, k)) ∨ (∃ l h, Um.nextR n d = (l, h, 0) ∧ Um.may l = true ∧ Um.may h = true) := by
  by_cases h2 : Um.may (Um.fl n d) = true ∧ Um.may (Um.ce n d) = true
  · exact .inr ⟨_, _, Um.next_yes h2.1 h2.2, h2.1, h2.2⟩
  · exact .inl ⟨4, by decide, Um.next_no h2⟩
theorem times_res (a b : Int) : (∃ k, ¬ k = 0 ∧ Um.timesR a b = (0, 0, k)) ∨ (∃ l h, Um.timesR a b = (l, h, 0) ∧ Um.may l = true ∧ Um.may h = true) := by
  unfold Um.timesR
  by_cases h : Um.may a = true ∧ Um.may b = true
  · rw [if_pos h]; exact next_res _ _
  · rw [if_neg h]; exact .inl ⟨1, by decide, rfl⟩
theorem by_res (a b : Int) : (∃ k, ¬ k = 0 ∧ Um.byR a b = (0, 0, k)) ∨ (∃ l h, Um.byR a b = (l, h, 0) ∧ Um.may l = true ∧ Um.may h = true) := by
  unfold Um.byR
  by_cases h : Um.may a = true ∧ Um.may b = true
  · rw [if_pos h]
    by_cases hb : b = 0
    · rw [if_pos hb]; exact .inl ⟨8, by decide, rfl⟩
    · rw [if_neg hb]; exact next_res _ _
  · rw [if_neg h]; exact .inl ⟨1, by decide, rfl⟩
theorem ret_s2 {a b a' b' : Int} {v : Value} (h1 : a = a') (h2 : b = b') : Ending.returned (.tuple #[.agg #[.int .i64 a, .int .i64 b], v]) = .returned (.tuple #[.agg #[.int .i64 a', .int .i64 b'], v]) := by rw [h1, h2]
theorem ix0 (a b : Int) (w : World) : (Instr.index 144 (.agg #[.int .i64 a, .int .i64 b]) (.int .i64 0)).run Tryz.prog w = .ok (.int .i64 a) w := by kernel_rfl
theorem ix1 (a b : Int) (w : World) : (Instr.index 144 (.agg #[.int .i64 a, .int .i64 b]) (.int .i64 1)).run Tryz.prog w = .ok (.int .i64 b) w := by kernel_rfl
theorem drewN_alloc (w : World) (o : Obj) (n : Nat) : (w.alloc o).drewN n = (w.drewN n).alloc o := rfl
theorem wspans {W : World} {T : TypeId} {a b c d : Int} (h1 : a = c) (h2 : b = d) : W.alloc (.cells #[.int .i64 a, .int .i64 b] T) = W.alloc (.cells #[.int .i64 c, .int .i64 d] T) := by rw [h1, h2]
end Go.Proofs.YthgehlonjoafmaaGreatDoor
