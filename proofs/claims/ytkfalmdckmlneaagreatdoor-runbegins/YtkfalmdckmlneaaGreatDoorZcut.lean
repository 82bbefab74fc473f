/-
  Plain lists of bytes, no program: strings.Cut at one byte, and the pieces of a text.
-/
import Derived.Test.YtkfalmdckmlneaaGreatDoorTexts
namespace Um
set_option linter.unusedSimpArgs false
open Go

theorem index_byte {c : UInt8} (b : List UInt8) : ∀ (a : List UInt8), (∀ x ∈ a, x ≠ c) → Lib.index (a ++ c :: b) [c] = a.length
  | [], _ => by simp [Lib.index]
  | x :: a, h => by
    have i := index_byte b a (fun y hy => h y (List.mem_cons_of_mem _ hy))
    have hx : ¬ c = x := fun e => h x (List.mem_cons_self ..) e.symm
    have hp : ([c] : List UInt8).isPrefixOf (x :: (a ++ c :: b)) = false := by simp [List.isPrefixOf, hx]
    simp only [List.cons_append, Lib.index, hp]
    rw [i]
    simp
theorem index_none {c : UInt8} : ∀ (l : List UInt8), (∀ x ∈ l, x ≠ c) → Lib.index l [c] = -1
  | [], _ => by simp [Lib.index]
  | x :: a, h => by
    have i := index_none a (fun y hy => h y (List.mem_cons_of_mem _ hy))
    have hx : ¬ c = x := fun e => h x (List.mem_cons_self ..) e.symm
    have hp : ([c] : List UInt8).isPrefixOf (x :: a) = false := by simp [List.isPrefixOf, hx]
    simp only [Lib.index, hp]
    rw [i]
    simp
theorem cut_byte {c : UInt8} {a : List UInt8} (h : ∀ x ∈ a, x ≠ c) (b : List UInt8) : Lib.cut (a ++ c :: b) [c] = (a, b, true) := by
  unfold Lib.cut
  rw [index_byte b a h, if_pos (by omega)]
  simp
theorem cut_nobyte {c : UInt8} {l : List UInt8} (h : ∀ x ∈ l, x ≠ c) : Lib.cut l [c] = (l, [], false) := by
  unfold Lib.cut
  rw [index_none l h, if_neg (by decide)]
/-- A text has the byte, or it has not. -/
theorem split_byte (c : UInt8) : ∀ (l : List UInt8), (∀ x ∈ l, x ≠ c) ∨ ∃ a b, l = a ++ c :: b ∧ ∀ x ∈ a, x ≠ c
  | [] => .inl (fun x hx => (by cases hx))
  | x :: l => by
    by_cases h : x = c
    · exact .inr ⟨[], l, by rw [h]; rfl, fun y hy => (by cases hy)⟩
    · rcases split_byte c l with i | ⟨a, b, e, ha⟩
      · exact .inl (fun y hy => by
          rcases List.mem_cons.1 hy with rfl | hy
          · exact h
          · exact i y hy)
      · exact .inr ⟨x :: a, b, by rw [e]; rfl, fun y hy => by
          rcases List.mem_cons.1 hy with rfl | hy
          · exact h
          · exact ha y hy⟩
/-- The lines of a text: the first one, and the rest. -/
theorem lines_nil : linesR [] = [] := rfl
theorem lines_cons {a : List UInt8} (h : ∀ x ∈ a, x ≠ 10) (b : List UInt8) : linesR (a ++ 10 :: b) = a :: linesR b := by
  unfold linesR
  rw [cutS_cons h]
  rfl
theorem lines_one {a : List UInt8} (h : ∀ x ∈ a, x ≠ 10) (h0 : a ≠ []) : linesR a = [a] := by
  have e : cutS 10 a = ([], a) := by unfold cutS; rw [cut_none a [] h]; rfl
  unfold linesR
  rw [e, if_neg h0]
  rfl
end Um
