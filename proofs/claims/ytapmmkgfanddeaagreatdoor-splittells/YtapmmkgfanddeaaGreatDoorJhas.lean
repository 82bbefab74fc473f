/-
  Plain arithmetic of what pieces have, no program.
-/
import Derived.Test.YtapmmkgfanddeaaGreatDoorJsp
namespace Um
set_option linter.unusedSimpArgs false
theorem cuts_get {lo hi many : Int} {k i : Nat} (h : i < k) : (cuts lo hi many k)[i]? = some (cutR lo hi many i, cutR lo hi many (i + 1)) := by
  unfold cuts; simp [h]
/-- Has one of the first k pieces the number? -/
def hasR (lo hi many n : Int) : Nat → Bool
  | 0 => false
  | k + 1 => hasR lo hi many n k || (decide (cutR lo hi many k ≤ n) && decide (n ≤ cutR lo hi many (k + 1)))
theorem has_succ (lo hi many n : Int) (k : Nat) : hasR lo hi many n (k + 1) = (hasR lo hi many n k || (decide (cutR lo hi many k ≤ n) && decide (n ≤ cutR lo hi many (k + 1)))) := rfl
theorem has_iff (lo hi many n : Int) : ∀ k : Nat, hasR lo hi many n k = true ↔ ∃ i, i < k ∧ cutR lo hi many i ≤ n ∧ n ≤ cutR lo hi many (i + 1)
  | 0 => ⟨fun e => Bool.noConfusion e, fun ⟨_, h, _⟩ => absurd h (by omega)⟩
  | k + 1 => by
    rw [has_succ, Bool.or_eq_true, has_iff lo hi many n k, Bool.and_eq_true, decide_eq_true_eq, decide_eq_true_eq]
    constructor
    · rintro (⟨i, h, g⟩ | g)
      · exact ⟨i, by omega, g⟩
      · exact ⟨k, by omega, g⟩
    · rintro ⟨i, h, g⟩
      by_cases e : i = k
      · subst e; exact .inr g
      · exact .inl ⟨i, by omega, g⟩
/-- Nothing falls between pieces. -/
theorem has_all {lo hi n : Int} {m : Nat} (hl : lo ≤ hi) : hasR lo hi ((m : Int) + 1) n (m + 1) = true ↔ lo ≤ n ∧ n ≤ hi := by
  rw [has_iff, cut_has (by omega) hl (m + 1) (by omega), cut_last (k := m + 1) (by omega) (by omega)]
theorem pie_cuts {lo hi : Int} {m : Nat} (h : pieF lo hi ((m : Int) + 1) = 0) : pieR lo hi ((m : Int) + 1) = cuts lo hi ((m : Int) + 1) (m + 1) := by
  unfold pieR
  rw [if_pos h, show ((m : Int) + 1).toNat = m + 1 by omega]
theorem split_value {p : List Int} {lo hi n : Int} {m : Nat} (h : (splitAll p lo hi ((m : Int) + 1)).2.2 = 0) (h1 : lo ≤ n) (h2 : n ≤ hi) :
    (splitAll p lo hi ((m : Int) + 1)).1 ≤ fl (exN n p p.length) 1000000000000 ∧ ce (exN n p p.length) 1000000000000 ≤ (splitAll p lo hi ((m : Int) + 1)).2.1 := by
  unfold splitAll at *
  by_cases hf : splitF p lo hi ((m : Int) + 1) = 0
  · rw [if_pos hf] at h ⊢
    rw [show ((m : Int) + 1).toNat = m + 1 by omega] at h ⊢
    have ho := (split_ok.1 hf).1
    have hl := (chk_ok.1 (over_ok.1 ho).2).2.2
    obtain ⟨i, hi', a, b⟩ := (has_iff lo hi ((m : Int) + 1) n (m + 1)).1 ((has_all hl).2 ⟨h1, h2⟩)
    exact sp_value (k := m + 1) ho (by omega) (by omega) (m + 1) (Nat.le_refl _) h i hi' a b
  · rw [if_neg hf] at h; exact absurd h hf
end Um
