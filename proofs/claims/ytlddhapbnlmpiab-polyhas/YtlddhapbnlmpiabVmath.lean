/-
  Plain arithmetic of what a small polynomial is without rounding, as the document's answer makes it, no program.
-/
import Derived.Test.YtlddhapbnlmpiabCmath
namespace Um
set_option linter.unusedSimpArgs false

/-- Small: a polynomial and a number. -/
def small (p : List Int) (n : Int) : Bool := decide (0 < p.length ∧ p.length ≤ 5 ∧ -5000 ≤ n ∧ n ≤ 5000 ∧ ∀ c ∈ p, -5000 ≤ c ∧ c ≤ 5000)
theorem small_ok {p : List Int} {n : Int} : small p n = true ↔ 0 < p.length ∧ p.length ≤ 5 ∧ -5000 ≤ n ∧ n ≤ 5000 ∧ ∀ c ∈ p, -5000 ≤ c ∧ c ≤ 5000 := by unfold small; simp
theorem small_no {p : List Int} {n : Int} (h : ¬ (0 < p.length ∧ p.length ≤ 5 ∧ -5000 ≤ n ∧ n ≤ 5000 ∧ ∀ c ∈ p, -5000 ≤ c ∧ c ≤ 5000)) : small p n = false := by
  unfold small; exact decide_eq_false h
/-- One term, so many times on: n as often as its power, then 1000. -/
def it (c n : Int) (i : Nat) : Nat → Int
  | 0 => c
  | j + 1 => if j < i then it c n i j * n else it c n i j * 1000
theorem it_succ (c n : Int) (i j : Nat) : it c n i (j + 1) = if j < i then it c n i j * n else it c n i j * 1000 := rfl
theorem it_is (c n : Int) (i : Nat) : ∀ j, it c n i j = c * n ^ (min j i) * 1000 ^ (j - i)
  | 0 => by simp [it]
  | j + 1 => by
    rw [it_succ, it_is c n i j]
    by_cases h : j < i
    · rw [if_pos h, show min j i = j by omega, show min (j + 1) i = j + 1 by omega, show j - i = 0 by omega, show j + 1 - i = 0 by omega, Int.pow_succ]
      simp [Int.mul_assoc]
    · rw [if_neg h, show min j i = i by omega, show min (j + 1) i = i by omega, show j + 1 - i = (j - i) + 1 by omega, Int.pow_succ, Int.mul_assoc]
theorem it_four (c n : Int) {i : Nat} (h : i ≤ 4) : it c n i 4 = c * n ^ i * 1000 ^ (4 - i) := by rw [it_is, show min 4 i = i by omega]
theorem mul_by {a b A B : Int} (h1 : -A ≤ a) (h2 : a ≤ A) (h3 : -B ≤ b) (h4 : b ≤ B) (hB : 0 ≤ B) : -(A * B) ≤ a * b ∧ a * b ≤ A * B := by
  have hA : 0 ≤ A := by omega
  have k : (a * b).natAbs ≤ (A * B).natAbs := by
    rw [Int.natAbs_mul, Int.natAbs_mul]
    exact Nat.mul_le_mul (by omega) (by omega)
  have p := Int.mul_nonneg hA hB
  omega
theorem it_bound {c n : Int} (hc : -5000 ≤ c ∧ c ≤ 5000) (hn : -5000 ≤ n ∧ n ≤ 5000) (i : Nat) : ∀ j, -(5000 * 5000 ^ j) ≤ it c n i j ∧ it c n i j ≤ 5000 * 5000 ^ j
  | 0 => by simp [it]; omega
  | j + 1 => by
    have h := it_bound hc hn i j
    have hp : (0 : Int) ≤ 5000 ^ j := Int.pow_nonneg (by decide)
    rw [it_succ]
    have e : (5000 : Int) * 5000 ^ (j + 1) = 5000 * 5000 ^ j * 5000 := by rw [Int.pow_succ, Int.mul_assoc]
    rw [e]
    split
    · exact mul_by h.1 h.2 hn.1 hn.2 (by decide)
    · have := mul_by h.1 h.2 (show (-5000 : Int) ≤ 1000 by decide) (show (1000 : Int) ≤ 5000 by decide) (by decide)
      exact this
theorem it_small {c n : Int} (hc : -5000 ≤ c ∧ c ≤ 5000) (hn : -5000 ≤ n ∧ n ≤ 5000) (i : Nat) {j : Nat} (hj : j ≤ 4) : -3125000000000000000 ≤ it c n i j ∧ it c n i j ≤ 3125000000000000000 := by
  have h := it_bound hc hn i j
  rcases (by omega : j = 0 ∨ j = 1 ∨ j = 2 ∨ j = 3 ∨ j = 4) with rfl | rfl | rfl | rfl | rfl <;> simp at h <;> omega
theorem ex_bound {n : Int} {p : List Int} (h : small p n = true) {k : Nat} (hk : k ≤ p.length) : -4000000000000000000 ≤ exN n p k ∧ exN n p k ≤ 4000000000000000000 := by
  obtain ⟨_, h5, n1, n2, hc⟩ := small_ok.1 h
  have := ex_small h5 hc n1 n2 k hk
  have hk5 : k ≤ 5 := by omega
  rcases (by omega : k = 0 ∨ k = 1 ∨ k = 2 ∨ k = 3 ∨ k = 4 ∨ k = 5) with rfl | rfl | rfl | rfl | rfl | rfl <;> simp at this ⊢ <;> omega
theorem ex_step {n : Int} {p : List Int} {k : Nat} (h : small p n = true) (hk : k < p.length) : exN n p k + it (p[k]?.getD 0) n k 4 = exN n p (k + 1) := by
  obtain ⟨_, h5, _⟩ := small_ok.1 h
  rw [it_four _ _ (by omega)]
  show _ = exN n p k + p.getD k 0 * n ^ k * 1000 ^ (4 - k)
  rw [List.getD_eq_getElem?_getD]
end Um
