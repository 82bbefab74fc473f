/-
  Plain arithmetic of polynomials of some unknowns, no program: what is wrong with the numbers of At; what At tells; the tests of a term one by one; bounds of what is reckoned without rounding.
-/
import Derived.Test.YtbnencjfgnkbfaaDoorMaths2
namespace Um
set_option linter.unusedSimpArgs false

/-- May a number be in At? -/
abbrev litP (n : Int) : Prop := -20000 ≤ n ∧ n ≤ 20000
def litB (n : Int) : Bool := decide (-20000 ≤ n) && decide (n ≤ 20000)
theorem lit_iff {n : Int} : litB n = true ↔ litP n := by unfold litB; simp
theorem lit_not {n : Int} : litB n = false ↔ ¬ litP n := by rw [← lit_iff]; simp
/-- What is wrong with the numbers. -/
def numsF (x : List Int) : Int := if ∀ i, i < x.length → litP (nm x i) then 0 else 1
theorem nums_ok {x : List Int} : numsF x = 0 ↔ ∀ i, i < x.length → litP (nm x i) := by
  unfold numsF
  constructor
  · intro h; split at h
    · assumption
    · cases h
  · intro h; rw [if_pos h]
theorem nums_bad {x : List Int} {i : Nat} (hi : i < x.length) (h : ¬ litP (nm x i)) : numsF x = 1 := by
  unfold numsF
  rw [if_neg fun g => h (g i hi)]
theorem nums_fault (x : List Int) : numsF x = 0 ∨ numsF x = 1 := by
  unfold numsF
  split
  · exact .inl rfl
  · exact .inr rfl
/-- Is each By small enough? -/
abbrev bysP (f : List Tm) : Prop := ∀ i, i < f.length → litP (tm f i).1
/-- What it is at numbers that are right, rounded down; the fault. -/
def ptR (f : List Tm) (x : List Int) : Int × Int := if bysP f then (if may (fl (exS f x f.length) 1000000000) = true then (fl (exS f x f.length) 1000000000, 0) else (0, 4)) else (0, 4)
def atF (f : List Tm) (x : List Int) : Int := if formF f x.length = 0 then numsF x else formF f x.length
def atAll (f : List Tm) (x : List Int) : Int × Int := if atF f x = 0 then ptR f x else (0, atF f x)
theorem at_ok {f : List Tm} {x : List Int} : atF f x = 0 ↔ formF f x.length = 0 ∧ numsF x = 0 := by
  unfold atF
  by_cases h : formF f x.length = 0
  · rw [if_pos h]; exact ⟨fun e => ⟨h, e⟩, fun e => e.2⟩
  · rw [if_neg h]; exact ⟨fun e => absurd e h, fun e => absurd e.1 h⟩
theorem pt_bad {f : List Tm} {x : List Int} {i : Nat} (hi : i < f.length) (h : ¬ litP (tm f i).1) : ptR f x = (0, 4) := by
  unfold ptR
  rw [if_neg fun g => h (g i hi)]
theorem pt_full {f : List Tm} {x : List Int} (h : bysP f) (hm : ¬ may (fl (exS f x f.length) 1000000000) = true) : ptR f x = (0, 4) := by
  unfold ptR
  rw [if_pos h, if_neg hm]
theorem pt_yes {f : List Tm} {x : List Int} (h : bysP f) (hm : may (fl (exS f x f.length) 1000000000) = true) : ptR f x = (fl (exS f x f.length) 1000000000, 0) := by
  unfold ptR
  rw [if_pos h, if_pos hm]
/-- What At tells with no fault is what it is, rounded down. -/
theorem at_is {f : List Tm} {x : List Int} (h : (atAll f x).2 = 0) : atF f x = 0 ∧ bysP f ∧ (atAll f x).1 = fl (exS f x f.length) 1000000000 := by
  unfold atAll at h ⊢
  by_cases c : atF f x = 0
  · rw [if_pos c] at h ⊢
    refine ⟨c, ?_⟩
    unfold ptR at h ⊢
    by_cases b : bysP f
    · rw [if_pos b] at h ⊢
      refine ⟨b, ?_⟩
      split at h
      · rename_i hm; rw [if_pos hm]
      · cases h
    · rw [if_neg b] at h; cases h
  · rw [if_neg c] at h; exact absurd h c

/-! The tests of a term, one unknown behind the other. -/
abbrev inr (n : Int) : Prop := 0 ≤ n ∧ n ≤ 3
def okN (t : Tm) : Nat → Bool
  | 0 => may t.1
  | k + 1 => okN t k && decide (inr (tmT t k))
def allN (t : Tm) : Nat → Int
  | 0 => 0
  | k + 1 => allN t k + (if inr (tmT t k) then tmT t k else 0)
theorem ok_in {t : Tm} {k : Nat} (h : inr (tmT t k)) : okN t (k + 1) = okN t k ∧ allN t (k + 1) = allN t k + tmT t k := by
  refine ⟨?_, ?_⟩
  · show (okN t k && decide (inr (tmT t k))) = _
    rw [decide_eq_true h, Bool.and_true]
  · show allN t k + (if inr (tmT t k) then tmT t k else 0) = _
    rw [if_pos h]
theorem ok_out {t : Tm} {k : Nat} (h : ¬ inr (tmT t k)) : okN t (k + 1) = false ∧ allN t (k + 1) = allN t k := by
  refine ⟨?_, ?_⟩
  · show (okN t k && decide (inr (tmT t k))) = _
    rw [decide_eq_false h, Bool.and_false]
  · show allN t k + (if inr (tmT t k) then tmT t k else 0) = _
    rw [if_neg h, Int.add_zero]
theorem all_small (t : Tm) : ∀ k, 0 ≤ allN t k ∧ allN t k ≤ 3 * k
  | 0 => by show (0 : Int) ≤ 0 ∧ (0 : Int) ≤ 3 * ((0 : Nat) : Int); omega
  | k + 1 => by
    have i := all_small t k
    show 0 ≤ allN t k + (if inr (tmT t k) then tmT t k else 0) ∧ allN t k + (if inr (tmT t k) then tmT t k else 0) ≤ 3 * ((k + 1 : Nat) : Int)
    split
    · rename_i h; obtain ⟨h1, h2⟩ := h; omega
    · omega
theorem term_tests (t : Tm) : (okN t 3 = true ∧ allN t 3 ≤ 3) ↔ tmP t := by
  have e : okN t 3 = (((may t.1 && decide (inr t.2.1)) && decide (inr t.2.2.1)) && decide (inr t.2.2.2)) := rfl
  have a : allN t 3 = ((0 + (if inr t.2.1 then t.2.1 else 0)) + (if inr t.2.2.1 then t.2.2.1 else 0)) + (if inr t.2.2.2 then t.2.2.2 else 0) := rfl
  rw [e, a]
  simp only [Bool.and_eq_true, decide_eq_true_eq]
  unfold tmP
  constructor
  · rintro ⟨⟨⟨⟨h0, h1⟩, h2⟩, h3⟩, h4⟩
    rw [if_pos h1, if_pos h2, if_pos h3] at h4
    exact ⟨h0, h1, h2, h3, by omega⟩
  · rintro ⟨h0, h1, h2, h3, h4⟩
    refine ⟨⟨⟨⟨h0, h1⟩, h2⟩, h3⟩, ?_⟩
    rw [if_pos h1, if_pos h2, if_pos h3]
    omega
theorem term_bad {t : Tm} {sides : Int} (h : ¬ (okN t 3 = true ∧ allN t 3 ≤ 3)) : termF t sides = 1 := by
  unfold termF
  rw [if_neg fun e => h ((term_tests t).2 e)]
/-- The unknowns from sides on. -/
theorem term_over {t : Tm} {sides k : Nat} (hp : okN t 3 = true ∧ allN t 3 ≤ 3) (h1 : 1 ≤ sides) (hk : sides ≤ k) (hk3 : k < 3) (h : 0 < tmT t k) : termF t sides = 3 := by
  unfold termF
  rw [if_pos ((term_tests t).1 hp), if_pos]
  unfold tmO
  rcases (by omega : k = 1 ∨ k = 2) with rfl | rfl
  · exact .inl ⟨by omega, h⟩
  · exact .inr ⟨by omega, h⟩
theorem term_right {t : Tm} {sides : Nat} (hp : okN t 3 = true ∧ allN t 3 ≤ 3) (h : ∀ j, sides ≤ j → j < 3 → ¬ 0 < tmT t j) : termF t sides = 0 := by
  unfold termF
  rw [if_pos ((term_tests t).1 hp), if_neg]
  rintro (⟨h1, h2⟩ | ⟨h1, h2⟩)
  · exact h 1 (by omega) (by decide) h2
  · exact h 2 (by omega) (by decide) h2

/-! Bounds. -/
theorem lit_pow {n : Int} (h : litP n) : ∀ k : Nat, -(20000 ^ k : Int) ≤ n ^ k ∧ n ^ k ≤ 20000 ^ k
  | 0 => by simp
  | k + 1 => by
    obtain ⟨i1, i2⟩ := lit_pow h k
    rw [Int.pow_succ, Int.pow_succ]
    have := mul_by (A := 20000 ^ k) (B := 20000) i1 i2 h.1 h.2 (by decide)
    exact this
theorem pow_upto {m : Nat} (h : m ≤ 4) : (20000 ^ m : Int) ≤ 160000000000000000 := by
  rcases (by omega : m = 0 ∨ m = 1 ∨ m = 2 ∨ m = 3 ∨ m = 4) with rfl | rfl | rfl | rfl | rfl <;> decide
theorem ext_bound {t : Tm} {x : List Int} (hb : litP t.1) (hx : ∀ i, i < x.length → litP (nm x i)) : ∀ {k : Nat}, k ≤ x.length → -(20000 ^ (dgT t k + 1) : Int) ≤ exT t x k ∧ exT t x k ≤ 20000 ^ (dgT t k + 1)
  | 0, _ => by show -(20000 ^ (0 + 1) : Int) ≤ t.1 ∧ t.1 ≤ 20000 ^ (0 + 1); obtain ⟨h1, h2⟩ := hb; simp; omega
  | k + 1, hk => by
    obtain ⟨i1, i2⟩ := ext_bound hb hx (k := k) (by omega)
    obtain ⟨p1, p2⟩ := lit_pow (hx k (by omega)) (tmT t k).toNat
    have := mul_by i1 i2 p1 p2 (Int.le_of_lt (Int.pow_pos (by decide)))
    show -(20000 ^ (dgT t k + (tmT t k).toNat + 1) : Int) ≤ exT t x k * nm x k ^ (tmT t k).toNat ∧ exT t x k * nm x k ^ (tmT t k).toNat ≤ 20000 ^ (dgT t k + (tmT t k).toNat + 1)
    rw [show dgT t k + (tmT t k).toNat + 1 = dgT t k + 1 + (tmT t k).toNat by omega, Int.pow_add]
    exact this
/-- On the way: the k-th unknown j times. -/
theorem way_bound {t : Tm} {x : List Int} (ht : tmP t) (hb : litP t.1) (hx : ∀ i, i < x.length → litP (nm x i)) (hl : x.length ≤ 3) {k j : Nat} (hk : k < x.length) (hj : j ≤ (tmT t k).toNat) :
    -160000000000000000 ≤ exT t x k * nm x k ^ j ∧ exT t x k * nm x k ^ j ≤ 160000000000000000 := by
  obtain ⟨i1, i2⟩ := ext_bound hb hx (k := k) (by omega)
  obtain ⟨p1, p2⟩ := lit_pow (hx k hk) j
  have m := mul_by i1 i2 p1 p2 (Int.le_of_lt (Int.pow_pos (by decide)))
  rw [← Int.pow_add] at m
  have d : dgT t (k + 1) ≤ 3 := dg_le ht (by omega)
  have d' : dgT t k + (tmT t k).toNat ≤ 3 := d
  have := pow_upto (m := dgT t k + 1 + j) (by omega)
  omega
theorem thousand_pow (m : Nat) : (1000 ^ m : Int) ≤ 20000 ^ m := by
  induction m with
  | zero => decide
  | succ m ih =>
    rw [Int.pow_succ, Int.pow_succ]
    have : (0 : Int) ≤ 1000 ^ m := Int.le_of_lt (Int.pow_pos (by decide))
    omega
/-- Behind all unknowns: m thousands more. -/
theorem last_bound {t : Tm} {x : List Int} (hb : litP t.1) (hx : ∀ i, i < x.length → litP (nm x i)) {m : Nat} (hm : m + dgT t x.length ≤ 3) :
    -160000000000000000 ≤ exT t x x.length * 1000 ^ m ∧ exT t x x.length * 1000 ^ m ≤ 160000000000000000 := by
  obtain ⟨i1, i2⟩ := ext_bound hb hx (k := x.length) (Nat.le_refl _)
  have p0 : (0 : Int) ≤ 1000 ^ m := Int.le_of_lt (Int.pow_pos (by decide))
  have p1 := thousand_pow m
  have q := mul_by i1 i2 (show -(20000 ^ m : Int) ≤ 1000 ^ m by omega) p1 (by omega)
  rw [← Int.pow_add] at q
  have := pow_upto (m := dgT t x.length + 1 + m) (by omega)
  omega
theorem exs_bound {f : List Tm} {x : List Int} (hf : ∀ i, i < f.length → tmP (tm f i)) (hb : bysP f) (hx : ∀ i, i < x.length → litP (nm x i)) (hl : x.length ≤ 3) : ∀ {n : Nat}, n ≤ f.length →
    -(160000000000000000 * n : Int) ≤ exS f x n ∧ exS f x n ≤ 160000000000000000 * n
  | 0, _ => by show -(160000000000000000 * ((0 : Nat) : Int)) ≤ 0 ∧ (0 : Int) ≤ 160000000000000000 * ((0 : Nat) : Int); omega
  | n + 1, hn => by
    obtain ⟨i1, i2⟩ := exs_bound hf hb hx hl (n := n) (by omega)
    have ht := hf n (by omega)
    have d := dg_le ht hl
    have q := last_bound (hb n (by omega)) hx (m := 3 - dgT (tm f n) x.length) (by omega)
    show -(160000000000000000 * ((n + 1 : Nat) : Int)) ≤ exS f x n + exT (tm f n) x x.length * 1000 ^ (3 - dgT (tm f n) x.length) ∧ exS f x n + exT (tm f n) x x.length * 1000 ^ (3 - dgT (tm f n) x.length) ≤ 160000000000000000 * ((n + 1 : Nat) : Int)
    omega
end Um
