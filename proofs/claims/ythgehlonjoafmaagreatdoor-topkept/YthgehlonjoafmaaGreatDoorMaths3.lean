/-
  Plain arithmetic of polynomials of some unknowns, no program: what is wrong with the numbers of At; what At tells; the tests of a term one by one; bounds of what is reckoned without rounding.
  Plain arithmetic of a point's move, no program: what is wrong with it; where it goes, unknown by unknown; the fault.
  Plain arithmetic of boxes step by step, no program: all of them, whatever they are; the fault.
  Plain arithmetic of boxes step by step and of paths, no program: how long they may be, what they are where something is wrong.
  Plain arithmetic of pieces, no program: what is wrong with a box and a depth, with a system besides; the pieces, and a step of all, at anything.
  Plain arithmetic of boxes that are never left, no program: whether one is, what it grows to, and that this holds, has what it grew of, and keeps every path.
  Plain arithmetic of boxes that are never met, no program: which box of a row is the first that has something in common with another one; the fault; that no path is in what is never met.
  Plain arithmetic of a tube in pieces, no program: step by step in pieces it is within the tube of the whole, and each path is in it.
  Plain arithmetic of what goes together, no program: what is wrong with three spans; what is told of them, at anything; of two that are known.
-/
import Derived.Test.YthgehlonjoafmaaGreatDoorMaths2
namespace Um
set_option linter.unusedSimpArgs false

/-- May a number be in At? -/
abbrev litP (n : Int) : Prop := -20000 ≤ n ∧ n ≤ 20000
def litB (n : Int) : Bool := decide (-20000 ≤ n) && decide (n ≤ 20000)
theorem lit_iff {n : Int} : litB n = true ↔ litP n := by unfold litB; simp
theorem lit_not {n : Int} : litB n = false ↔ ¬ litP n := by rw [← lit_iff]; simp
/-- What is wrong with the numbers. -/
def numsF (x : List Int) : Int := if ∀ i, i < x.length → litP (nm x i) then 0 else 1
theorem nums_ok {x : List Int} : numsF x = 0 ↔ ∀ i, i < x.length → litP (nm x i) := by
  unfold numsF
  constructor
  · intro h; split at h
    · assumption
    · cases h
  · intro h; rw [if_pos h]
theorem nums_bad {x : List Int} {i : Nat} (hi : i < x.length) (h : ¬ litP (nm x i)) : numsF x = 1 := by
  unfold numsF
  rw [if_neg fun g => h (g i hi)]
theorem nums_fault (x : List Int) : numsF x = 0 ∨ numsF x = 1 := by
  unfold numsF
  split
  · exact .inl rfl
  · exact .inr rfl
/-- Is each By small enough? -/
abbrev bysP (f : List Tm) : Prop := ∀ i, i < f.length → litP (tm f i).1
/-- What it is at numbers that are right, rounded down; the fault. -/
def ptR (f : List Tm) (x : List Int) : Int × Int := if bysP f then (if may (fl (exS f x f.length) 1000000000) = true then (fl (exS f x f.length) 1000000000, 0) else (0, 4)) else (0, 4)
def atF (f : List Tm) (x : List Int) : Int := if formF f x.length = 0 then numsF x else formF f x.length
def atAll (f : List Tm) (x : List Int) : Int × Int := if atF f x = 0 then ptR f x else (0, atF f x)
theorem at_ok {f : List Tm} {x : List Int} : atF f x = 0 ↔ formF f x.length = 0 ∧ numsF x = 0 := by
  unfold atF
  by_cases h : formF f x.length = 0
  · rw [if_pos h]; exact ⟨fun e => ⟨h, e⟩, fun e => e.2⟩
  · rw [if_neg h]; exact ⟨fun e => absurd e h, fun e => absurd e.1 h⟩
theorem pt_bad {f : List Tm} {x : List Int} {i : Nat} (hi : i < f.length) (h : ¬ litP (tm f i).1) : ptR f x = (0, 4) := by
  unfold ptR
  rw [if_neg fun g => h (g i hi)]
theorem pt_full {f : List Tm} {x : List Int} (h : bysP f) (hm : ¬ may (fl (exS f x f.length) 1000000000) = true) : ptR f x = (0, 4) := by
  unfold ptR
  rw [if_pos h, if_neg hm]
theorem pt_yes {f : List Tm} {x : List Int} (h : bysP f) (hm : may (fl (exS f x f.length) 1000000000) = true) : ptR f x = (fl (exS f x f.length) 1000000000, 0) := by
  unfold ptR
  rw [if_pos h, if_pos hm]
/-- What At tells with no fault is what it is, rounded down. -/
theorem at_is {f : List Tm} {x : List Int} (h : (atAll f x).2 = 0) : atF f x = 0 ∧ bysP f ∧ (atAll f x).1 = fl (exS f x f.length) 1000000000 := by
  unfold atAll at h ⊢
  by_cases c : atF f x = 0
  · rw [if_pos c] at h ⊢
    refine ⟨c, ?_⟩
    unfold ptR at h ⊢
    by_cases b : bysP f
    · rw [if_pos b] at h ⊢
      refine ⟨b, ?_⟩
      split at h
      · rename_i hm; rw [if_pos hm]
      · cases h
    · rw [if_neg b] at h; cases h
  · rw [if_neg c] at h; exact absurd h c

/-! The tests of a term, one unknown behind the other. -/
abbrev inr (n : Int) : Prop := 0 ≤ n ∧ n ≤ 3
def okN (t : Tm) : Nat → Bool
  | 0 => may t.1
  | k + 1 => okN t k && decide (inr (tmT t k))
def allN (t : Tm) : Nat → Int
  | 0 => 0
  | k + 1 => allN t k + (if inr (tmT t k) then tmT t k else 0)
theorem ok_in {t : Tm} {k : Nat} (h : inr (tmT t k)) : okN t (k + 1) = okN t k ∧ allN t (k + 1) = allN t k + tmT t k := by
  refine ⟨?_, ?_⟩
  · show (okN t k && decide (inr (tmT t k))) = _
    rw [decide_eq_true h, Bool.and_true]
  · show allN t k + (if inr (tmT t k) then tmT t k else 0) = _
    rw [if_pos h]
theorem ok_out {t : Tm} {k : Nat} (h : ¬ inr (tmT t k)) : okN t (k + 1) = false ∧ allN t (k + 1) = allN t k := by
  refine ⟨?_, ?_⟩
  · show (okN t k && decide (inr (tmT t k))) = _
    rw [decide_eq_false h, Bool.and_false]
  · show allN t k + (if inr (tmT t k) then tmT t k else 0) = _
    rw [if_neg h, Int.add_zero]
theorem all_small (t : Tm) : ∀ k, 0 ≤ allN t k ∧ allN t k ≤ 3 * k
  | 0 => by show (0 : Int) ≤ 0 ∧ (0 : Int) ≤ 3 * ((0 : Nat) : Int); omega
  | k + 1 => by
    have i := all_small t k
    show 0 ≤ allN t k + (if inr (tmT t k) then tmT t k else 0) ∧ allN t k + (if inr (tmT t k) then tmT t k else 0) ≤ 3 * ((k + 1 : Nat) : Int)
    split
    · rename_i h; obtain ⟨h1, h2⟩ := h; omega
    · omega
theorem term_tests (t : Tm) : (okN t 3 = true ∧ allN t 3 ≤ 3) ↔ tmP t := by
  have e : okN t 3 = (((may t.1 && decide (inr t.2.1)) && decide (inr t.2.2.1)) && decide (inr t.2.2.2)) := rfl
  have a : allN t 3 = ((0 + (if inr t.2.1 then t.2.1 else 0)) + (if inr t.2.2.1 then t.2.2.1 else 0)) + (if inr t.2.2.2 then t.2.2.2 else 0) := rfl
  rw [e, a]
  simp only [Bool.and_eq_true, decide_eq_true_eq]
  unfold tmP
  constructor
  · rintro ⟨⟨⟨⟨h0, h1⟩, h2⟩, h3⟩, h4⟩
    rw [if_pos h1, if_pos h2, if_pos h3] at h4
    exact ⟨h0, h1, h2, h3, by omega⟩
  · rintro ⟨h0, h1, h2, h3, h4⟩
    refine ⟨⟨⟨⟨h0, h1⟩, h2⟩, h3⟩, ?_⟩
    rw [if_pos h1, if_pos h2, if_pos h3]
    omega
theorem term_bad {t : Tm} {sides : Int} (h : ¬ (okN t 3 = true ∧ allN t 3 ≤ 3)) : termF t sides = 1 := by
  unfold termF
  rw [if_neg fun e => h ((term_tests t).2 e)]
/-- The unknowns from sides on. -/
theorem term_over {t : Tm} {sides k : Nat} (hp : okN t 3 = true ∧ allN t 3 ≤ 3) (h1 : 1 ≤ sides) (hk : sides ≤ k) (hk3 : k < 3) (h : 0 < tmT t k) : termF t sides = 3 := by
  unfold termF
  rw [if_pos ((term_tests t).1 hp), if_pos]
  unfold tmO
  rcases (by omega : k = 1 ∨ k = 2) with rfl | rfl
  · exact .inl ⟨by omega, h⟩
  · exact .inr ⟨by omega, h⟩
theorem term_right {t : Tm} {sides : Nat} (hp : okN t 3 = true ∧ allN t 3 ≤ 3) (h : ∀ j, sides ≤ j → j < 3 → ¬ 0 < tmT t j) : termF t sides = 0 := by
  unfold termF
  rw [if_pos ((term_tests t).1 hp), if_neg]
  rintro (⟨h1, h2⟩ | ⟨h1, h2⟩)
  · exact h 1 (by omega) (by decide) h2
  · exact h 2 (by omega) (by decide) h2

/-! Bounds. -/
theorem lit_pow {n : Int} (h : litP n) : ∀ k : Nat, -(20000 ^ k : Int) ≤ n ^ k ∧ n ^ k ≤ 20000 ^ k
  | 0 => by simp
  | k + 1 => by
    obtain ⟨i1, i2⟩ := lit_pow h k
    rw [Int.pow_succ, Int.pow_succ]
    have := mul_by (A := 20000 ^ k) (B := 20000) i1 i2 h.1 h.2 (by decide)
    exact this
theorem pow_upto {m : Nat} (h : m ≤ 4) : (20000 ^ m : Int) ≤ 160000000000000000 := by
  rcases (by omega : m = 0 ∨ m = 1 ∨ m = 2 ∨ m = 3 ∨ m = 4) with rfl | rfl | rfl | rfl | rfl <;> decide
theorem ext_bound {t : Tm} {x : List Int} (hb : litP t.1) (hx : ∀ i, i < x.length → litP (nm x i)) : ∀ {k : Nat}, k ≤ x.length → -(20000 ^ (dgT t k + 1) : Int) ≤ exT t x k ∧ exT t x k ≤ 20000 ^ (dgT t k + 1)
  | 0, _ => by show -(20000 ^ (0 + 1) : Int) ≤ t.1 ∧ t.1 ≤ 20000 ^ (0 + 1); obtain ⟨h1, h2⟩ := hb; simp; omega
  | k + 1, hk => by
    obtain ⟨i1, i2⟩ := ext_bound hb hx (k := k) (by omega)
    obtain ⟨p1, p2⟩ := lit_pow (hx k (by omega)) (tmT t k).toNat
    have := mul_by i1 i2 p1 p2 (Int.le_of_lt (Int.pow_pos (by decide)))
    show -(20000 ^ (dgT t k + (tmT t k).toNat + 1) : Int) ≤ exT t x k * nm x k ^ (tmT t k).toNat ∧ exT t x k * nm x k ^ (tmT t k).toNat ≤ 20000 ^ (dgT t k + (tmT t k).toNat + 1)
    rw [show dgT t k + (tmT t k).toNat + 1 = dgT t k + 1 + (tmT t k).toNat by omega, Int.pow_add]
    exact this
/-- On the way: the k-th unknown j times. -/
theorem way_bound {t : Tm} {x : List Int} (ht : tmP t) (hb : litP t.1) (hx : ∀ i, i < x.length → litP (nm x i)) (hl : x.length ≤ 3) {k j : Nat} (hk : k < x.length) (hj : j ≤ (tmT t k).toNat) :
    -160000000000000000 ≤ exT t x k * nm x k ^ j ∧ exT t x k * nm x k ^ j ≤ 160000000000000000 := by
  obtain ⟨i1, i2⟩ := ext_bound hb hx (k := k) (by omega)
  obtain ⟨p1, p2⟩ := lit_pow (hx k hk) j
  have m := mul_by i1 i2 p1 p2 (Int.le_of_lt (Int.pow_pos (by decide)))
  rw [← Int.pow_add] at m
  have d : dgT t (k + 1) ≤ 3 := dg_le ht (by omega)
  have d' : dgT t k + (tmT t k).toNat ≤ 3 := d
  have := pow_upto (m := dgT t k + 1 + j) (by omega)
  omega
theorem thousand_pow (m : Nat) : (1000 ^ m : Int) ≤ 20000 ^ m := by
  induction m with
  | zero => decide
  | succ m ih =>
    rw [Int.pow_succ, Int.pow_succ]
    have : (0 : Int) ≤ 1000 ^ m := Int.le_of_lt (Int.pow_pos (by decide))
    omega
/-- Behind all unknowns: m thousands more. -/
theorem last_bound {t : Tm} {x : List Int} (hb : litP t.1) (hx : ∀ i, i < x.length → litP (nm x i)) {m : Nat} (hm : m + dgT t x.length ≤ 3) :
    -160000000000000000 ≤ exT t x x.length * 1000 ^ m ∧ exT t x x.length * 1000 ^ m ≤ 160000000000000000 := by
  obtain ⟨i1, i2⟩ := ext_bound hb hx (k := x.length) (Nat.le_refl _)
  have p0 : (0 : Int) ≤ 1000 ^ m := Int.le_of_lt (Int.pow_pos (by decide))
  have p1 := thousand_pow m
  have q := mul_by i1 i2 (show -(20000 ^ m : Int) ≤ 1000 ^ m by omega) p1 (by omega)
  rw [← Int.pow_add] at q
  have := pow_upto (m := dgT t x.length + 1 + m) (by omega)
  omega
theorem exs_bound {f : List Tm} {x : List Int} (hf : ∀ i, i < f.length → tmP (tm f i)) (hb : bysP f) (hx : ∀ i, i < x.length → litP (nm x i)) (hl : x.length ≤ 3) : ∀ {n : Nat}, n ≤ f.length →
    -(160000000000000000 * n : Int) ≤ exS f x n ∧ exS f x n ≤ 160000000000000000 * n
  | 0, _ => by show -(160000000000000000 * ((0 : Nat) : Int)) ≤ 0 ∧ (0 : Int) ≤ 160000000000000000 * ((0 : Nat) : Int); omega
  | n + 1, hn => by
    obtain ⟨i1, i2⟩ := exs_bound hf hb hx hl (n := n) (by omega)
    have ht := hf n (by omega)
    have d := dg_le ht hl
    have q := last_bound (hb n (by omega)) hx (m := 3 - dgT (tm f n) x.length) (by omega)
    show -(160000000000000000 * ((n + 1 : Nat) : Int)) ≤ exS f x n + exT (tm f n) x x.length * 1000 ^ (3 - dgT (tm f n) x.length) ∧ exS f x n + exT (tm f n) x x.length * 1000 ^ (3 - dgT (tm f n) x.length) ≤ 160000000000000000 * ((n + 1 : Nat) : Int)
    omega
end Um
namespace Um
set_option linter.unusedSimpArgs false

/-- Is each push in its span? -/
abbrev pushP (p : List (Int × Int)) (q : List Int) : Prop := ∀ i, i < q.length → (sd p i).1 ≤ nm q i ∧ nm q i ≤ (sd p i).2
def movF (s : List (List Tm)) (p : List (Int × Int)) (x q : List Int) : Int := if sysF s p = 0 then (if x.length = s.length ∧ q.length = s.length then (if pushP p q then numsF x else 1) else 3) else sysF s p
theorem mov_sys {s : List (List Tm)} {p : List (Int × Int)} {x q : List Int} (h : ¬ sysF s p = 0) : movF s p x q = sysF s p := by unfold movF; rw [if_neg h]
theorem mov_shape {s : List (List Tm)} {p : List (Int × Int)} {x q : List Int} (h : sysF s p = 0) (h2 : ¬ (x.length = s.length ∧ q.length = s.length)) : movF s p x q = 3 := by unfold movF; rw [if_pos h, if_neg h2]
theorem mov_push {s : List (List Tm)} {p : List (Int × Int)} {x q : List Int} (h : sysF s p = 0) (h2 : x.length = s.length ∧ q.length = s.length) (h3 : ¬ pushP p q) : movF s p x q = 1 := by unfold movF; rw [if_pos h, if_pos h2, if_neg h3]
theorem mov_nums {s : List (List Tm)} {p : List (Int × Int)} {x q : List Int} (h : sysF s p = 0) (h2 : x.length = s.length ∧ q.length = s.length) (h3 : pushP p q) : movF s p x q = numsF x := by unfold movF; rw [if_pos h, if_pos h2, if_pos h3]
theorem mov_ok {s : List (List Tm)} {p : List (Int × Int)} {x q : List Int} : movF s p x q = 0 ↔ sysF s p = 0 ∧ (x.length = s.length ∧ q.length = s.length) ∧ pushP p q ∧ numsF x = 0 := by
  unfold movF
  by_cases h : sysF s p = 0
  · rw [if_pos h]
    by_cases h2 : x.length = s.length ∧ q.length = s.length
    · rw [if_pos h2]
      by_cases h3 : pushP p q
      · rw [if_pos h3]; exact ⟨fun e => ⟨h, h2, h3, e⟩, fun e => e.2.2.2⟩
      · rw [if_neg h3]; exact ⟨fun e => absurd e (by decide), fun e => absurd e.2.2.1 h3⟩
    · rw [if_neg h2]; exact ⟨fun e => absurd e (by decide), fun e => absurd e.2.1 h2⟩
  · rw [if_neg h]; exact ⟨fun e => absurd e h, fun e => absurd e.1 h⟩
/-- Where it goes, the first k unknowns; the fault. -/
def movN (s : List (List Tm)) (x q : List Int) : Nat → List Int × Int
  | 0 => ([], 0)
  | k + 1 => if (movN s x q k).2 = 0 then (if (ptR (nx s k) x).2 = 0 then (if may ((ptR (nx s k) x).1 + nm q k) = true then ((movN s x q k).1 ++ [(ptR (nx s k) x).1 + nm q k], 0) else ([], 4)) else ([], (ptR (nx s k) x).2)) else movN s x q k
theorem movN_succ (s : List (List Tm)) (x q : List Int) (k : Nat) : movN s x q (k + 1) = if (movN s x q k).2 = 0 then (if (ptR (nx s k) x).2 = 0 then (if may ((ptR (nx s k) x).1 + nm q k) = true then ((movN s x q k).1 ++ [(ptR (nx s k) x).1 + nm q k], 0) else ([], 4)) else ([], (ptR (nx s k) x).2)) else movN s x q k := rfl
theorem movN_more {s : List (List Tm)} {x q : List Int} {k : Nat} (h : (movN s x q k).2 = 0) (h1 : (ptR (nx s k) x).2 = 0) (h2 : may ((ptR (nx s k) x).1 + nm q k) = true) : movN s x q (k + 1) = ((movN s x q k).1 ++ [(ptR (nx s k) x).1 + nm q k], 0) := by
  rw [movN_succ, if_pos h, if_pos h1, if_pos h2]
theorem movN_stay {s : List (List Tm)} {x q : List Int} {k : Nat} {e : Int} (h : movN s x q k = ([], e)) (he : ¬ e = 0) : ∀ {n : Nat}, k ≤ n → movN s x q n = ([], e) := by
  intro n hn
  induction n with
  | zero => obtain rfl : k = 0 := by omega
            exact h
  | succ n ih =>
    rcases (by omega : k = n + 1 ∨ k ≤ n) with rfl | g
    · exact h
    · rw [movN_succ, ih g, if_neg he]
theorem movN_bad {s : List (List Tm)} {x q : List Int} {k n : Nat} (hk : k < n) (h : (movN s x q k).2 = 0) (h1 : ¬ (ptR (nx s k) x).2 = 0) : movN s x q n = ([], (ptR (nx s k) x).2) :=
  movN_stay (k := k + 1) (by rw [movN_succ, if_pos h, if_neg h1]) h1 hk
theorem movN_full {s : List (List Tm)} {x q : List Int} {k n : Nat} (hk : k < n) (h : (movN s x q k).2 = 0) (h1 : (ptR (nx s k) x).2 = 0) (h2 : ¬ may ((ptR (nx s k) x).1 + nm q k) = true) : movN s x q n = ([], 4) :=
  movN_stay (k := k + 1) (by rw [movN_succ, if_pos h, if_pos h1, if_neg h2]) (by decide) hk
theorem movN_ok {s : List (List Tm)} {x q : List Int} : ∀ {k : Nat}, (movN s x q k).2 = 0 → (movN s x q k).1.length = k ∧ ∀ i, i < k → (ptR (nx s i) x).2 = 0 ∧ nm (movN s x q k).1 i = (ptR (nx s i) x).1 + nm q i ∧ may ((ptR (nx s i) x).1 + nm q i) = true
  | 0, _ => ⟨rfl, fun i hi => absurd hi (Nat.not_lt_zero _)⟩
  | k + 1, h => by
    have h0 : (movN s x q k).2 = 0 := by
      by_cases c : (movN s x q k).2 = 0
      · exact c
      · rw [movN_succ, if_neg c] at h; exact absurd h c
    have h1 : (ptR (nx s k) x).2 = 0 := by
      by_cases c : (ptR (nx s k) x).2 = 0
      · exact c
      · rw [movN_succ, if_pos h0, if_neg c] at h; exact absurd h c
    have h2 : may ((ptR (nx s k) x).1 + nm q k) = true := by
      by_cases c : may ((ptR (nx s k) x).1 + nm q k) = true
      · exact c
      · rw [movN_succ, if_pos h0, if_pos h1, if_neg c] at h; exact absurd h (by decide)
    obtain ⟨l, g⟩ := movN_ok (k := k) h0
    rw [movN_more h0 h1 h2]
    refine ⟨by rw [List.length_append, l]; rfl, fun i hi => ?_⟩
    rcases (by omega : i < k ∨ i = k) with c | rfl
    · obtain ⟨a, b, d⟩ := g i c
      refine ⟨a, ?_, d⟩
      unfold nm at b ⊢
      rw [List.getElem?_append_left (by omega)]
      exact b
    · refine ⟨h1, ?_, h2⟩
      show ((movN s x q i).1 ++ [(ptR (nx s i) x).1 + nm q i])[i]?.getD 0 = _
      rw [List.getElem?_append_right (by omega), l]
      simp
def movAll (s : List (List Tm)) (p : List (Int × Int)) (x q : List Int) : List Int × Int := if movF s p x q = 0 then movN s x q s.length else ([], movF s p x q)
theorem movAll_not {s : List (List Tm)} {p : List (Int × Int)} {x q : List Int} (h : ¬ movF s p x q = 0) : movAll s p x q = ([], movF s p x q) := by unfold movAll; rw [if_neg h]
theorem movAll_yes {s : List (List Tm)} {p : List (Int × Int)} {x q : List Int} (h : movF s p x q = 0) : movAll s p x q = movN s x q s.length := by unfold movAll; rw [if_pos h]
theorem movAll_most {s : List (List Tm)} {p : List (Int × Int)} {x q : List Int} : (movAll s p x q).1.length ≤ 3 ∨ movAll s p x q = ([], movF s p x q) ∨ ¬ (movAll s p x q).2 = 0 := by
  by_cases h : movF s p x q = 0
  · rw [movAll_yes h]
    by_cases h2 : (movN s x q s.length).2 = 0
    · left
      rw [(movN_ok h2).1]
      exact (sys_ok.1 (mov_ok.1 h).1).2.1
    · exact .inr (.inr h2)
  · exact .inr (.inl (movAll_not h))
/-- What may be next, whatever they are; the fault. -/
def ofAll (s : List (List Tm)) (p b : List (Int × Int)) : List (Int × Int) × Int := if readyF s p b = 0 then behR s p b else ([], readyF s p b)
theorem ofAll_not {s : List (List Tm)} {p b : List (Int × Int)} (h : ¬ readyF s p b = 0) : ofAll s p b = ([], readyF s p b) := by unfold ofAll; rw [if_neg h]
theorem ofAll_yes {s : List (List Tm)} {p b : List (Int × Int)} (h : readyF s p b = 0) : ofAll s p b = behR s p b := by unfold ofAll; rw [if_pos h]
theorem ofAll_good {s : List (List Tm)} {p b : List (Int × Int)} (h : (ofAll s p b).2 = 0) : readyF s p b = 0 ∧ ofAll s p b = behR s p b ∧ (behR s p b).2 = 0 := by
  by_cases c : readyF s p b = 0
  · rw [ofAll_yes c] at h ⊢; exact ⟨c, rfl, h⟩
  · rw [ofAll_not c] at h; exact absurd h c
theorem ofAll_most (s : List (List Tm)) (p b : List (Int × Int)) : (ofAll s p b).1.length ≤ 1000 := by
  by_cases h : (ofAll s p b).2 = 0
  · obtain ⟨h0, e, h2⟩ := ofAll_good h
    rw [e, (next_box h0 h2).2]
    have := (sys_ok.1 (ready_ok.1 h0).1).2.1
    omega
  · by_cases c : readyF s p b = 0
    · rw [ofAll_yes c] at h ⊢
      have := (nextN_fault s p b s.length).resolve_left h
      unfold behR
      rw [this]
      simp
    · rw [ofAll_not c]; simp
theorem movAll_good {s : List (List Tm)} {p : List (Int × Int)} {x q : List Int} (h : (movAll s p x q).2 = 0) : movF s p x q = 0 ∧ movAll s p x q = movN s x q s.length ∧ (movN s x q s.length).2 = 0 := by
  by_cases c : movF s p x q = 0
  · rw [movAll_yes c] at h ⊢; exact ⟨c, rfl, h⟩
  · rw [movAll_not c] at h; exact absurd h c
theorem movN_none {s : List (List Tm)} {x q : List Int} : ∀ {k : Nat}, ¬ (movN s x q k).2 = 0 → (movN s x q k).1 = []
  | 0, h => absurd rfl h
  | k + 1, h => by
    rw [movN_succ] at h ⊢
    by_cases c : (movN s x q k).2 = 0
    · rw [if_pos c] at h ⊢
      by_cases c1 : (ptR (nx s k) x).2 = 0
      · rw [if_pos c1] at h ⊢
        by_cases c2 : may ((ptR (nx s k) x).1 + nm q k) = true
        · rw [if_pos c2] at h; exact absurd rfl h
        · rw [if_neg c2]
      · rw [if_neg c1]
    · rw [if_neg c]; exact movN_none c
theorem movAll_none {s : List (List Tm)} {p : List (Int × Int)} {x q : List Int} (h : ¬ (movAll s p x q).2 = 0) : (movAll s p x q).1 = [] := by
  by_cases c : movF s p x q = 0
  · rw [movAll_yes c] at h ⊢; exact movN_none h
  · rw [movAll_not c]
theorem movAll_five (s : List (List Tm)) (p : List (Int × Int)) (x q : List Int) : (movAll s p x q).1.length ≤ 5 := by
  by_cases h : (movAll s p x q).2 = 0
  · obtain ⟨h0, e, h2⟩ := movAll_good h
    rw [e, (movN_ok h2).1]
    have := (sys_ok.1 (mov_ok.1 h0).1).2.1
    omega
  · rw [movAll_none h]; simp
end Um
namespace Um
set_option linter.unusedSimpArgs false

/-- The first k boxes. -/
def tubes (s : List (List Tm)) (p b : List (Int × Int)) (k : Nat) : List (List (Int × Int)) := (List.range k).map fun i => (tubeN s p b i).1
theorem tubes_length (s : List (List Tm)) (p b : List (Int × Int)) (k : Nat) : (tubes s p b k).length = k := by simp [tubes]
theorem tubes_succ (s : List (List Tm)) (p b : List (Int × Int)) (k : Nat) : tubes s p b (k + 1) = tubes s p b k ++ [(tubeN s p b k).1] := by unfold tubes; rw [List.range_succ, List.map_append]; rfl
theorem tubes_get {s : List (List Tm)} {p b : List (Int × Int)} {k j : Nat} (h : j < k) : (tubes s p b k)[j]?.getD [] = (tubeN s p b j).1 := by unfold tubes; simp [h]
theorem tube_down {s : List (List Tm)} {p b : List (Int × Int)} {k : Nat} (h : (tubeN s p b k).2 = 0) : ∀ {j : Nat}, j ≤ k → (tubeN s p b j).2 = 0 := by
  induction k with
  | zero => intro j hj; obtain rfl : j = 0 := by omega
            exact h
  | succ k ih =>
    intro j hj
    rcases (by omega : j = k + 1 ∨ j ≤ k) with rfl | g
    · exact h
    · exact ih (tube_step h).1 g
theorem tube_four (s : List (List Tm)) (p b : List (Int × Int)) (k : Nat) : (tubeN s p b k).2 = 0 ∨ (tubeN s p b k).2 = 4 := by
  cases k with
  | zero => exact .inl rfl
  | succ k =>
    rw [tube_succ]
    split
    · rcases nextN_fault s p (tubeN s p b k).1 s.length with e | e
      · exact .inl e
      · right; unfold behR; rw [e]
    · exact .inr rfl
theorem tube_bad {s : List (List Tm)} {p b : List (Int × Int)} {k n : Nat} (hk : k ≤ n) (h : ¬ (tubeN s p b k).2 = 0) : ¬ (tubeN s p b n).2 = 0 := fun e => h (tube_down e hk)
theorem tubes_some {s : List (List Tm)} {p b : List (Int × Int)} (hr : readyF s p b = 0) {k : Nat} (h : (tubeN s p b k).2 = 0) : (tubeN s p b k).1 ≠ [] ∧ (tubeN s p b k).1.length ≤ 3 := by
  have := (ready_ok.1 (tube_ready hr h)).2.1
  exact ⟨(box_ok.1 this).1, (box_len this).2⟩
/-- Boxes step by step, whatever they are; the fault. -/
def tubeAll (s : List (List Tm)) (p b : List (Int × Int)) (n : Int) : List (List (Int × Int)) × Int :=
  if 0 ≤ n ∧ n ≤ 20 then (if readyF s p b = 0 then (if (tubeN s p b n.toNat).2 = 0 then (tubes s p b (n.toNat + 1), 0) else ([], 4)) else ([], readyF s p b)) else ([], 1)
theorem tubeAll_range {s : List (List Tm)} {p b : List (Int × Int)} {n : Int} (h : ¬ (0 ≤ n ∧ n ≤ 20)) : tubeAll s p b n = ([], 1) := by unfold tubeAll; rw [if_neg h]
theorem tubeAll_not {s : List (List Tm)} {p b : List (Int × Int)} {n : Int} (h : 0 ≤ n ∧ n ≤ 20) (h2 : ¬ readyF s p b = 0) : tubeAll s p b n = ([], readyF s p b) := by unfold tubeAll; rw [if_pos h, if_neg h2]
theorem tubeAll_yes {s : List (List Tm)} {p b : List (Int × Int)} {n : Nat} (h : n ≤ 20) (h2 : readyF s p b = 0) (h3 : (tubeN s p b n).2 = 0) : tubeAll s p b n = (tubes s p b (n + 1), 0) := by
  unfold tubeAll
  rw [if_pos (by omega), if_pos h2, Int.toNat_natCast, if_pos h3]
theorem tubeAll_full {s : List (List Tm)} {p b : List (Int × Int)} {n : Nat} (h : n ≤ 20) (h2 : readyF s p b = 0) (h3 : ¬ (tubeN s p b n).2 = 0) : tubeAll s p b n = ([], 4) := by
  unfold tubeAll
  rw [if_pos (by omega), if_pos h2, Int.toNat_natCast, if_neg h3]
/-- How wide a box is: its widest side. -/
def widthOf (b : List (Int × Int)) : Int := (sd b (wide b)).2 - (sd b (wide b)).1
def widesN (s : List (List Tm)) (p b : List (Int × Int)) (n : Int) : List Int := (tubeAll s p b n).1.map widthOf
/-- A path, the point behind k steps; the fault. -/
def pathN (s : List (List Tm)) (p : List (Int × Int)) (x : List Int) (u : List (List Int)) : Nat → List Int × Int
  | 0 => (x, 0)
  | k + 1 => if (pathN s p x u k).2 = 0 then movAll s p (pathN s p x u k).1 (u[k]?.getD []) else ([], (pathN s p x u k).2)
theorem path_succ (s : List (List Tm)) (p : List (Int × Int)) (x : List Int) (u : List (List Int)) (k : Nat) : pathN s p x u (k + 1) = if (pathN s p x u k).2 = 0 then movAll s p (pathN s p x u k).1 (u[k]?.getD []) else ([], (pathN s p x u k).2) := rfl
def paths (s : List (List Tm)) (p : List (Int × Int)) (x : List Int) (u : List (List Int)) (k : Nat) : List (List Int) := (List.range k).map fun i => (pathN s p x u i).1
theorem paths_length (s : List (List Tm)) (p : List (Int × Int)) (x : List Int) (u : List (List Int)) (k : Nat) : (paths s p x u k).length = k := by simp [paths]
theorem paths_succ (s : List (List Tm)) (p : List (Int × Int)) (x : List Int) (u : List (List Int)) (k : Nat) : paths s p x u (k + 1) = paths s p x u k ++ [(pathN s p x u k).1] := by unfold paths; rw [List.range_succ, List.map_append]; rfl
theorem paths_get {s : List (List Tm)} {p : List (Int × Int)} {x : List Int} {u : List (List Int)} {k j : Nat} (h : j < k) : (paths s p x u k)[j]?.getD [] = (pathN s p x u j).1 := by unfold paths; simp [h]
theorem path_step {s : List (List Tm)} {p : List (Int × Int)} {x : List Int} {u : List (List Int)} {k : Nat} (h : (pathN s p x u (k + 1)).2 = 0) : (pathN s p x u k).2 = 0 ∧ pathN s p x u (k + 1) = movAll s p (pathN s p x u k).1 (u[k]?.getD []) := by
  rw [path_succ] at h ⊢
  by_cases c : (pathN s p x u k).2 = 0
  · rw [if_pos c]; exact ⟨c, rfl⟩
  · rw [if_neg c] at h; exact absurd h c
theorem path_down {s : List (List Tm)} {p : List (Int × Int)} {x : List Int} {u : List (List Int)} {k : Nat} (h : (pathN s p x u k).2 = 0) : ∀ {j : Nat}, j ≤ k → (pathN s p x u j).2 = 0 := by
  induction k with
  | zero => intro j hj; obtain rfl : j = 0 := by omega
            exact h
  | succ k ih =>
    intro j hj
    rcases (by omega : j = k + 1 ∨ j ≤ k) with rfl | g
    · exact h
    · exact ih (path_step h).1 g
theorem path_stay {s : List (List Tm)} {p : List (Int × Int)} {x : List Int} {u : List (List Int)} {k : Nat} (h : ¬ (pathN s p x u k).2 = 0) : ∀ {n : Nat}, k ≤ n → (pathN s p x u n).2 = (pathN s p x u k).2 := by
  intro n hn
  induction n with
  | zero => obtain rfl : k = 0 := by omega
            rfl
  | succ n ih =>
    rcases (by omega : k = n + 1 ∨ k ≤ n) with rfl | g
    · rfl
    · have e := ih g
      rw [path_succ, if_neg (by rw [e]; exact h)]
      exact e
def pathF (s : List (List Tm)) (p : List (Int × Int)) (x : List Int) (u : List (List Int)) : Int := if 20 < u.length then 4 else if sysF s p = 0 then (if x.length = s.length then 0 else 3) else sysF s p
def pathAll (s : List (List Tm)) (p : List (Int × Int)) (x : List Int) (u : List (List Int)) : List (List Int) × Int :=
  if pathF s p x u = 0 then (if (pathN s p x u u.length).2 = 0 then (paths s p x u (u.length + 1), 0) else ([], (pathN s p x u u.length).2)) else ([], pathF s p x u)
theorem pathF_ok {s : List (List Tm)} {p : List (Int × Int)} {x : List Int} {u : List (List Int)} : pathF s p x u = 0 ↔ u.length ≤ 20 ∧ sysF s p = 0 ∧ x.length = s.length := by
  unfold pathF
  by_cases h : 20 < u.length
  · rw [if_pos h]; exact ⟨fun e => absurd e (by decide), fun e => by omega⟩
  · rw [if_neg h]
    by_cases h2 : sysF s p = 0
    · rw [if_pos h2]
      by_cases h3 : x.length = s.length
      · rw [if_pos h3]; exact ⟨fun _ => ⟨by omega, h2, h3⟩, fun _ => rfl⟩
      · rw [if_neg h3]; exact ⟨fun e => absurd e (by decide), fun e => absurd e.2.2 h3⟩
    · rw [if_neg h2]; exact ⟨fun e => absurd e h2, fun e => absurd e.2.1 h2⟩
theorem pathAll_good {s : List (List Tm)} {p : List (Int × Int)} {x : List Int} {u : List (List Int)} (h : (pathAll s p x u).2 = 0) : pathF s p x u = 0 ∧ (pathN s p x u u.length).2 = 0 ∧ pathAll s p x u = (paths s p x u (u.length + 1), 0) := by
  unfold pathAll at h ⊢
  by_cases c : pathF s p x u = 0
  · rw [if_pos c] at h ⊢
    by_cases d : (pathN s p x u u.length).2 = 0
    · rw [if_pos d]; exact ⟨c, d, rfl⟩
    · rw [if_neg d] at h; exact absurd h d
  · rw [if_neg c] at h; exact absurd h c
/-- What At tells is what it is. -/
theorem pt_value {f : List Tm} {x : List Int} (h : (ptR f x).2 = 0) : (ptR f x).1 = fl (exS f x f.length) 1000000000 := by
  unfold ptR at h ⊢
  split at h
  · rename_i c
    rw [if_pos c]
    split at h
    · rename_i m; rw [if_pos m]
    · cases h
  · cases h
/-- No point falls out. -/
theorem move_in {s : List (List Tm)} {p b : List (Int × Int)} {x q : List Int} (h0 : readyF s p b = 0) (h2 : (behR s p b).2 = 0) (hx : hasP b x) (hl : x.length = b.length) (hm : (movAll s p x q).2 = 0) : hasP (behR s p b).1 (movAll s p x q).1 ∧ (movAll s p x q).1.length = (behR s p b).1.length := by
  obtain ⟨m0, e2, m2⟩ := movAll_good hm
  obtain ⟨_, ⟨_, hq⟩, hpu, _⟩ := mov_ok.1 m0
  obtain ⟨l, g⟩ := movN_ok m2
  obtain ⟨_, nl⟩ := next_box h0 h2
  rw [e2]
  refine ⟨next_has h0 hx hl h2 fun i hi => ?_, by rw [l, nl]⟩
  obtain ⟨g1, g2, _⟩ := g i hi
  obtain ⟨p1, p2⟩ := hpu i (by omega)
  exact ⟨nm q i, p1, p2, by rw [g2, pt_value g1]⟩
/-- A path stays in its tube. -/
theorem flow_in {s : List (List Tm)} {p b : List (Int × Int)} {x : List Int} {u : List (List Int)} (h0 : readyF s p b = 0) (hx : hasP b x) (hl : x.length = b.length) : ∀ {k : Nat}, (tubeN s p b k).2 = 0 → (pathN s p x u k).2 = 0 → hasP (tubeN s p b k).1 (pathN s p x u k).1 ∧ (pathN s p x u k).1.length = (tubeN s p b k).1.length
  | 0, _, _ => ⟨hx, hl⟩
  | k + 1, ht, hp => by
    obtain ⟨t0, te⟩ := tube_step ht
    obtain ⟨p0, pe⟩ := path_step hp
    obtain ⟨i1, i2⟩ := flow_in h0 hx hl (k := k) t0 p0
    rw [te] at ht ⊢
    rw [pe] at hp ⊢
    exact move_in (tube_ready h0 t0) ht i1 i2 hp
end Um
namespace Um
set_option linter.unusedSimpArgs false

theorem tubeAll_good {s : List (List Tm)} {p b : List (Int × Int)} {n : Int} (h : (tubeAll s p b n).2 = 0) : ∃ k : Nat, n = k ∧ k ≤ 20 ∧ readyF s p b = 0 ∧ (tubeN s p b k).2 = 0 ∧ tubeAll s p b n = (tubes s p b (k + 1), 0) := by
  by_cases c : 0 ≤ n ∧ n ≤ 20
  · obtain ⟨k, rfl⟩ : ∃ k : Nat, n = k := ⟨n.toNat, by omega⟩
    by_cases d : readyF s p b = 0
    · by_cases e : (tubeN s p b k).2 = 0
      · exact ⟨k, rfl, by omega, d, e, tubeAll_yes (by omega) d e⟩
      · rw [tubeAll_full (by omega) d e] at h; exact absurd h (by decide)
    · rw [tubeAll_not c d] at h; exact absurd h d
  · rw [tubeAll_range c] at h; exact absurd h (by decide)
theorem tubeAll_none {s : List (List Tm)} {p b : List (Int × Int)} {n : Int} (h : ¬ (tubeAll s p b n).2 = 0) : (tubeAll s p b n).1 = [] := by
  by_cases c : 0 ≤ n ∧ n ≤ 20
  · obtain ⟨k, rfl⟩ : ∃ k : Nat, n = k := ⟨n.toNat, by omega⟩
    by_cases d : readyF s p b = 0
    · by_cases e : (tubeN s p b k).2 = 0
      · rw [tubeAll_yes (by omega) d e] at h; exact absurd rfl h
      · rw [tubeAll_full (by omega) d e]
    · rw [tubeAll_not c d]
  · rw [tubeAll_range c]
/-- No more than 21 boxes, each of them right. -/
theorem tubeAll_most (s : List (List Tm)) (p b : List (Int × Int)) (n : Int) : (tubeAll s p b n).1.length ≤ 21 ∧ ∀ j, j < (tubeAll s p b n).1.length → boxF ((tubeAll s p b n).1[j]?.getD []) = 0 ∧ ((tubeAll s p b n).1[j]?.getD []).length ≤ 3 := by
  by_cases h : (tubeAll s p b n).2 = 0
  · obtain ⟨k, rfl, hk, hr, hz, e⟩ := tubeAll_good h
    rw [e]
    simp only [tubes_length]
    refine ⟨by omega, fun j hj => ?_⟩
    rw [tubes_get hj]
    have g := tube_down hz (show j ≤ k by omega)
    exact ⟨(ready_ok.1 (tube_ready hr g)).2.1, (tubes_some hr g).2⟩
  · rw [tubeAll_none h]
    exact ⟨by simp, fun j hj => absurd hj (by simp)⟩
theorem pathAll_none {s : List (List Tm)} {p : List (Int × Int)} {x : List Int} {u : List (List Int)} (h : ¬ (pathAll s p x u).2 = 0) : (pathAll s p x u).1 = [] := by
  unfold pathAll at h ⊢
  by_cases c : pathF s p x u = 0
  · rw [if_pos c] at h ⊢
    by_cases d : (pathN s p x u u.length).2 = 0
    · rw [if_pos d] at h; exact absurd rfl h
    · rw [if_neg d]
  · rw [if_neg c]
theorem mov_len {s : List (List Tm)} {p : List (Int × Int)} {x q : List Int} (h : (movAll s p x q).2 = 0) : (movAll s p x q).1.length = s.length := by
  by_cases c : movF s p x q = 0
  · rw [movAll_yes c] at h ⊢
    exact (movN_ok h).1
  · rw [movAll_not c] at h; exact absurd h c
/-- Each point of a path has as many numbers as there are unknowns. -/
theorem path_len {s : List (List Tm)} {p : List (Int × Int)} {x : List Int} {u : List (List Int)} (hx : x.length = s.length) : ∀ {k : Nat}, (pathN s p x u k).2 = 0 → (pathN s p x u k).1.length = s.length
  | 0, _ => hx
  | k + 1, h => by
    obtain ⟨_, e⟩ := path_step h
    rw [e] at h ⊢
    exact mov_len h
theorem pathAll_most (s : List (List Tm)) (p : List (Int × Int)) (x : List Int) (u : List (List Int)) : (pathAll s p x u).1.length ≤ 21 ∧ ∀ j, j < (pathAll s p x u).1.length → ((pathAll s p x u).1[j]?.getD []).length ≤ 5 := by
  by_cases h : (pathAll s p x u).2 = 0
  · obtain ⟨f0, f1, e⟩ := pathAll_good h
    obtain ⟨l20, hsy, hxl⟩ := pathF_ok.1 f0
    rw [e]
    simp only [paths_length]
    refine ⟨by omega, fun j hj => ?_⟩
    rw [paths_get hj, path_len hxl (path_down f1 (show j ≤ u.length by omega))]
    have := (sys_ok.1 hsy).2.1
    omega
  · rw [pathAll_none h]
    exact ⟨by simp, fun j hj => absurd hj (by simp)⟩
/-- The widths of the first k boxes, and of one more. -/
theorem wides_succ {l : List (List (Int × Int))} {k : Nat} (h : k < l.length) : (l.take (k + 1)).map widthOf = (l.take k).map widthOf ++ [widthOf (l[k]?.getD [])] := by
  rw [List.take_add_one, List.map_append]
  simp [List.getElem?_eq_getElem h]
end Um
namespace Um
set_option linter.unusedSimpArgs false

def piecesF (b : List (Int × Int)) (n : Int) : Int := if boxF b = 0 then (if 0 ≤ n ∧ n ≤ 5 then 0 else 1) else boxF b
def piecesAll (b : List (Int × Int)) (n : Int) : List (List (Int × Int)) × Int := if piecesF b n = 0 then (piecesN b n.toNat, 0) else ([], piecesF b n)
theorem piecesF_ok {b : List (Int × Int)} {n : Int} : piecesF b n = 0 ↔ boxF b = 0 ∧ 0 ≤ n ∧ n ≤ 5 := by
  unfold piecesF
  by_cases h : boxF b = 0
  · rw [if_pos h]
    by_cases h2 : 0 ≤ n ∧ n ≤ 5
    · rw [if_pos h2]; exact ⟨fun _ => ⟨h, h2⟩, fun _ => rfl⟩
    · rw [if_neg h2]; exact ⟨fun e => absurd e (by decide), fun e => absurd e.2 h2⟩
  · rw [if_neg h]; exact ⟨fun e => absurd e h, fun e => absurd e.1 h⟩
theorem pieces_len32 {b : List (Int × Int)} {k : Nat} (h : k ≤ 5) : (piecesN b k).length ≤ 32 := by
  rw [pieces_len]
  exact Nat.le_trans (Nat.pow_le_pow_right (by decide) h) (by decide)
theorem piecesAll_most (b : List (Int × Int)) (n : Int) : (piecesAll b n).1.length ≤ 32 ∧ ∀ j, j < (piecesAll b n).1.length → boxF ((piecesAll b n).1[j]?.getD []) = 0 ∧ ((piecesAll b n).1[j]?.getD []).length ≤ 3 ∧ ((piecesAll b n).1[j]?.getD []).length = b.length := by
  unfold piecesAll
  by_cases h : piecesF b n = 0
  · rw [if_pos h]
    obtain ⟨h1, h2, h3⟩ := piecesF_ok.1 h
    refine ⟨pieces_len32 (by omega), fun j hj => ?_⟩
    have hj' : j < (piecesN b n.toNat).length := hj
    obtain ⟨a, c, _⟩ := pieces_in h1 n.toNat _ (pc_mem hj')
    exact ⟨a, (box_len a).2, c⟩
  · rw [if_neg h]
    exact ⟨by simp, fun j hj => absurd hj (Nat.not_lt_zero _)⟩
theorem piecesAll_none {b : List (Int × Int)} {n : Int} (h : ¬ piecesF b n = 0) : piecesAll b n = ([], piecesF b n) := by unfold piecesAll; rw [if_neg h]
theorem piecesAll_yes {b : List (Int × Int)} {n : Nat} (h : piecesF b n = 0) : piecesAll b n = (piecesN b n, piecesF b n) := by unfold piecesAll; rw [if_pos h, h]; rfl
theorem piecesAll_fault (b : List (Int × Int)) (n : Int) : (piecesAll b n).2 = piecesF b n := by
  unfold piecesAll
  by_cases h : piecesF b n = 0
  · rw [if_pos h, h]
  · rw [if_neg h]
def covF (s : List (List Tm)) (p b : List (Int × Int)) (n : Int) : Int := if sysF s p = 0 then (if piecesF b n = 0 then (if b.length = s.length then 0 else 3) else piecesF b n) else sysF s p
def covAll (s : List (List Tm)) (p b : List (Int × Int)) (n : Int) : List (Int × Int) × Int := if covF s p b n = 0 then covR s p b n.toNat else ([], covF s p b n)
theorem covF_ok {s : List (List Tm)} {p b : List (Int × Int)} {n : Int} : covF s p b n = 0 ↔ readyF s p b = 0 ∧ 0 ≤ n ∧ n ≤ 5 := by
  unfold covF
  by_cases h : sysF s p = 0
  · rw [if_pos h]
    by_cases h2 : piecesF b n = 0
    · rw [if_pos h2]
      have g := piecesF_ok.1 h2
      by_cases h3 : b.length = s.length
      · rw [if_pos h3]; exact ⟨fun _ => ⟨ready_ok.2 ⟨h, g.1, h3⟩, g.2⟩, fun _ => rfl⟩
      · rw [if_neg h3]; exact ⟨fun e => absurd e (by decide), fun e => absurd (ready_ok.1 e.1).2.2 h3⟩
    · rw [if_neg h2]; exact ⟨fun e => absurd e h2, fun e => absurd (piecesF_ok.2 ⟨(ready_ok.1 e.1).2.1, e.2⟩) h2⟩
  · rw [if_neg h]; exact ⟨fun e => absurd e h, fun e => absurd (ready_ok.1 e.1).1 h⟩
/-- Each piece is ready, where the box is. -/
theorem piece_ready {s : List (List Tm)} {p b : List (Int × Int)} (h : readyF s p b = 0) (d : Nat) {i : Nat} (hi : i < (piecesN b d).length) : readyF s p (pc (piecesN b d) i) = 0 := by
  obtain ⟨h1, h2, h3⟩ := ready_ok.1 h
  obtain ⟨a, c, _⟩ := pieces_in h2 d _ (pc_mem hi)
  exact ready_ok.2 ⟨h1, a, by omega⟩
/-- What is gathered is a right box. -/
theorem cov_box {s : List (List Tm)} {p : List (Int × Int)} {l : List (List (Int × Int))} (hl : ∀ i, i < l.length → readyF s p (pc l i) = 0) : ∀ n, n < l.length → (covN s p l (n + 1)).2 = 0 → boxF (covN s p l (n + 1)).1 = 0 ∧ (covN s p l (n + 1)).1.length = s.length := by
  intro n
  induction n with
  | zero =>
    intro hn h
    rw [cov_succ, if_pos (show (covN s p l 0).2 = 0 from rfl)] at h ⊢
    by_cases u : (behR s p (pc l 0)).2 = 0
    · rw [if_pos u, if_pos rfl]
      exact next_box (hl 0 hn) u
    · rw [if_neg u] at h; exact absurd h (by decide)
  | succ n ih =>
    intro hn h
    rw [cov_succ] at h ⊢
    by_cases c : (covN s p l (n + 1)).2 = 0
    · rw [if_pos c] at h ⊢
      by_cases u : (behR s p (pc l (n + 1))).2 = 0
      · rw [if_pos u, if_neg (by omega)]
        obtain ⟨i1, i2⟩ := ih (by omega) c
        have nb := next_box (hl (n + 1) hn) u
        have hb : boxesF (covN s p l (n + 1)).1 (behR s p (pc l (n + 1))).1 = 0 := boxes_ok.2 ⟨i1, nb.1, by rw [i2, nb.2]⟩
        exact ⟨(hull_box hb).1, by show (hullN _ _ _).length = _; rw [hull_length]; exact i2⟩
      · rw [if_neg u] at h; exact absurd h (by decide)
    · rw [if_neg c] at h; exact absurd h (by decide)
theorem covAll_is {s : List (List Tm)} {p b : List (Int × Int)} {n : Nat} (h : covF s p b n = 0) : covAll s p b n = covN s p (piecesN b n) (piecesN b n).length := by
  unfold covAll covR
  rw [if_pos h, pieces_len]; rfl
theorem covAll_not {s : List (List Tm)} {p b : List (Int × Int)} {n : Int} (h : ¬ covF s p b n = 0) : covAll s p b n = ([], covF s p b n) := by unfold covAll; rw [if_neg h]
theorem covAll_most (s : List (List Tm)) (p b : List (Int × Int)) (n : Int) : (covAll s p b n).1.length ≤ 3 := by
  by_cases h : covF s p b n = 0
  · obtain ⟨h1, h2, h3⟩ := covF_ok.1 h
    obtain ⟨m, rfl⟩ : ∃ m : Nat, n = m := ⟨n.toNat, by omega⟩
    rw [covAll_is h]
    have hp : 0 < (piecesN b m).length := by rw [pieces_len]; exact Nat.two_pow_pos m
    rcases cov_fault s p (piecesN b m) (piecesN b m).length with g | g
    · have e : (piecesN b m).length - 1 + 1 = (piecesN b m).length := by omega
      have := cov_box (fun i hi => piece_ready h1 m hi) ((piecesN b m).length - 1) (by omega) (by rw [e]; exact g)
      rw [e] at this
      exact (box_len this.1).2
    · rw [g]; simp
  · rw [covAll_not h]; simp
/-- Each halved, the first half ahead of the second. -/
def halvesL (l : List (List (Int × Int))) : List (List (Int × Int)) := l.flatMap fun c => [halfA c, halfB c]
theorem halves_len : ∀ l : List (List (Int × Int)), (halvesL l).length = 2 * l.length
  | [] => rfl
  | c :: l => by
    show ([halfA c, halfB c] ++ halvesL l).length = 2 * (l.length + 1)
    rw [List.length_append, halves_len l]
    show 2 + 2 * l.length = _
    omega
theorem halves_more {l : List (List (Int × Int))} {m : Nat} (h : m < l.length) : halvesL (l.take (m + 1)) = halvesL (l.take m) ++ [halfA (l[m]?.getD []), halfB (l[m]?.getD [])] := by
  unfold halvesL
  rw [List.take_add_one, List.flatMap_append, List.getElem?_eq_getElem h]
  rfl
theorem halves_some {l : List (List (Int × Int))} (h : ∀ c ∈ l, boxF c = 0) {m : Nat} : ∀ j, j < (halvesL (l.take m)).length → (halvesL (l.take m))[j]?.getD [] ≠ [] := fun j hj => by
  rw [List.getElem?_eq_getElem hj]
  have := List.getElem_mem hj
  obtain ⟨d, hd, hc⟩ := List.mem_flatMap.1 this
  have hb := half_box (h d (List.mem_of_mem_take hd))
  rcases List.mem_cons.1 hc with e | e
  · show (halvesL (l.take m))[j] ≠ []
    rw [e]; exact (box_ok.1 hb.1).1
  · show (halvesL (l.take m))[j] ≠ []
    rw [List.mem_singleton.1 e]; exact (box_ok.1 hb.2).1
theorem pieces_small {b : List (Int × Int)} {k : Nat} (h : k ≤ 5) : (piecesN b k).length ≤ 32 := by
  rw [pieces_len]
  exact Nat.le_trans (Nat.pow_le_pow_right (by decide) h) (by decide)
theorem pieces_box {b : List (Int × Int)} (h : boxF b = 0) (k : Nat) : ∀ c ∈ piecesN b k, boxF c = 0 := fun c hc => (pieces_in h k c hc).1
theorem pieces_at {b : List (Int × Int)} (h : boxF b = 0) {k m : Nat} (hm : m < (piecesN b k).length) : boxF ((piecesN b k)[m]?.getD []) = 0 := by
  rw [List.getElem?_eq_getElem hm]
  exact pieces_box h k _ (List.getElem_mem hm)
theorem cov_one (s : List (List Tm)) (p : List (Int × Int)) (l : List (List (Int × Int))) : covN s p l 1 = behR s p (pc l 0) := by
  rw [cov_succ, if_pos (show (covN s p l 0).2 = 0 from rfl)]
  rcases nextN_fault s p (pc l 0) s.length with h | h
  · have h' : (behR s p (pc l 0)).2 = 0 := h
    rw [if_pos h', if_pos rfl]
    exact Prod.ext rfl h'.symm
  · have h' : behR s p (pc l 0) = ([], 4) := h
    rw [h', if_neg (by decide)]
theorem cov_more {s : List (List Tm)} {p : List (Int × Int)} {l : List (List (Int × Int))} (hl : ∀ i, i < l.length → readyF s p (pc l i) = 0) {k : Nat} (hk : k + 1 < l.length) (hz : (covN s p l (k + 1)).2 = 0) (hu : (behR s p (pc l (k + 1))).2 = 0) :
    boxesF (covN s p l (k + 1)).1 (behR s p (pc l (k + 1))).1 = 0 ∧ covN s p l (k + 1 + 1) = (hullN (covN s p l (k + 1)).1 (behR s p (pc l (k + 1))).1 (covN s p l (k + 1)).1.length, 0) := by
  have c := cov_box hl k (by omega) hz
  have nb := next_box (hl (k + 1) hk) hu
  refine ⟨boxes_ok.2 ⟨c.1, nb.1, by rw [c.2, nb.2]⟩, ?_⟩
  rw [cov_succ s p l (k + 1), if_pos hz, if_pos hu, if_neg (by omega)]
theorem cov_halt {s : List (List Tm)} {p : List (Int × Int)} {l : List (List (Int × Int))} {k : Nat} (hk : k < l.length) (hu : ¬ (behR s p (pc l k)).2 = 0) : covN s p l l.length = ([], (behR s p (pc l k)).2) := by
  have e : behR s p (pc l k) = ([], 4) := (nextN_fault s p (pc l k) s.length).resolve_left hu
  rw [e]
  have h : ¬ (covN s p l (k + 1)).2 = 0 := by
    rw [cov_succ, e]
    split
    · rw [if_neg (by decide)]; decide
    · decide
  have := cov_stay h (l.length - (k + 1))
  rw [show k + 1 + (l.length - (k + 1)) = l.length by omega] at this
  exact this
theorem pieces_pos (b : List (Int × Int)) (k : Nat) : 0 < (piecesN b k).length := by rw [pieces_len]; exact Nat.two_pow_pos k
/-- Where the box has not as many sides as the system, that is told of the first piece. -/
theorem piece_shape {s : List (List Tm)} {p b : List (Int × Int)} (h : sysF s p = 0) (hb : boxF b = 0) (hn : ¬ b.length = s.length) (d : Nat) : ofAll s p (pc (piecesN b d) 0) = ([], 3) := by
  obtain ⟨a, c, _⟩ := pieces_in hb d _ (pc_mem (pieces_pos b d))
  have e : readyF s p (pc (piecesN b d) 0) = 3 := by
    unfold readyF
    rw [if_pos h, if_pos a, if_neg (by omega)]
  rw [ofAll_not (by rw [e]; decide), e]
theorem covAll_shape {s : List (List Tm)} {p b : List (Int × Int)} {n : Int} (h : sysF s p = 0) (h2 : piecesF b n = 0) (hn : ¬ b.length = s.length) : covAll s p b n = ([], 3) := by
  have e : covF s p b n = 3 := by unfold covF; rw [if_pos h, if_pos h2, if_neg hn]
  rw [covAll_not (by rw [e]; decide), e]
end Um
namespace Um
set_option linter.unusedSimpArgs false

def bigB (s : Int × Int) : Bool := !may s.1 || !may s.2
def bigL (c : List (Int × Int)) : Bool := c.any bigB
/-- What it grows to next. -/
def nextC (s : List (List Tm)) (p c : List (Int × Int)) (y : Int) : List (Int × Int) := widerL (hullN c (behR s p c).1 c.length) y
/-- It grows, so many times at most; the fault. -/
def growR (s : List (List Tm)) (p : List (Int × Int)) (y : Int) : Nat → List (Int × Int) → List (Int × Int) × Int
  | 0, c => if (behR s p c).2 = 0 then (if withinB (behR s p c).1 c = true then (c, 0) else ([], 5)) else ([], 4)
  | k + 1, c => if (behR s p c).2 = 0 then (if withinB (behR s p c).1 c = true then (c, 0) else if bigL (nextC s p c y) = true then ([], 4) else growR s p y k (nextC s p c y)) else ([], 4)
def growF (s : List (List Tm)) (p b : List (Int × Int)) (y most : Int) : Int := if 0 ≤ y ∧ y ≤ 1000000000 ∧ 0 ≤ most ∧ most ≤ 20 then readyF s p b else 1
def growAll (s : List (List Tm)) (p b : List (Int × Int)) (y most : Int) : List (Int × Int) × Int := if growF s p b y most = 0 then growR s p y most.toNat b else ([], growF s p b y most)
/-- Is it never left? -/
def isB (s : List (List Tm)) (p b : List (Int × Int)) : Bool := decide ((ofAll s p b).2 = 0) && withinB (ofAll s p b).1 b
theorem growF_ok {s : List (List Tm)} {p b : List (Int × Int)} {y most : Int} : growF s p b y most = 0 ↔ (0 ≤ y ∧ y ≤ 1000000000 ∧ 0 ≤ most ∧ most ≤ 20) ∧ readyF s p b = 0 := by
  unfold growF
  by_cases h : 0 ≤ y ∧ y ≤ 1000000000 ∧ 0 ≤ most ∧ most ≤ 20
  · rw [if_pos h]; exact ⟨fun e => ⟨h, e⟩, fun e => e.2⟩
  · rw [if_neg h]; exact ⟨fun e => absurd e (by decide), fun e => absurd e.1 h⟩
theorem grow_step {s : List (List Tm)} {p c : List (Int × Int)} {y : Int} {k : Nat} (h : (behR s p c).2 = 0) (hw : ¬ withinB (behR s p c).1 c = true) : growR s p y (k + 1) c = if bigL (nextC s p c y) = true then ([], 4) else growR s p y k (nextC s p c y) := by
  show (if _ then _ else _) = _
  rw [if_pos h, if_neg hw]
theorem grow_fault {s : List (List Tm)} {p c : List (Int × Int)} {y : Int} {k : Nat} (h : ¬ (behR s p c).2 = 0) : growR s p y k c = ([], 4) := by
  cases k with
  | zero => show (if _ then _ else _) = _; rw [if_neg h]
  | succ k => show (if _ then _ else _) = _; rw [if_neg h]
theorem grow_is {s : List (List Tm)} {p c : List (Int × Int)} {y : Int} {k : Nat} (h : (behR s p c).2 = 0) (hw : withinB (behR s p c).1 c = true) : growR s p y k c = (c, 0) := by
  cases k with
  | zero => show (if _ then _ else _) = _; rw [if_pos h, if_pos hw]
  | succ k => show (if _ then _ else _) = _; rw [if_pos h, if_pos hw]
theorem grow_end {s : List (List Tm)} {p c : List (Int × Int)} {y : Int} (h : (behR s p c).2 = 0) (hw : ¬ withinB (behR s p c).1 c = true) : growR s p y 0 c = ([], 5) := by
  show (if _ then _ else _) = _
  rw [if_pos h, if_neg hw]
theorem beh_boxes {s : List (List Tm)} {p c : List (Int × Int)} (hr : readyF s p c = 0) (h : (behR s p c).2 = 0) : boxesF (behR s p c).1 c = 0 ∧ boxesF c (behR s p c).1 = 0 := by
  obtain ⟨_, hb, hl⟩ := ready_ok.1 hr
  obtain ⟨nb, nl⟩ := next_box hr h
  exact ⟨boxes_ok.2 ⟨nb, hb, by omega⟩, boxes_ok.2 ⟨hb, nb, by omega⟩⟩
/-- What it grows to is as it should be, and has it. -/
theorem nextC_ok {s : List (List Tm)} {p c : List (Int × Int)} {y : Int} (hr : readyF s p c = 0) (h : (behR s p c).2 = 0) (hy : 0 ≤ y) (hg : ¬ bigL (nextC s p c y) = true) : readyF s p (nextC s p c y) = 0 ∧ withinP c (nextC s p c y) ∧ (nextC s p c y).length = c.length := by
  obtain ⟨hs, hb, hl⟩ := ready_ok.1 hr
  have hbb := (beh_boxes hr h).2
  obtain ⟨h1, h2, h3⟩ := hull_box hbb
  have hlen : (nextC s p c y).length = c.length := by unfold nextC; rw [wider_len, hull_length]
  have hcl := box_len hb
  have hw : withinP c (nextC s p c y) := within_trans (by rw [hull_length]) h2 (wider_has hy)
  have hbx : boxF (nextC s p c y) = 0 := by
    refine box_ok.2 ⟨by intro e; rw [e] at hlen; simp at hlen; omega, by omega, fun q hq => ?_⟩
    obtain ⟨i, hi, rfl⟩ := List.getElem_of_mem hq
    have e : (nextC s p c y)[i] = sd (nextC s p c y) i := by unfold sd; rw [List.getElem?_eq_getElem hi]; rfl
    have hm : bigB (nextC s p c y)[i] = false := by
      rw [← Bool.not_eq_true]
      intro g
      exact hg (List.any_eq_true.2 ⟨_, List.getElem_mem hi, g⟩)
    unfold bigB at hm
    simp only [Bool.or_eq_false_iff, Bool.not_eq_false'] at hm
    have a := hw i (by omega)
    rw [← e] at a
    have b := (chk_ok.1 (box_side hb (show i < c.length by omega))).2.2
    exact chk_ok.2 ⟨hm.1, hm.2, by omega⟩
  exact ⟨ready_ok.2 ⟨hs, hbx, by omega⟩, hw, hlen⟩
/-- What grew holds, and has what it grew of. -/
theorem grow_good {s : List (List Tm)} {p : List (Int × Int)} {y : Int} (hy : 0 ≤ y) : ∀ {k : Nat} {c : List (Int × Int)}, readyF s p c = 0 → (growR s p y k c).2 = 0 →
    readyF s p (growR s p y k c).1 = 0 ∧ (behR s p (growR s p y k c).1).2 = 0 ∧ withinP (behR s p (growR s p y k c).1).1 (growR s p y k c).1 ∧ withinP c (growR s p y k c).1 ∧ (growR s p y k c).1.length = c.length := by
  intro k
  induction k with
  | zero =>
    intro c hr h
    by_cases c1 : (behR s p c).2 = 0
    · by_cases c2 : withinB (behR s p c).1 c = true
      · rw [grow_is c1 c2]
        exact ⟨hr, c1, of_decide_eq_true c2, within_refl _, rfl⟩
      · rw [grow_end c1 c2] at h; exact absurd h (by decide)
    · rw [grow_fault c1] at h; exact absurd h (by decide)
  | succ k ih =>
    intro c hr h
    by_cases c1 : (behR s p c).2 = 0
    · by_cases c2 : withinB (behR s p c).1 c = true
      · rw [grow_is c1 c2]
        exact ⟨hr, c1, of_decide_eq_true c2, within_refl _, rfl⟩
      · rw [grow_step c1 c2] at h ⊢
        by_cases c3 : bigL (nextC s p c y) = true
        · rw [if_pos c3] at h; exact absurd h (by decide)
        · rw [if_neg c3] at h ⊢
          obtain ⟨n1, n2, n3⟩ := nextC_ok hr c1 hy c3
          obtain ⟨i1, i2, i3, i4, i5⟩ := ih n1 h
          exact ⟨i1, i2, i3, within_trans n3.symm n2 i4, by rw [i5, n3]⟩
    · rw [grow_fault c1] at h; exact absurd h (by decide)
/-- Of a box that is never left every path stays in it. -/
theorem path_holds {s : List (List Tm)} {p c : List (Int × Int)} {x : List Int} {u : List (List Int)} (hr : readyF s p c = 0) (h : (behR s p c).2 = 0) (hw : withinP (behR s p c).1 c) (hx : hasP c x) (hl : x.length = c.length) : ∀ {k : Nat}, (pathN s p x u k).2 = 0 → hasP c (pathN s p x u k).1 ∧ (pathN s p x u k).1.length = c.length
  | 0, _ => ⟨hx, hl⟩
  | k + 1, hp => by
    obtain ⟨p0, pe⟩ := path_step hp
    obtain ⟨i1, i2⟩ := path_holds hr h hw hx hl (k := k) p0
    rw [pe] at hp ⊢
    obtain ⟨m1, m2⟩ := move_in hr h i1 i2 hp
    have nl := (next_box hr h).2
    have hcl := (ready_ok.1 hr).2.2
    exact ⟨within_has (by omega) hw m1, by omega⟩
theorem growAll_good {s : List (List Tm)} {p b : List (Int × Int)} {y most : Int} (h : (growAll s p b y most).2 = 0) : growF s p b y most = 0 ∧ growAll s p b y most = growR s p y most.toNat b ∧ (growR s p y most.toNat b).2 = 0 := by
  unfold growAll at h ⊢
  by_cases c : growF s p b y most = 0
  · rw [if_pos c] at h ⊢; exact ⟨c, rfl, h⟩
  · rw [if_neg c] at h; exact absurd h c
theorem growR_none {s : List (List Tm)} {p : List (Int × Int)} {y : Int} : ∀ {k : Nat} {c : List (Int × Int)}, ¬ (growR s p y k c).2 = 0 → (growR s p y k c).1 = [] := by
  intro k
  induction k with
  | zero =>
    intro c h
    by_cases c1 : (behR s p c).2 = 0
    · by_cases c2 : withinB (behR s p c).1 c = true
      · rw [grow_is c1 c2] at h; exact absurd rfl h
      · rw [grow_end c1 c2]
    · rw [grow_fault c1]
  | succ k ih =>
    intro c h
    by_cases c1 : (behR s p c).2 = 0
    · by_cases c2 : withinB (behR s p c).1 c = true
      · rw [grow_is c1 c2] at h; exact absurd rfl h
      · rw [grow_step c1 c2] at h ⊢
        by_cases c3 : bigL (nextC s p c y) = true
        · rw [if_pos c3]
        · rw [if_neg c3] at h ⊢; exact ih h
    · rw [grow_fault c1]
/-- The first j sides wider by so much. -/
def wideTo (h : List (Int × Int)) (y : Int) (j : Nat) : List (Int × Int) := (widerL h y).take j ++ h.drop j
theorem wideTo_zero (h : List (Int × Int)) (y : Int) : wideTo h y 0 = h := by simp [wideTo]
theorem wideTo_len (h : List (Int × Int)) (y : Int) (j : Nat) (hj : j ≤ h.length) : (wideTo h y j).length = h.length := by
  unfold wideTo
  rw [List.length_append, List.length_take, List.length_drop, wider_len]
  omega
theorem wideTo_at {h : List (Int × Int)} {y : Int} {j : Nat} (hj : j < h.length) : sd (wideTo h y j) j = sd h j := by
  unfold wideTo sd
  rw [List.getElem?_append_right (by rw [List.length_take]; omega), List.length_take, wider_len, show j - min j h.length = 0 by omega, List.getElem?_drop]
  rfl
theorem set_sd {q : List (Int × Int)} {j : Nat} (hj : j < q.length) (x : Int × Int) : sd (q.set j x) j = x := by
  unfold sd
  rw [List.getElem?_set_self hj]; rfl
theorem wideTo_set {h : List (Int × Int)} {y : Int} {j : Nat} (hj : j < h.length) (x : Int × Int) (hx : x = ((sd h j).1 - y, (sd h j).2 + y)) : (wideTo h y j).set j x = wideTo h y (j + 1) := by
  subst hx
  unfold wideTo
  have hw : j < (widerL h y).length := by rw [wider_len]; exact hj
  rw [List.set_append_right _ _ (by rw [List.length_take]; omega), List.length_take, wider_len, show j - min j h.length = 0 by omega, List.take_add_one, List.getElem?_eq_getElem hw, List.append_assoc]
  congr 1
  have e := wider_side (b := h) (y := y) hj
  unfold sd at e
  rw [List.getElem?_eq_getElem hw, List.getElem?_eq_getElem hj] at e
  rw [List.drop_eq_getElem_cons hj]
  simp only [List.set_cons_zero, Option.toList_some, List.singleton_append]
  rw [show (widerL h y)[j] = ((h[j]).1 - y, (h[j]).2 + y) from e]
  unfold sd
  rw [List.getElem?_eq_getElem hj]
  rfl
theorem wideTo_all (h : List (Int × Int)) (y : Int) : wideTo h y h.length = widerL h y := by
  unfold wideTo
  rw [List.drop_length, List.append_nil, ← wider_len h y, List.take_length]
/-- Is one of the first j sides too big? -/
def bigN (h : List (Int × Int)) (y : Int) : Nat → Bool
  | 0 => false
  | j + 1 => bigN h y j || bigB (sd (widerL h y) j)
theorem bigN_take (h : List (Int × Int)) (y : Int) : ∀ j, j ≤ h.length → bigN h y j = ((widerL h y).take j).any bigB
  | 0, _ => rfl
  | j + 1, hj => by
    have hw : j < (widerL h y).length := by rw [wider_len]; omega
    show (bigN h y j || bigB (sd (widerL h y) j)) = _
    rw [bigN_take h y j (by omega), List.take_add_one, List.any_append, List.getElem?_eq_getElem hw]
    unfold sd
    rw [List.getElem?_eq_getElem hw]
    simp
theorem bigN_all (h : List (Int × Int)) (y : Int) : bigN h y h.length = bigL (widerL h y) := by
  rw [bigN_take h y _ (Nat.le_refl _), ← wider_len h y, List.take_length]
  rfl
/-- The fault so far. -/
def bigE (h : List (Int × Int)) (y : Int) (j : Nat) : Int := if bigN h y j = true then 4 else 0
/-- What is made wider, if it may be; the fault. -/
def grownR (h : List (Int × Int)) (y : Int) : List (Int × Int) × Int := if bigL (widerL h y) = true then ([], 4) else (widerL h y, 0)
theorem bigN_some {h : List (Int × Int)} {y : Int} {j : Nat} (hj : j < h.length) (hb : bigB (sd (widerL h y) j) = true) : grownR h y = ([], 4) := by
  have hw : j < (widerL h y).length := by rw [wider_len]; exact hj
  have e : bigL (widerL h y) = true := by
    refine List.any_eq_true.2 ⟨(widerL h y)[j], List.getElem_mem hw, ?_⟩
    unfold sd at hb
    rw [List.getElem?_eq_getElem hw] at hb
    exact hb
  unfold grownR
  rw [if_pos e]
theorem grown_ok {h : List (Int × Int)} {y : Int} (hb : bigN h y h.length = false) : grownR h y = (widerL h y, 0) := by
  unfold grownR
  rw [bigN_all] at hb
  rw [if_neg (by rw [hb]; decide)]
theorem wide_add {h : List (Int × Int)} {y : Int} {j : Nat} (hb : boxF h = 0) (hj : j < h.length) (h0 : 0 ≤ y) (h9 : y ≤ 1000000000) :
    made (addR (sd h j).1 (sd h j).2 (-y) y) (sd h j).1 (sd h j).2 (-y) y = if bigB (sd (widerL h y) j) = true then (0, 0, 4) else ((sd h j).1 - y, (sd h j).2 + y, 0) := by
  have hc : chk (-y) y = 0 := chk_ok.2 ⟨by unfold may; simp; omega, by unfold may; simp; omega, by omega⟩
  rw [made_good (box_side hb hj) hc, wider_side hj]
  unfold addR fit bigB
  rw [show (sd h j).1 + -y = (sd h j).1 - y by omega]
  by_cases a : may ((sd h j).1 - y) = true
  · by_cases c : may ((sd h j).2 + y) = true
    · simp [a, c]
    · simp [a, c]
  · simp [a]
theorem beh_four {s : List (List Tm)} {p c : List (Int × Int)} (h : ¬ (behR s p c).2 = 0) : behR s p c = ([], 4) := (nextN_fault s p c s.length).resolve_left h
theorem isB_yes {s : List (List Tm)} {p c : List (Int × Int)} (hr : readyF s p c = 0) (h : (behR s p c).2 = 0) : isB s p c = withinB (behR s p c).1 c := by
  unfold isB
  rw [ofAll_yes hr, decide_eq_true h, Bool.true_and]
theorem isB_not {s : List (List Tm)} {p c : List (Int × Int)} (h : ¬ (ofAll s p c).2 = 0) : isB s p c = false := by
  unfold isB
  rw [decide_eq_false h, Bool.false_and]
theorem grow_next {s : List (List Tm)} {p c : List (Int × Int)} {y : Int} {k : Nat} (h : (behR s p c).2 = 0) (hw : ¬ withinB (behR s p c).1 c = true) : growR s p y (k + 1) c = if (grownR (hullN c (behR s p c).1 c.length) y).2 = 0 then growR s p y k (grownR (hullN c (behR s p c).1 c.length) y).1 else ([], 4) := by
  rw [grow_step h hw]
  have g : grownR (hullN c (behR s p c).1 c.length) y = if bigL (nextC s p c y) = true then ([], 4) else (nextC s p c y, 0) := rfl
  rw [g]
  by_cases e : bigL (nextC s p c y) = true
  · simp only [if_pos e]
    rw [if_neg (by decide)]
  · simp only [if_neg e]
    rw [if_pos trivial]
theorem grown_ready {s : List (List Tm)} {p c : List (Int × Int)} {y : Int} (hr : readyF s p c = 0) (h : (behR s p c).2 = 0) (hy : 0 ≤ y) (hg : (grownR (hullN c (behR s p c).1 c.length) y).2 = 0) : readyF s p (grownR (hullN c (behR s p c).1 c.length) y).1 = 0 := by
  unfold grownR at hg ⊢
  by_cases e : bigL (nextC s p c y) = true
  · unfold nextC at e
    rw [if_pos e] at hg
    exact absurd hg (by decide)
  · have := (nextC_ok hr h hy e).1
    unfold nextC at e this
    rw [if_neg e]
    exact this
end Um
namespace Um
set_option linter.unusedSimpArgs false

/-- Has it something in common? -/
def metB (a d : List (Int × Int)) : Bool := decide ((meetN a d a.length).2 = 0)
/-- The first of a row that has; the fault. -/
def whenL (d : List (Int × Int)) : List (List (Int × Int)) → Int × Int
  | [] => (0, 5)
  | c :: l => if metB c d = true then (0, 0) else if (whenL d l).2 = 0 then ((whenL d l).1 + 1, 0) else (0, 5)
theorem when_cons (d c : List (Int × Int)) (l : List (List (Int × Int))) : whenL d (c :: l) = if metB c d = true then (0, 0) else if (whenL d l).2 = 0 then ((whenL d l).1 + 1, 0) else (0, 5) := rfl
theorem when_fault (d : List (Int × Int)) (l : List (List (Int × Int))) : ((whenL d l).2 = 0 ∧ 0 ≤ (whenL d l).1 ∧ (whenL d l).1 < l.length) ∨ whenL d l = (0, 5) := by
  induction l with
  | nil => exact .inr rfl
  | cons c l ih =>
    rw [when_cons]
    by_cases h : metB c d = true
    · rw [if_pos h]; exact .inl ⟨rfl, Int.le_refl _, by simp⟩
    · rw [if_neg h]
      by_cases g : (whenL d l).2 = 0
      · rw [if_pos g]
        rcases ih with ⟨_, i1, i2⟩ | e
        · refine .inl ⟨rfl, ?_, ?_⟩
          · show 0 ≤ (whenL d l).1 + 1; omega
          · show (whenL d l).1 + 1 < ((c :: l).length : Int); rw [List.length_cons]; omega
        · rw [e] at g; exact absurd g (by decide)
      · rw [if_neg g]; exact .inr rfl
/-- None ahead of the first has. -/
theorem when_first {d : List (Int × Int)} : ∀ {l : List (List (Int × Int))} {j : Nat}, (whenL d l).2 = 0 → (j : Int) < (whenL d l).1 → metB (l[j]?.getD []) d = false
  | [], _, h, _ => by cases h
  | c :: l, j, h, hj => by
    rw [when_cons] at h hj
    by_cases m : metB c d = true
    · rw [if_pos m] at hj
      have : (j : Int) < 0 := hj
      omega
    · rw [if_neg m] at h hj
      by_cases g : (whenL d l).2 = 0
      · rw [if_pos g] at hj
        cases j with
        | zero => simpa using m
        | succ j =>
          have q : ((j + 1 : Nat) : Int) < (whenL d l).1 + 1 := hj
          have := when_first (l := l) (j := j) g (by omega)
          simpa using this
      · rw [if_neg g] at h; exact absurd h (by decide)
theorem when_none {d : List (Int × Int)} : ∀ {l : List (List (Int × Int))} {j : Nat}, ¬ (whenL d l).2 = 0 → j < l.length → metB (l[j]?.getD []) d = false
  | [], _, _, h => absurd h (Nat.not_lt_zero _)
  | c :: l, j, h, hj => by
    rw [when_cons] at h
    by_cases m : metB c d = true
    · rw [if_pos m] at h; exact absurd rfl h
    · rw [if_neg m] at h
      by_cases g : (whenL d l).2 = 0
      · rw [if_pos g] at h; exact absurd rfl h
      · cases j with
        | zero => simpa using m
        | succ j =>
          have := when_none (l := l) (j := j) g (by simpa using hj)
          simpa using this
/-- The first from the k-th on. -/
def whenK (d : List (Int × Int)) (l : List (List (Int × Int))) (k : Nat) : Int × Int := if (whenL d (l.drop k)).2 = 0 then ((whenL d (l.drop k)).1 + k, 0) else (0, 5)
theorem whenK_end (d : List (Int × Int)) (l : List (List (Int × Int))) : whenK d l l.length = (0, 5) := by
  unfold whenK
  rw [List.drop_length, if_neg (by intro h; cases h)]
theorem whenK_zero (d : List (Int × Int)) (l : List (List (Int × Int))) : whenK d l 0 = whenL d l := by
  unfold whenK
  rw [List.drop_zero]
  rcases when_fault d l with ⟨h, _⟩ | e
  · rw [if_pos h]
    show ((whenL d l).1 + 0, (0 : Int)) = _
    rw [Int.add_zero, ← h]
  · rw [e, if_neg (by decide)]
theorem whenK_yes {d : List (Int × Int)} {l : List (List (Int × Int))} {k : Nat} (hk : k < l.length) (h : metB (l[k]?.getD []) d = true) : whenK d l k = ((k : Int), 0) := by
  rw [List.getElem?_eq_getElem hk] at h
  have h' : metB l[k] d = true := h
  unfold whenK
  rw [List.drop_eq_getElem_cons hk, when_cons, if_pos h', if_pos rfl]
  show ((0 : Int) + k, (0 : Int)) = _
  rw [Int.zero_add]
theorem whenK_no {d : List (Int × Int)} {l : List (List (Int × Int))} {k : Nat} (hk : k < l.length) (h : metB (l[k]?.getD []) d = false) : whenK d l k = whenK d l (k + 1) := by
  rw [List.getElem?_eq_getElem hk] at h
  have h' : ¬ metB l[k] d = true := by rw [show metB l[k] d = false from h]; decide
  unfold whenK
  rw [List.drop_eq_getElem_cons hk, when_cons, if_neg h']
  by_cases g : (whenL d (l.drop (k + 1))).2 = 0
  · rw [if_pos g, if_pos g, if_pos rfl]
    show ((whenL d (l.drop (k + 1))).1 + 1 + (k : Int), (0 : Int)) = _
    congr 1
    omega
  · rw [if_neg g, if_neg g, if_neg (by decide)]
/-- What is wrong with all of it. -/
def safeF (s : List (List Tm)) (p b d : List (Int × Int)) (n : Int) : Int := if boxF d = 0 then (if (tubeAll s p b n).2 = 0 then (if d.length = b.length then 0 else 3) else (tubeAll s p b n).2) else boxF d
theorem safe_ok {s : List (List Tm)} {p b d : List (Int × Int)} {n : Int} : safeF s p b d n = 0 ↔ boxF d = 0 ∧ (tubeAll s p b n).2 = 0 ∧ d.length = b.length := by
  unfold safeF
  by_cases h : boxF d = 0
  · rw [if_pos h]
    by_cases h2 : (tubeAll s p b n).2 = 0
    · rw [if_pos h2]
      by_cases h3 : d.length = b.length
      · rw [if_pos h3]; exact ⟨fun _ => ⟨h, h2, h3⟩, fun _ => rfl⟩
      · rw [if_neg h3]; exact ⟨fun e => absurd e (by decide), fun e => absurd e.2.2 h3⟩
    · rw [if_neg h2]; exact ⟨fun e => absurd e h2, fun e => absurd e.2.1 h2⟩
  · rw [if_neg h]; exact ⟨fun e => absurd e h, fun e => absurd e.1 h⟩
def whenAll (s : List (List Tm)) (p b d : List (Int × Int)) (n : Int) : Int × Int := if safeF s p b d n = 0 then whenL d (tubeAll s p b n).1 else (0, safeF s p b d n)
theorem whenAll_yes {s : List (List Tm)} {p b d : List (Int × Int)} {n : Int} (h : safeF s p b d n = 0) : whenAll s p b d n = whenL d (tubeAll s p b n).1 := by unfold whenAll; rw [if_pos h]
theorem whenAll_not {s : List (List Tm)} {p b d : List (Int × Int)} {n : Int} (h : ¬ safeF s p b d n = 0) : whenAll s p b d n = (0, safeF s p b d n) := by unfold whenAll; rw [if_neg h]
/-- Is it never met? -/
def clearB (s : List (List Tm)) (p b d : List (Int × Int)) (n : Int) : Bool := decide (safeF s p b d n = 0) && !decide ((whenL d (tubeAll s p b n).1).2 = 0)
theorem clear_not {s : List (List Tm)} {p b d : List (Int × Int)} {n : Int} (h : ¬ safeF s p b d n = 0) : clearB s p b d n = false := by unfold clearB; rw [decide_eq_false h, Bool.false_and]
theorem clear_yes {s : List (List Tm)} {p b d : List (Int × Int)} {n : Int} (h : safeF s p b d n = 0) : clearB s p b d n = !decide ((whenAll s p b d n).2 = 0) := by unfold clearB; rw [decide_eq_true h, Bool.true_and, whenAll_yes h]
theorem tubeAll_told {s : List (List Tm)} {p b : List (Int × Int)} {n : Int} (h : (tubeAll s p b n).2 = 0) : (0 ≤ n ∧ n ≤ 20) ∧ readyF s p b = 0 ∧ (tubeN s p b n.toNat).2 = 0 ∧ tubeAll s p b n = (tubes s p b (n.toNat + 1), 0) := by
  by_cases h1 : 0 ≤ n ∧ n ≤ 20
  · by_cases h2 : readyF s p b = 0
    · obtain ⟨m, rfl⟩ : ∃ m : Nat, n = m := ⟨n.toNat, by omega⟩
      rw [Int.toNat_natCast]
      by_cases h3 : (tubeN s p b m).2 = 0
      · exact ⟨h1, h2, h3, tubeAll_yes (by omega) h2 h3⟩
      · rw [tubeAll_full (by omega) h2 h3] at h; exact absurd h (by decide)
    · rw [tubeAll_not h1 h2] at h; exact absurd h h2
  · rw [tubeAll_range h1] at h; exact absurd h (by decide)
/-- A box of the row and what it must not meet are as they should be. -/
theorem safe_boxes {s : List (List Tm)} {p b d : List (Int × Int)} {n : Int} (h : safeF s p b d n = 0) {k : Nat} (hk : k < (tubeAll s p b n).1.length) : boxesF ((tubeAll s p b n).1[k]?.getD []) d = 0 := by
  obtain ⟨h1, h2, h3⟩ := safe_ok.1 h
  obtain ⟨hn, hr, ht, e⟩ := tubeAll_told h2
  rw [e] at hk ⊢
  have hk' : k < n.toNat + 1 := by have : k < (tubes s p b (n.toNat + 1)).length := hk; rwa [tubes_length] at this
  show boxesF ((tubes s p b (n.toNat + 1))[k]?.getD []) d = 0
  rw [tubes_get hk']
  obtain ⟨_, q1, q2⟩ := ready_ok.1 (tube_ready hr (tube_down ht (show k ≤ n.toNat by omega)))
  have := (ready_ok.1 hr).2.2
  exact boxes_ok.2 ⟨q1, h1, by omega⟩
/-- No point of a path is where its box is not. -/
theorem safe_never {s : List (List Tm)} {p b d : List (Int × Int)} {x : List Int} {u : List (List Int)} (h : safeF s p b d u.length = 0) (hp : (pathAll s p x u).2 = 0) (hx : hasP b x) {k : Nat} (hk : k < u.length + 1) (hm : metB ((tubeAll s p b u.length).1[k]?.getD []) d = false) : ¬ hasP d (pathN s p x u k).1 ∧ (pathN s p x u k).1.length = d.length := by
  obtain ⟨h1, h2, h3⟩ := safe_ok.1 h
  obtain ⟨hn, hr, ht, e⟩ := tubeAll_told h2
  obtain ⟨f0, f1, f2⟩ := pathAll_good hp
  obtain ⟨l20, hsy, hxl⟩ := pathF_ok.1 f0
  rw [Int.toNat_natCast] at ht e
  have hlen : x.length = b.length := by have := (ready_ok.1 hr).2.2; omega
  have t0 := tube_down ht (show k ≤ u.length by omega)
  obtain ⟨g1, g2⟩ := flow_in (u := u) hr hx hlen t0 (path_down f1 (show k ≤ u.length by omega))
  rw [e] at hm
  have hm' : metB ((tubes s p b (u.length + 1))[k]?.getD []) d = false := hm
  rw [tubes_get hk] at hm'
  obtain ⟨_, q1, q2⟩ := ready_ok.1 (tube_ready hr t0)
  have hb := (ready_ok.1 hr).2.2
  refine ⟨fun g => meet_none (a := (tubeN s p b k).1) (b := d) (by omega) (of_decide_eq_false hm') ⟨g1, g⟩, by omega⟩
/-- Of itself it has something in common. -/
theorem met_self {b : List (Int × Int)} (h : boxF b = 0) : metB b b = true := by
  have key : ∀ k, k ≤ b.length → (meetN b b k).2 = 0 := by
    intro k
    induction k with
    | zero => intro _; rfl
    | succ k ih =>
      intro hk
      have := (chk_ok.1 (box_side h (show k < b.length by omega))).2.2
      rw [meetN_next (ih (by omega)) (by omega)]
  exact decide_eq_true (key _ (Nat.le_refl _))
theorem self_when {s : List (List Tm)} {p b : List (Int × Int)} {n : Int} (h : safeF s p b b n = 0) : whenAll s p b b n = (0, 0) := by
  obtain ⟨h1, h2, _⟩ := safe_ok.1 h
  obtain ⟨_, _, _, e⟩ := tubeAll_told h2
  rw [whenAll_yes h, e]
  have c : tubes s p b (n.toNat + 1) = b :: (tubes s p b (n.toNat + 1)).drop 1 := by
    unfold tubes
    rw [List.range_succ_eq_map]
    rfl
  show whenL b (tubes s p b (n.toNat + 1)) = _
  rw [c, when_cons, if_pos (met_self h1)]
end Um
namespace Um
set_option linter.unusedSimpArgs false

/-- Step by step in pieces. -/
def pieT (s : List (List Tm)) (p b : List (Int × Int)) (d : Int) : Nat → List (Int × Int)
  | 0 => b
  | k + 1 => (covAll s p (pieT s p b d k) d).1
theorem pieT_succ (s : List (List Tm)) (p b : List (Int × Int)) (d : Int) (k : Nat) : pieT s p b d (k + 1) = (covAll s p (pieT s p b d k) d).1 := rfl
theorem move_cov {s : List (List Tm)} {p c : List (Int × Int)} {x q : List Int} (h0 : readyF s p c = 0) (h2 : (behR s p c).2 = 0) (hx : hasP c x) (hl : x.length = c.length) (hm : (movAll s p x q).2 = 0) (d : Nat) : hasP (covR s p c d).1 (movAll s p x q).1 ∧ (movAll s p x q).1.length = s.length := by
  obtain ⟨m0, e2, m2⟩ := movAll_good hm
  obtain ⟨_, ⟨_, hq⟩, hpu, _⟩ := mov_ok.1 m0
  obtain ⟨l, g⟩ := movN_ok m2
  rw [e2]
  refine ⟨cover_has h0 h2 d hx hl fun i hi => ?_, l⟩
  obtain ⟨g1, g2, _⟩ := g i hi
  have u := hpu i (by omega)
  exact ⟨nm q i, u.1, u.2, by rw [g2, pt_value g1]⟩
theorem cov_is {s : List (List Tm)} {p c : List (Int × Int)} {d : Int} (h0 : readyF s p c = 0) (hd : 0 ≤ d ∧ d ≤ 5) : covAll s p c d = covR s p c d.toNat := by
  unfold covAll
  rw [if_pos (covF_ok.2 ⟨h0, hd⟩)]
/-- In pieces it is within the whole. -/
theorem pieT_ok {s : List (List Tm)} {p b : List (Int × Int)} {d : Int} (hr : readyF s p b = 0) (hd : 0 ≤ d ∧ d ≤ 5) : ∀ {k : Nat}, (tubeN s p b k).2 = 0 → readyF s p (pieT s p b d k) = 0 ∧ withinP (pieT s p b d k) (tubeN s p b k).1 ∧ (pieT s p b d k).length = (tubeN s p b k).1.length
  | 0, _ => ⟨hr, within_refl _, rfl⟩
  | k + 1, h => by
    obtain ⟨t0, te⟩ := tube_step h
    obtain ⟨i1, i2, i3⟩ := pieT_ok hr hd (k := k) t0
    have tr := tube_ready hr t0
    have hb : (behR s p (tubeN s p b k).1).2 = 0 := by rw [te] at h; exact h
    obtain ⟨n1, n2⟩ := next_in tr i1 i2 hb
    obtain ⟨c1, c2, c3, c4⟩ := cover_within i1 n1 d.toNat
    have nl := (next_box i1 n1).2
    have nl2 := (next_box tr hb).2
    rw [pieT_succ, cov_is i1 hd, te]
    exact ⟨ready_ok.2 ⟨(ready_ok.1 hr).1, c2, c3⟩, within_trans (by omega) c4 n2, by omega⟩
/-- A step of all tells no fault. -/
theorem pieT_next {s : List (List Tm)} {p b : List (Int × Int)} {d : Int} (hr : readyF s p b = 0) (hd : 0 ≤ d ∧ d ≤ 5) {k : Nat} (h : (tubeN s p b (k + 1)).2 = 0) : (covAll s p (pieT s p b d k) d).2 = 0 := by
  obtain ⟨t0, te⟩ := tube_step h
  obtain ⟨i1, i2, i3⟩ := pieT_ok hr hd (k := k) t0
  have hb : (behR s p (tubeN s p b k).1).2 = 0 := by rw [te] at h; exact h
  obtain ⟨n1, n2⟩ := next_in (tube_ready hr t0) i1 i2 hb
  rw [cov_is i1 hd]
  exact (cover_within i1 n1 d.toNat).1
/-- Each path is in it. -/
theorem pieT_has {s : List (List Tm)} {p b : List (Int × Int)} {d : Int} {x : List Int} {u : List (List Int)} (hr : readyF s p b = 0) (hd : 0 ≤ d ∧ d ≤ 5) (hx : hasP b x) (hl : x.length = b.length) : ∀ {k : Nat}, (tubeN s p b k).2 = 0 → (pathN s p x u k).2 = 0 → hasP (pieT s p b d k) (pathN s p x u k).1 ∧ (pathN s p x u k).1.length = (pieT s p b d k).length
  | 0, _, _ => ⟨hx, hl⟩
  | k + 1, h, hp => by
    obtain ⟨t0, te⟩ := tube_step h
    obtain ⟨p0, pe⟩ := path_step hp
    obtain ⟨q1, q2⟩ := pieT_has hr hd hx hl (k := k) t0 p0
    obtain ⟨i1, i2, i3⟩ := pieT_ok hr hd (k := k) t0
    have hb : (behR s p (tubeN s p b k).1).2 = 0 := by rw [te] at h; exact h
    obtain ⟨n1, n2⟩ := next_in (tube_ready hr t0) i1 i2 hb
    rw [pe] at hp ⊢
    obtain ⟨m1, m2⟩ := move_cov i1 n1 q1 q2 hp d.toNat
    rw [pieT_succ, cov_is i1 hd]
    have := (cover_within i1 n1 d.toNat).2.2.1
    exact ⟨m1, by omega⟩
end Um
namespace Um
set_option linter.unusedSimpArgs false

/-- What is wrong with three spans. -/
def narF (xl xh yl yh zl zh : Int) : Int := if chk xl xh = 0 then (if chk yl yh = 0 then chk zl zh else chk yl yh) else chk xl xh
theorem nar_ok {xl xh yl yh zl zh : Int} : narF xl xh yl yh zl zh = 0 ↔ chk xl xh = 0 ∧ chk yl yh = 0 ∧ chk zl zh = 0 := by
  unfold narF
  by_cases h : chk xl xh = 0
  · rw [if_pos h]
    by_cases h2 : chk yl yh = 0
    · rw [if_pos h2]; exact ⟨fun e => ⟨h, h2, e⟩, fun e => e.2.2⟩
    · rw [if_neg h2]; exact ⟨fun e => absurd e h2, fun e => absurd e.2.1 h2⟩
  · rw [if_neg h]; exact ⟨fun e => absurd e h, fun e => absurd e.1 h⟩
def nsumAll (xl xh yl yh zl zh : Int) : Three := if narF xl xh yl yh zl zh = 0 then nsumR xl xh yl yh zl zh else no3 (narF xl xh yl yh zl zh)
def ntimesAll (xl xh yl yh zl zh : Int) : Three := if narF xl xh yl yh zl zh = 0 then ntimesR xl xh yl yh zl zh else no3 (narF xl xh yl yh zl zh)
theorem nsumAll_yes {xl xh yl yh zl zh : Int} (h : narF xl xh yl yh zl zh = 0) : nsumAll xl xh yl yh zl zh = nsumR xl xh yl yh zl zh := by unfold nsumAll; rw [if_pos h]
theorem nsumAll_not {xl xh yl yh zl zh : Int} (h : ¬ narF xl xh yl yh zl zh = 0) : nsumAll xl xh yl yh zl zh = no3 (narF xl xh yl yh zl zh) := by unfold nsumAll; rw [if_neg h]
theorem ntimesAll_yes {xl xh yl yh zl zh : Int} (h : narF xl xh yl yh zl zh = 0) : ntimesAll xl xh yl yh zl zh = ntimesR xl xh yl yh zl zh := by unfold ntimesAll; rw [if_pos h]
theorem ntimesAll_not {xl xh yl yh zl zh : Int} (h : ¬ narF xl xh yl yh zl zh = 0) : ntimesAll xl xh yl yh zl zh = no3 (narF xl xh yl yh zl zh) := by unfold ntimesAll; rw [if_neg h]
theorem nsum_point {a b zl zh : Int} (ha : may a = true) (hb : may b = true) (hm : may (a + b) = true) (h1 : zl ≤ a + b) (h2 : a + b ≤ zh) : nsumR a a b b zl zh = ((a, a), (b, b), (a + b, a + b), 0) := by
  have eT : addR a a b b = (a + b, a + b, 0) := by unfold addR fit; rw [if_pos ⟨hm, hm⟩]
  have eC : meetR zl zh (a + b) (a + b) = (a + b, a + b, 0) := by
    unfold meetR
    rw [Int.max_eq_right h1, Int.min_eq_right h2, if_pos (Int.le_refl _)]
  have eU : lessR (a + b) (a + b) b b = (a, a, 0) := by
    unfold lessR fit
    rw [show a + b - b = a by omega, if_pos ⟨ha, ha⟩]
  have eA : meetR a a a a = (a, a, 0) := by unfold meetR; rw [Int.max_self, Int.min_self, if_pos (Int.le_refl _)]
  have eV : lessR (a + b) (a + b) a a = (b, b, 0) := by
    unfold lessR fit
    rw [show a + b - a = b by omega, if_pos ⟨hb, hb⟩]
  have eB : meetR b b b b = (b, b, 0) := by unfold meetR; rw [Int.max_self, Int.min_self, if_pos (Int.le_refl _)]
  rw [nsum_is eT eC eU eA eV eB]
  rfl
theorem nsum_full {a b zl zh : Int} (hm : ¬ may (a + b) = true) : nsumR a a b b zl zh = no3 4 := by
  have e : addR a a b b = (0, 0, 4) := by unfold addR fit; rw [if_neg (fun g => hm g.1)]
  unfold nsumR
  rw [e]
  rfl
theorem nsum_none {a b zl zh : Int} (hm : may (a + b) = true) (h : ¬ (zl ≤ a + b ∧ a + b ≤ zh)) : nsumR a a b b zl zh = no3 5 := by
  have eT : addR a a b b = (a + b, a + b, 0) := by unfold addR fit; rw [if_pos ⟨hm, hm⟩]
  have eC : meetR zl zh (a + b) (a + b) = (0, 0, 5) := by
    unfold meetR
    rw [if_neg (by omega)]
  rw [nsum_is eT eC rfl rfl rfl rfl]
  rfl
theorem chk_self {a : Int} : chk a a = 0 ↔ may a = true := by
  rw [chk_ok]
  exact ⟨fun h => h.1, fun h => ⟨h, h, Int.le_refl _⟩⟩
/-- What is told of two that are known. -/
theorem point_told {a b zl zh : Int} (h : (nsumAll a a b b zl zh).2.2.2 = 0) : nsumAll a a b b zl zh = ((a, a), (b, b), (a + b, a + b), 0) ∧ may a = true ∧ may b = true := by
  by_cases c : narF a a b b zl zh = 0
  · rw [nsumAll_yes c] at h ⊢
    obtain ⟨h1, h2, -⟩ := nar_ok.1 c
    have ha := chk_self.1 h1
    have hb := chk_self.1 h2
    by_cases hm : may (a + b) = true
    · by_cases g : zl ≤ a + b ∧ a + b ≤ zh
      · exact ⟨nsum_point ha hb hm g.1 g.2, ha, hb⟩
      · rw [nsum_none hm g] at h; exact absurd h (by decide)
    · rw [nsum_full hm] at h; exact absurd h (by decide)
  · rw [nsumAll_not c] at h; exact absurd h c
/-- Where nothing is told, why. -/
theorem point_not {a b zl zh : Int} (h : ¬ (nsumAll a a b b zl zh).2.2.2 = 0) (h1 : -500000000 ≤ a) (h2 : a ≤ 500000000) (h3 : -500000000 ≤ b) (h4 : b ≤ 500000000) : a + b < zl ∨ zh < a + b ∨ ¬ chk zl zh = 0 := by
  by_cases z : chk zl zh = 0
  · have ha : may a = true := (may_iff _).2 (by omega)
    have hb : may b = true := (may_iff _).2 (by omega)
    have hm : may (a + b) = true := (may_iff _).2 (by omega)
    have c : narF a a b b zl zh = 0 := nar_ok.2 ⟨chk_self.2 ha, chk_self.2 hb, z⟩
    by_cases g : zl ≤ a + b ∧ a + b ≤ zh
    · rw [nsumAll_yes c, nsum_point ha hb hm g.1 g.2] at h; exact absurd rfl h
    · omega
  · exact .inr (.inr z)
end Um
