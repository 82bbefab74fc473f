/-
  Plain arithmetic of powers, no program: a number from 0 on with itself so many times, downward and upward; how far a span is from 0; its middle; a power of a span; what of a number of a span is in them.
-/
import Derived.Test.YtlddhapbnlmpiabSmath
namespace Um
set_option linter.unusedSimpArgs false
def ab (x : Int) : Int := if x < 0 then -x else x
/-- How far from 0: at least, and at most. -/
def farR (lo hi : Int) : Int × Int := (if lo ≤ 0 ∧ 0 ≤ hi then 0 else min (ab lo) (ab hi), max (ab lo) (ab hi))
def midR (lo hi : Int) : Int := fl (lo + hi) 2
/-- A number from 0 on, so many times: downward, upward; the fault. -/
def agR (n : Int) : Nat → Int × Int × Int
  | 0 => (1000, 1000, 0)
  | k + 1 => if (agR n k).2.2 = 0 then (if may (ce ((agR n k).2.1 * n) 1000) = true then (fl ((agR n k).1 * n) 1000, ce ((agR n k).2.1 * n) 1000, 0) else (0, 0, 4)) else (0, 0, 4)
theorem ag_succ (n : Int) (k : Nat) : agR n (k + 1) = if (agR n k).2.2 = 0 then (if may (ce ((agR n k).2.1 * n) 1000) = true then (fl ((agR n k).1 * n) 1000, ce ((agR n k).2.1 * n) 1000, 0) else (0, 0, 4)) else (0, 0, 4) := rfl
/-- Of an end: below 0 the negative of what its negative is the other way. -/
def endR (n : Int) (k : Nat) : Int × Int × Int := if 0 ≤ n then agR n k else (-(agR (-n) k).2.1, -(agR (-n) k).1, (agR (-n) k).2.2)
/-- The first fault of two, or the lower one of the first and the upper one of the second. -/
def both (a b : Int × Int × Int) : Int × Int × Int := if a.2.2 = 0 then (if b.2.2 = 0 then (a.1, b.2.1, 0) else (0, 0, b.2.2)) else (0, 0, a.2.2)
/-- A power of a span that is right. -/
def powR (lo hi : Int) (k : Nat) : Int × Int × Int :=
  if k % 2 = 0 then both (agR (farR lo hi).1 k) (agR (farR lo hi).2 k) else both (endR lo k) (endR hi k)

theorem ab_nonneg (x : Int) : 0 ≤ ab x := by unfold ab; split <;> omega
theorem ab_sq (x : Int) : ab x * ab x = x * x := by
  unfold ab; split
  · rw [Int.neg_mul_neg]
  · rfl
theorem far_has {lo hi x : Int} (h1 : lo ≤ x) (h2 : x ≤ hi) : (farR lo hi).1 ≤ ab x ∧ ab x ≤ (farR lo hi).2 := by
  unfold farR ab
  refine ⟨?_, ?_⟩
  · simp only []
    repeat' split
    all_goals omega
  · simp only []
    repeat' split
    all_goals omega
theorem far_right {lo hi : Int} (h : lo ≤ hi) : 0 ≤ (farR lo hi).1 ∧ (farR lo hi).1 ≤ (farR lo hi).2 := by
  unfold farR ab
  simp only []
  repeat' split
  all_goals omega
theorem far_may {lo hi : Int} (h1 : may lo = true) (h2 : may hi = true) : (farR lo hi).2 ≤ 1000000000 := by
  have a := (may_iff lo).1 h1
  have b := (may_iff hi).1 h2
  unfold farR ab
  simp only []
  repeat' split
  all_goals omega
theorem mid_has {lo hi : Int} (h : lo ≤ hi) : lo ≤ midR lo hi ∧ midR lo hi ≤ hi ∧ hi - midR lo hi - (midR lo hi - lo) ≤ 1 ∧ midR lo hi - lo ≤ hi - midR lo hi := by
  unfold midR
  have := fl_spec_pos (n := lo + hi) (d := 2) (by decide)
  omega

theorem fl_nonneg {n d : Int} (hd : 0 < d) (h : 0 ≤ n) : 0 ≤ fl n d := by
  rw [fl_pos hd]; exact Int.ediv_nonneg h (Int.le_of_lt hd)
theorem ag_fault (n : Int) (k : Nat) : (agR n k).2.2 = 0 ∨ agR n k = (0, 0, 4) := by
  cases k with
  | zero => exact .inl rfl
  | succ k =>
    rw [ag_succ]
    by_cases h : (agR n k).2.2 = 0
    · rw [if_pos h]
      by_cases h2 : may (ce ((agR n k).2.1 * n) 1000) = true
      · rw [if_pos h2]; exact .inl rfl
      · rw [if_neg h2]; exact .inr rfl
    · rw [if_neg h]; exact .inr rfl
/-- One time more. -/
theorem ag_step {n : Int} {k : Nat} (h : (agR n (k + 1)).2.2 = 0) :
    (agR n k).2.2 = 0 ∧ may (ce ((agR n k).2.1 * n) 1000) = true ∧ agR n (k + 1) = (fl ((agR n k).1 * n) 1000, ce ((agR n k).2.1 * n) 1000, 0) := by
  rw [ag_succ] at h ⊢
  by_cases h1 : (agR n k).2.2 = 0
  · rw [if_pos h1] at h ⊢
    by_cases h2 : may (ce ((agR n k).2.1 * n) 1000) = true
    · rw [if_pos h2]; exact ⟨h1, h2, rfl⟩
    · rw [if_neg h2] at h; exact absurd h (by decide)
  · rw [if_neg h1] at h; exact absurd h (by decide)
theorem ag_right {n : Int} (hn : 0 ≤ n) : ∀ (k : Nat), (agR n k).2.2 = 0 → 0 ≤ (agR n k).1 ∧ (agR n k).1 ≤ (agR n k).2.1 ∧ (agR n k).2.1 ≤ 1000000000
  | 0, _ => by show (0 : Int) ≤ 1000 ∧ (1000 : Int) ≤ 1000 ∧ (1000 : Int) ≤ 1000000000; decide
  | k + 1, h => by
    obtain ⟨h1, h2, e⟩ := ag_step h
    obtain ⟨i1, i2, _⟩ := ag_right hn k h1
    rw [e]
    have m := ((may_iff _).1 h2).2
    have a1 := Int.mul_nonneg i1 hn
    have a2 := Int.mul_le_mul_of_nonneg_right i2 hn
    have a3 := ce_mono (d := 1000) (by decide) a2
    have a4 := (fl_le_ce ((agR n k).1 * n) 1000 (by decide)).1
    exact ⟨fl_nonneg (d := 1000) (by decide) a1, Int.le_trans a4 a3, m⟩
theorem ag_one {n : Int} (hn : 0 ≤ n) (h : n ≤ 1000000000) : agR n 1 = (n, n, 0) := by
  have e1 : fl (1000 * n) 1000 = n := by rw [fl_pos (by decide)]; omega
  have e2 : ce (1000 * n) 1000 = n := by rw [ce_pos (by decide)]; omega
  have m : may n = true := (may_iff n).2 ⟨by omega, h⟩
  show (if (0 : Int) = 0 then (if may (ce (1000 * n) 1000) = true then (fl (1000 * n) 1000, ce (1000 * n) 1000, 0) else (0, 0, 4)) else (0, 0, 4)) = _
  rw [if_pos rfl, e1, e2, if_pos m]
theorem ag_two {n : Int} (hn : 0 ≤ n) (hm : n ≤ 1000000000) (h : (agR n 2).2.2 = 0) : (agR n 2).1 * 1000 ≤ n * n ∧ n * n ≤ (agR n 2).2.1 * 1000 := by
  obtain ⟨_, _, e⟩ := ag_step h
  rw [e, ag_one hn hm]
  have s1 := fl_spec_pos (n := n * n) (d := 1000) (by decide)
  have s2 := ce_spec_pos (n := n * n) (d := 1000) (by decide)
  exact ⟨by show fl (n * n) 1000 * 1000 ≤ _; omega, by show _ ≤ ce (n * n) 1000 * 1000; omega⟩
theorem ag_three {n : Int} (hn : 0 ≤ n) (hm : n ≤ 1000000000) (h : (agR n 3).2.2 = 0) : (agR n 3).1 * 1000000 ≤ n * n * n ∧ n * n * n ≤ (agR n 3).2.1 * 1000000 := by
  obtain ⟨h2, _, e⟩ := ag_step h
  obtain ⟨t1, t2⟩ := ag_two hn hm h2
  rw [e]
  generalize (agR n 2).1 = a at *
  generalize (agR n 2).2.1 = b at *
  have s1 := fl_spec_pos (n := a * n) (d := 1000) (by decide)
  have s2 := ce_spec_pos (n := b * n) (d := 1000) (by decide)
  have u1 := Int.mul_le_mul_of_nonneg_right t1 hn
  have u2 := Int.mul_le_mul_of_nonneg_right t2 hn
  have v1 : a * 1000 * n = 1000 * (a * n) := by rw [Int.mul_comm a 1000, Int.mul_assoc]
  have v2 : b * 1000 * n = 1000 * (b * n) := by rw [Int.mul_comm b 1000, Int.mul_assoc]
  rw [v1] at u1
  rw [v2] at u2
  exact ⟨by show fl (a * n) 1000 * 1000000 ≤ _; omega, by show _ ≤ ce (b * n) 1000 * 1000000; omega⟩

theorem sq_mono {a b : Int} (ha : 0 ≤ a) (h : a ≤ b) : a * a ≤ b * b := Int.mul_le_mul h h ha (Int.le_trans ha h)
theorem cube_mono_nonneg {a b : Int} (ha : 0 ≤ a) (h : a ≤ b) : a * a * a ≤ b * b * b :=
  Int.mul_le_mul (sq_mono ha h) h ha (Int.mul_nonneg (Int.le_trans ha h) (Int.le_trans ha h))
theorem cube_neg (a : Int) : (-a) * (-a) * (-a) = -(a * a * a) := by rw [Int.neg_mul_neg, Int.mul_neg]
theorem cube_sign {a : Int} (h : 0 ≤ a) : 0 ≤ a * a * a := Int.mul_nonneg (Int.mul_nonneg h h) h
theorem cube_mono {a b : Int} (h : a ≤ b) : a * a * a ≤ b * b * b := by
  rcases Int.le_total 0 a with ha | ha
  · exact cube_mono_nonneg ha h
  · rcases Int.le_total 0 b with hb | hb
    · have h1 := cube_sign (a := -a) (by omega)
      have h2 := cube_sign hb
      rw [cube_neg] at h1
      omega
    · have h1 := cube_mono_nonneg (a := -b) (b := -a) (by omega) (by omega)
      rw [cube_neg, cube_neg] at h1
      omega

theorem both_ok {a b : Int × Int × Int} (h : (both a b).2.2 = 0) : a.2.2 = 0 ∧ b.2.2 = 0 ∧ both a b = (a.1, b.2.1, 0) := by
  unfold both at h ⊢
  by_cases h1 : a.2.2 = 0
  · rw [if_pos h1] at h ⊢
    by_cases h2 : b.2.2 = 0
    · rw [if_pos h2]; exact ⟨h1, h2, rfl⟩
    · rw [if_neg h2] at h; exact absurd h h2
  · rw [if_neg h1] at h; exact absurd h h1
theorem both_fault {a b : Int × Int × Int} (h : ¬ (both a b).2.2 = 0) : (both a b).1 = 0 ∧ (both a b).2.1 = 0 := by
  unfold both at h ⊢
  by_cases h1 : a.2.2 = 0
  · rw [if_pos h1] at h ⊢
    by_cases h2 : b.2.2 = 0
    · rw [if_pos h2] at h; exact absurd rfl h
    · rw [if_neg h2]; exact ⟨rfl, rfl⟩
  · rw [if_neg h1]; exact ⟨rfl, rfl⟩

/-- Of an even power nothing is below 0. -/
theorem pow_even {lo hi : Int} {k : Nat} (hl : lo ≤ hi) (hk : k % 2 = 0) (h : (powR lo hi k).2.2 = 0) : 0 ≤ (powR lo hi k).1 := by
  unfold powR at h ⊢
  rw [if_pos hk] at h ⊢
  obtain ⟨h1, h2, e⟩ := both_ok h
  rw [e]
  exact (ag_right (far_right hl).1 k h1).1
/-- The square of a number of a span is in it. -/
theorem pow_two {lo hi x : Int} (m1 : may lo = true) (m2 : may hi = true) (h1 : lo ≤ x) (h2 : x ≤ hi) (h : (powR lo hi 2).2.2 = 0) :
    may (powR lo hi 2).1 = true ∧ may (powR lo hi 2).2.1 = true ∧ (powR lo hi 2).1 * 1000 ≤ x * x ∧ x * x ≤ (powR lo hi 2).2.1 * 1000 := by
  have hf := far_has h1 h2
  have hr := far_right (Int.le_trans h1 h2)
  have hm := far_may m1 m2
  unfold powR at h ⊢
  rw [if_pos (by decide)] at h ⊢
  obtain ⟨k1, k2, e⟩ := both_ok h
  rw [e]
  generalize (farR lo hi).1 = p at *
  generalize (farR lo hi).2 = q at *
  have a1 := ag_two hr.1 (by omega) k1
  have a2 := ag_two (n := q) (by omega) hm k2
  have r1 := ag_right hr.1 2 k1
  have r2 := ag_right (n := q) (by omega) 2 k2
  have g1 := sq_mono hr.1 hf.1
  have g2 := sq_mono (ab_nonneg x) hf.2
  rw [ab_sq] at g1 g2
  refine ⟨(may_iff _).2 ⟨?_, ?_⟩, (may_iff _).2 ⟨?_, ?_⟩, ?_, ?_⟩
  · show -1000000000 ≤ (agR p 2).1; omega
  · show (agR p 2).1 ≤ 1000000000; omega
  · show -1000000000 ≤ (agR q 2).2.1; omega
  · show (agR q 2).2.1 ≤ 1000000000; omega
  · show (agR p 2).1 * 1000 ≤ x * x; omega
  · show x * x ≤ (agR q 2).2.1 * 1000; omega

theorem end_three {n : Int} (hm : may n = true) (h : (endR n 3).2.2 = 0) :
    -1000000000 ≤ (endR n 3).1 ∧ (endR n 3).2.1 ≤ 1000000000 ∧ (endR n 3).1 ≤ (endR n 3).2.1 ∧ (endR n 3).1 * 1000000 ≤ n * n * n ∧ n * n * n ≤ (endR n 3).2.1 * 1000000 := by
  have hb := (may_iff n).1 hm
  unfold endR at h ⊢
  by_cases hn : 0 ≤ n
  · rw [if_pos hn] at h ⊢
    have r := ag_right hn 3 h
    have t := ag_three hn hb.2 h
    exact ⟨by omega, by omega, by omega, t.1, t.2⟩
  · rw [if_neg hn] at h ⊢
    have hn' : 0 ≤ -n := by omega
    have h' : (agR (-n) 3).2.2 = 0 := h
    have r := ag_right hn' 3 h'
    have t := ag_three hn' (by omega) h'
    rw [cube_neg] at t
    refine ⟨?_, ?_, ?_, ?_, ?_⟩
    · show -1000000000 ≤ -(agR (-n) 3).2.1; omega
    · show -(agR (-n) 3).1 ≤ 1000000000; omega
    · show -(agR (-n) 3).2.1 ≤ -(agR (-n) 3).1; omega
    · show -(agR (-n) 3).2.1 * 1000000 ≤ n * n * n; omega
    · show n * n * n ≤ -(agR (-n) 3).1 * 1000000; omega
/-- The third power of a number of a span is in it. -/
theorem pow_three {lo hi x : Int} (m1 : may lo = true) (m2 : may hi = true) (h1 : lo ≤ x) (h2 : x ≤ hi) (h : (powR lo hi 3).2.2 = 0) :
    (powR lo hi 3).1 ≤ fl (x * x * x) 1000000 ∧ ce (x * x * x) 1000000 ≤ (powR lo hi 3).2.1 := by
  unfold powR at h ⊢
  rw [if_neg (by decide)] at h ⊢
  obtain ⟨k1, k2, e⟩ := both_ok h
  rw [e]
  have t1 := (end_three m1 k1).2.2.2.1
  have t2 := (end_three m2 k2).2.2.2.2
  have c1 := cube_mono h1
  have c2 := cube_mono h2
  have s1 := fl_spec_pos (n := x * x * x) (d := 1000000) (by decide)
  have s2 := ce_spec_pos (n := x * x * x) (d := 1000000) (by decide)
  refine ⟨?_, ?_⟩
  · show (endR lo 3).1 ≤ fl (x * x * x) 1000000; omega
  · show ce (x * x * x) 1000000 ≤ (endR hi 3).2.1; omega
theorem pow_zero (lo hi : Int) : powR lo hi 0 = (1000, 1000, 0) := rfl
theorem pow_once {lo hi : Int} (m1 : may lo = true) (m2 : may hi = true) : powR lo hi 1 = (lo, hi, 0) := by
  have a := (may_iff lo).1 m1
  have b := (may_iff hi).1 m2
  have e : ∀ n, -1000000000 ≤ n → n ≤ 1000000000 → endR n 1 = (n, n, 0) := fun n h1 h2 => by
    unfold endR
    by_cases h : 0 ≤ n
    · rw [if_pos h, ag_one h h2]
    · rw [if_neg h, ag_one (n := -n) (by omega) (by omega)]; simp
  unfold powR
  rw [if_neg (by decide), e lo a.1 a.2, e hi b.1 b.2]
  rfl
end Um
