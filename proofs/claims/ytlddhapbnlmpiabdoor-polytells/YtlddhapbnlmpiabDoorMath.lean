/-
  Plain arithmetic, no program: rounding down ('fl') and up ('ce') of n by d; how Go's division that cuts toward 0 comes to them.
-/
import Init
namespace Um
set_option linter.unusedSimpArgs false
/-- n by d, rounded down. -/
def fl (n d : Int) : Int := if 0 < d then n / d else (-n) / (-d)
/-- n by d, rounded up. -/
def ce (n d : Int) : Int := -(fl (-n) d)
/-- May a number be? -/
def may (n : Int) : Bool := decide (-1000000000 ≤ n) && decide (n ≤ 1000000000)

theorem may_iff (n : Int) : may n = true ↔ -1000000000 ≤ n ∧ n ≤ 1000000000 := by simp [may]
theorem may_not (n : Int) : may n = false ↔ ¬ (-1000000000 ≤ n ∧ n ≤ 1000000000) := by
  rw [← may_iff]; cases may n <;> simp

theorem ediv_of {n c p r : Int} (hc : 0 < c) (h : n = c * p + r) (h0 : 0 ≤ r) (h1 : r < c) : n / c = p :=
  ((Int.ediv_emod_unique hc).2 ⟨by rw [h]; omega, h0, h1⟩).1

theorem tparts (n c : Int) (hc : 0 < c) : n = c * n.tdiv c + n.tmod c ∧ -c < n.tmod c ∧ n.tmod c < c :=
  ⟨(Int.mul_tdiv_add_tmod n c).symm, Int.lt_tmod_of_pos n hc, Int.tmod_lt_of_pos n hc⟩

theorem pos_zero {n c : Int} (hc : 0 < c) (h : n.tmod c = 0) : n / c = n.tdiv c ∧ (-n) / c = -(n.tdiv c) := by
  obtain ⟨h1, _, _⟩ := tparts n c hc
  generalize n.tdiv c = p at *
  generalize n.tmod c = r at *
  subst h
  exact ⟨ediv_of hc h1 (by omega) hc, ediv_of hc (r := 0) (by rw [h1, Int.mul_neg]; omega) (by omega) hc⟩
theorem pos_up {n c : Int} (hc : 0 < c) (h : 0 < n.tmod c) : n / c = n.tdiv c ∧ (-n) / c = -(n.tdiv c) - 1 := by
  obtain ⟨h1, _, h3⟩ := tparts n c hc
  generalize n.tdiv c = p at *
  generalize n.tmod c = r at *
  exact ⟨ediv_of hc h1 (by omega) h3, ediv_of hc (r := c - r) (by rw [h1, Int.mul_sub, Int.mul_neg]; omega) (by omega) (by omega)⟩
theorem pos_down {n c : Int} (hc : 0 < c) (h : n.tmod c < 0) : n / c = n.tdiv c - 1 ∧ (-n) / c = -(n.tdiv c) := by
  obtain ⟨h1, h2, _⟩ := tparts n c hc
  generalize n.tdiv c = p at *
  generalize n.tmod c = r at *
  exact ⟨ediv_of hc (r := c + r) (by rw [h1, Int.mul_sub]; omega) (by omega) (by omega), ediv_of hc (r := -r) (by rw [h1, Int.mul_neg]; omega) (by omega) (by omega)⟩

theorem fl_pos {n d : Int} (h : 0 < d) : fl n d = n / d := by simp [fl, h]
theorem fl_neg {n d : Int} (h : d < 0) : fl n d = (-n) / (-d) := by
  have : ¬ 0 < d := by omega
  simp [fl, this]
theorem ce_pos {n d : Int} (h : 0 < d) : ce n d = -((-n) / d) := by simp [ce, fl_pos h]
theorem ce_neg {n d : Int} (h : d < 0) : ce n d = -(n / (-d)) := by simp [ce, fl_neg h]

theorem neg_tdiv {n d : Int} : n.tdiv (-d) = -(n.tdiv d) := by simp
theorem neg_tmod {n d : Int} : n.tmod (-d) = n.tmod d := by simp

theorem way_zero {n d : Int} (hd : ¬ d = 0) (h : (n.tmod d == 0) = true) : fl n d = n.tdiv d ∧ ce n d = n.tdiv d := by
  have h0 : n.tmod d = 0 := by simpa using h
  rcases (by omega : 0 < d ∨ d < 0) with hp | hn
  · obtain ⟨a, b⟩ := pos_zero hp h0
    rw [fl_pos hp, ce_pos hp, a, b]; exact ⟨rfl, by omega⟩
  · have h0' : n.tmod (-d) = 0 := by rw [neg_tmod]; exact h0
    obtain ⟨a, b⟩ := pos_zero (c := -d) (by omega) h0'
    rw [fl_neg hn, ce_neg hn, a, b, neg_tdiv]; exact ⟨by omega, by omega⟩
theorem way_down {n d : Int} (hd : ¬ d = 0) (h : (n.tmod d == 0) = false) (h2 : (!(decide (n.tmod d < 0) == decide (d < 0))) = true) : fl n d = n.tdiv d - 1 ∧ ce n d = n.tdiv d := by
  have h0 : ¬ n.tmod d = 0 := by simpa using h
  rcases (by omega : 0 < d ∨ d < 0) with hp | hn
  · have hs : n.tmod d < 0 := by
      have : ¬ d < 0 := by omega
      simp [this] at h2; omega
    obtain ⟨a, b⟩ := pos_down hp hs
    rw [fl_pos hp, ce_pos hp, a, b]; exact ⟨rfl, by omega⟩
  · have hs : 0 < n.tmod (-d) := by
      simp [hn] at h2; rw [neg_tmod]; omega
    obtain ⟨a, b⟩ := pos_up (c := -d) (by omega) hs
    rw [fl_neg hn, ce_neg hn, a, b, neg_tdiv]; exact ⟨by omega, by omega⟩
theorem way_up {n d : Int} (hd : ¬ d = 0) (h : (n.tmod d == 0) = false) (h2 : (!(decide (n.tmod d < 0) == decide (d < 0))) = false) : fl n d = n.tdiv d ∧ ce n d = n.tdiv d + 1 := by
  have h0 : ¬ n.tmod d = 0 := by simpa using h
  rcases (by omega : 0 < d ∨ d < 0) with hp | hn
  · have hs : 0 < n.tmod d := by
      have : ¬ d < 0 := by omega
      simp [this] at h2; omega
    obtain ⟨a, b⟩ := pos_up hp hs
    rw [fl_pos hp, ce_pos hp, a, b]; exact ⟨rfl, by omega⟩
  · have hs : n.tmod (-d) < 0 := by
      simp [hn] at h2; rw [neg_tmod]; omega
    obtain ⟨a, b⟩ := pos_down (c := -d) (by omega) hs
    rw [fl_neg hn, ce_neg hn, a, b, neg_tdiv]; exact ⟨by omega, by omega⟩

theorem tdiv_le (n d : Int) (B : Nat) (h1 : -(B : Int) ≤ n) (h2 : n ≤ B) : -(B : Int) ≤ n.tdiv d ∧ n.tdiv d ≤ B := by
  have h := Int.natAbs_tdiv n d
  have h3 : (n.tdiv d).natAbs ≤ n.natAbs := by rw [h]; exact Nat.div_le_self _ _
  omega

/-- What is told of rounding down, by a number above 0. -/
theorem fl_spec_pos {n d : Int} (h : 0 < d) : d * fl n d ≤ n ∧ n < d * fl n d + d := by
  rw [fl_pos h]
  have h1 := Int.mul_ediv_add_emod n d
  have h2 := Int.emod_nonneg n (by omega : d ≠ 0)
  have h3 := Int.emod_lt_of_pos n h
  omega
theorem ce_spec_pos {n d : Int} (h : 0 < d) : n ≤ d * ce n d ∧ d * ce n d < n + d := by
  have := fl_spec_pos (n := -n) h
  unfold ce
  rw [Int.mul_neg]; omega
theorem fl_spec_neg {n d : Int} (h : d < 0) : n ≤ d * fl n d ∧ d * fl n d < n - d := by
  have h1 := fl_spec_pos (n := -n) (d := -d) (by omega)
  rw [fl_pos (by omega)] at h1
  rw [fl_neg h]
  rw [Int.neg_mul] at h1
  omega
theorem ce_spec_neg {n d : Int} (h : d < 0) : d * ce n d ≤ n ∧ n + d < d * ce n d := by
  have := fl_spec_neg (n := -n) h
  unfold ce
  rw [Int.mul_neg]; omega
theorem fl_le_ce (n d : Int) (hd : ¬ d = 0) : fl n d ≤ ce n d ∧ ce n d ≤ fl n d + 1 := by
  by_cases h : n.tmod d = 0
  · obtain ⟨a, b⟩ := way_zero hd (by simpa using h)
    omega
  · have h' : (n.tmod d == 0) = false := by simpa using h
    cases h2 : (!(decide (n.tmod d < 0) == decide (d < 0)))
    · obtain ⟨a, b⟩ := way_up hd h' h2; omega
    · obtain ⟨a, b⟩ := way_down hd h' h2; omega

/-- The numbers next to n by d, if both may be; else error 4. -/
def nextR (n d : Int) : Int × Int × Int := if may (fl n d) = true ∧ may (ce n d) = true then (fl n d, ce n d, 0) else (0, 0, 4)
def timesR (a b : Int) : Int × Int × Int := if may a = true ∧ may b = true then nextR (a * b) 1000 else (0, 0, 1)
def byR (a b : Int) : Int × Int × Int := if may a = true ∧ may b = true then (if b = 0 then (0, 0, 8) else nextR (a * 1000) b) else (0, 0, 1)
theorem mul_bound {a b : Int} (ha : may a = true) (hb : may b = true) : -1000000000000000000 ≤ a * b ∧ a * b ≤ 1000000000000000000 := by
  have ha := (may_iff a).1 ha
  have hb := (may_iff b).1 hb
  have h : (a * b).natAbs = a.natAbs * b.natAbs := Int.natAbs_mul a b
  have h2 : a.natAbs * b.natAbs ≤ 1000000000 * 1000000000 := Nat.mul_le_mul (by omega) (by omega)
  omega
end Um
